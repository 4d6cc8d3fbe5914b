
/-
  Whether the page of an address is known: the specification's and the program's own functions answer alike. Conditions: the pages read as integers, at most 1048576 of them.
-/
import Derived.Test.YtdjfijkgmeapdaaProg
import Derived.Test.YtdjfijkgmeapdaaApl
import Derived.Test.YtdjfijkgmeapdaaRgu
namespace Go.Proofs.Ytdjfijkgmeapdaa
open Go.ChangeShapes Go.WideShapes Go.ChangeAt Go.RowKit Go.Deep
set_option linter.unusedVariables false

theorem addr_any (x : Int) (w : World) : Calls Try.prog 20 #[.int .i64 x] w fun e w' => e = .returned (.bool (inr x 0 65535)) ∧ w' = w := by
  by_cases h1 : 0 ≤ x
  · by_cases h2 : x ≤ 65535
    · rw [inr_yes ⟨h1, h2⟩]
      go_enter Try.func20, Try.ntmps20
      go_wp2
      go_ret
      exact ⟨rfl, rfl⟩
    · rw [inr_no (fun g => h2 g.2)]
      go_enter Try.func20, Try.ntmps20
      go_wp2
      go_ret
      exact ⟨rfl, rfl⟩
  · rw [inr_no (fun g => h1 g.1)]
    go_enter Try.func20, Try.ntmps20
    go_wp2
    go_ret
    exact ⟨rfl, rfl⟩
theorem page_any (m : Nat) (w : World) (hm : m ≤ 65535) : Calls Try.prog 22 #[.int .i64 (m : Int)] w fun e w' => e = .returned (.int .i64 ((m / 64 : Nat) : Int)) ∧ w' = w := by
  go_enter Try.func22, Try.ntmps22
  go_wp2
  go_ret
  exact ⟨ret_int (by omega), rfl⟩
theorem page_ok {m : Nat} (hm : m ≤ 65535) : 0 ≤ ((m / 64 : Nat) : Int) ∧ ((m / 64 : Nat) : Int) ≤ 1023 := by omega
def pageN (x : Int) : Int := ((x.toNat / 64 : Nat) : Int)
def THoldP (s : Int) (zs : List Int) (x : Int) : Prop := TlbOkP s zs ∧ inr x 0 65535 = true ∧ zs.contains (pageN x) = true
theorem ok_pages {s : Int} {zs : List Int} (h : TlbOkP s zs) : zs.Nodup ∧ ∀ x ∈ zs, 0 ≤ x ∧ x ≤ 1023 := by
  refine ⟨List.pairwise_iff_getElem.2 fun i j hi hj hij e => ?_, fun x hx => ?_⟩
  · have := (h.2.2 j hj).2 i hij
    simp [List.getD, hi, hj] at this
    exact this e
  · obtain ⟨i, hi, rfl⟩ := List.mem_iff_getElem.1 hx
    have := (h.2.2 i hi).1
    simpa [List.getD, hi] using this
set_option maxHeartbeats 1000000 in
theorem impl_thold (s x : Int) (a : Option Addr) (cap n : Nat) (zs : List Int) (w : World) (hs : Seg .i64 w a zs) (hl : zs.length = n) (hn : n ≤ 1048576) (hc : n ≤ cap) (q : Bool) (hq : q = true ↔ THoldP s zs x) :
    Calls Try.prog 12 #[tlb s (.slice a n cap), .int .i64 x] w fun e w' => e = .returned (.bool q) ∧ Below w.heap.size w w' := by
  have HQ : Hid (q = true ↔ THoldP s zs x) := hq
  have HL : Hid _ := hl
  have hb0 : Below w.heap.size w (w.alloc (.cells #[.int .i64 s, .slice a n cap] 30)) := (Below.refl _ w).alloc (Nat.le_refl _) _
  have HS : Hid (Seg .i64 _ a zs) := hs.below hb0
  have HK : Hid _ := Bk.new w #[.int .i64 s, .slice a n cap] 30 w.heap.size rfl
  have HB : Hid _ := hb0
  obtain ⟨qk, hqk⟩ := told (TlbOkP s zs)
  have HQK : Hid _ := hqk
  clear hs hl hq hb0 hqk
  obtain ⟨qa, HQA⟩ : ∃ qa, Hid (inr x 0 65535 = qa) := ⟨_, rfl⟩
  go_enter Try.func12, Try.ntmps12
  go_wp2_with fail
  refine Calls.mono (impl_tok s a cap n zs _ HS.out HL.out hn hc qk HQK.out) ?_
  rintro u w1 ⟨rfl, hb1⟩
  have k0 := (HK.out.below hb1).cell 0 _ rfl
  have k1 := (HK.out.below hb1).cell 1 _ rfl
  have HB1 : Hid _ := HB.out.trans (hb1.mono HB.out.size)
  have HS1 : Hid (Seg .i64 _ a zs) := Seg.below HS.out hb1
  clear hb1 HK HB HS
  cases qk
  · have HF : Hid (false = q) := told_no HQ.out (fun h => by have := HQK.out.2 h.1; cases this)
    go_wp2
    go_ret
    exact ⟨ret_bool HF.out, HB1.out⟩
  go_wp2_with fail
  refine Calls.mono (addr_any x _) ?_
  rintro u w2 ⟨rfl, rfl⟩
  rw [HQA.out]
  cases qa
  · have HF : Hid (false = q) := told_no HQ.out (fun h => by have := h.2.1; rw [HQA.out] at this; cases this)
    go_wp2
    go_ret
    exact ⟨ret_bool HF.out, HB1.out⟩
  obtain ⟨m, rfl⟩ : ∃ m : Nat, x = (m : Int) := ⟨x.toNat, by have := of_inr HQA.out; omega⟩
  have hm : m ≤ 65535 := by have := of_inr HQA.out; omega
  have HM : Hid _ := hm
  obtain ⟨p, HP⟩ : ∃ p : Nat, Hid (m / 64 = p) := ⟨_, rfl⟩
  have HC : Hid (q = zs.contains (p : Int)) := by
    have e : pageN (m : Int) = (p : Int) := by simp [pageN, HP.out]
    have h := HQ.out
    rw [THoldP, e] at h
    rw [Bool.eq_iff_iff]
    exact ⟨fun g => (h.1 g).2.2, fun g => h.2 ⟨HQK.out.1 trivial, HQA.out, g⟩⟩
  have HOK : Hid (TlbOkP s zs) := HQK.out.1 trivial
  clear hm
  go_wp2_with fail
  refine Calls.mono (ring_of s a cap n zs _ HS1.out HL.out (of_inr HOK.out.1) (by have := HOK.out.2.1; rw [HL.out] at this; exact this) (ok_pages HOK.out).1 (ok_pages HOK.out).2) ?_
  rintro u w3 ⟨rfl, ⟨o3, ps3, hr3⟩, hb3⟩
  have HR3 : Hid _ := hr3
  have HB3 : Hid _ := HB1.out.trans (hb3.mono HB1.out.size)
  clear hr3 hb3 k0 k1
  go_wp2_with fail
  refine Calls.mono (page_any m _ HM.out) ?_
  rintro u w4 ⟨rfl, rfl⟩
  rw [HP.out]
  go_wp2_with fail
  refine Calls.mono (holds_any _ _ (p : Int) zs _ HR3.out.c10 HR3.out.set (wf_page (by rw [← HP.out]; exact page_ok HM.out))) ?_
  rintro u w5 ⟨rfl, hb5⟩
  rw [← HC.out]
  have HB5 : Hid _ := HB3.out.trans (hb5.mono HB3.out.size)
  clear hb5
  go_wp2
  go_ret
  exact ⟨rfl, HB5.out⟩
end Go.Proofs.Ytdjfijkgmeapdaa
