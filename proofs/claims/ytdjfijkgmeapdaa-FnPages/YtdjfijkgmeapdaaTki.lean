
/-
  Whether a table of pages is right: the program's own function. Conditions: the pages read as integers, at most 1048576 of them.
-/
import Derived.Test.YtdjfijkgmeapdaaProg
import Derived.Test.YtdjfijkgmeapdaaTok
namespace Go.Proofs.Ytdjfijkgmeapdaa
open Go.ChangeShapes Go.WideShapes Go.ChangeAt Go.RowKit Go.Deep
set_option linter.unusedVariables false

set_option maxHeartbeats 400000 in
theorem index_any (x : Int) (a : Option Addr) (cap n : Nat) (zs : List Int) (w : World) (hs : Seg .i64 w a zs) (hl : n ≤ zs.length) (hn : n ≤ 1048576) (q : Bool) (hq : q = true ↔ ∃ j, j < n ∧ zs.getD j 0 = x) :
    Calls Try.prog 35 #[.slice a n cap, .int .i64 x] w fun e w' => (∃ r : Int, e = .returned (.int .i64 r) ∧ decide (0 ≤ r) = q) ∧ w' = w := by
  have HQ : Hid _ := hq
  have HL : Hid _ := hl
  have HS : Hid (Seg .i64 w a zs) := hs
  clear hs hl hq
  go_enter Try.func35, Try.ntmps35
  go_wp2
  go_loopw [8] (fun i wr => ∃ k : Nat, k ≤ n ∧ i = .int .i64 k ∧ wr = w ∧ Hid (∀ j, j < k → zs.getD j 0 ≠ x)) (fun i _ => n - (intOf i).toNat)
  case atStart => exact ⟨0, by omega, rfl, rfl, fun j hj => absurd hj (by omega)⟩
  case round =>
    obtain ⟨k, hk, rfl, rfl, HG⟩ := hrel
    by_cases hkl : k < n
    rotate_left
    · obtain rfl : k = n := by omega
      have HF : Hid (false = q) := told_no HQ.out (fun ⟨j, hj, e⟩ => HG.out j hj e)
      go_wp2
      go_ret
      exact ⟨⟨_, rfl, by rw [← HF.out]; decide⟩, rfl⟩
    have hkl' : (k : Int) < (n : Int) := by omega
    obtain ⟨b2, o2, rfl, hbl2, e2⟩ := Seg.at (w := wr) HS.out k (Nat.lt_of_lt_of_le hkl HL.out)
    have HY : Hid (zs.getD k 0 = x → true = q) := fun h => told_yes HQ.out ⟨k, hkl, h⟩
    have HG2 : Hid (zs.getD k 0 ≠ x → ∀ j, j < k + 1 → zs.getD j 0 ≠ x) := fun h j hj => by
      by_cases e : j = k
      · subst e; exact h
      · exact HG.out j (by omega)
    generalize zs.getD k 0 = y at e2 HY HG2
    clear HG hbl2
    by_cases hyz : x = y
    · subst hyz
      have HF2 : Hid (true = q) := HY.out rfl
      go_wp2
      go_ret
      exact ⟨⟨_, rfl, by rw [← HF2.out]; exact decide_eq_true (by omega)⟩, rfl⟩
    · have hyz' : (x == y) = false := by simpa using hyz
      have HG3 : Hid _ := HG2.out (fun e => hyz e.symm)
      clear hyz
      go_wp2
      go_roundw
      case rel => exact ⟨k + 1, by omega, by go_num, trivial, HG3⟩
      case measure => simp [intOf]; omega
theorem has_any (x : Int) (a : Option Addr) (cap n : Nat) (zs : List Int) (w : World) (hs : Seg .i64 w a zs) (hl : n ≤ zs.length) (hn : n ≤ 1048576) (q : Bool) (hq : q = true ↔ ∃ j, j < n ∧ zs.getD j 0 = x) :
    Calls Try.prog 32 #[.slice a n cap, .int .i64 x] w fun e w' => e = .returned (.bool q) ∧ w' = w := by
  have HC : Hid _ := index_any x a cap n zs w hs hl hn q hq
  clear hs hl hq
  go_enter Try.func32, Try.ntmps32
  go_wp2_with fail
  refine Calls.mono HC.out ?_
  rintro u w2 ⟨⟨r, rfl, hr⟩, rfl⟩
  have HR : Hid _ := hr
  clear hr
  go_wp2
  go_ret
  exact ⟨ret_bool HR.out, rfl⟩
set_option maxHeartbeats 2000000 in
theorem impl_tok (s : Int) (a : Option Addr) (cap n : Nat) (zs : List Int) (w : World) (hs : Seg .i64 w a zs) (hl : zs.length = n) (hn : n ≤ 1048576) (hc : n ≤ cap) (q : Bool) (hq : q = true ↔ TlbOkP s zs) :
    Calls Try.prog 26 #[tlb s (.slice a n cap)] w fun e w' => e = .returned (.bool q) ∧ Below w.heap.size w w' := by
  have HQ : Hid _ := hq
  have HL : Hid _ := hl
  have hb0 : Below w.heap.size w (w.alloc (.cells #[.int .i64 s, .slice a n cap] 30)) := (Below.refl _ w).alloc (Nat.le_refl _) _
  have HS : Hid (Seg .i64 _ a zs) := hs.below hb0
  have B0 := Bk.new w #[.int .i64 s, .slice a n cap] 30 w.heap.size rfl
  have HK : Hid _ := And.intro (B0.cell 0 _ rfl) (B0.cell 1 _ rfl)
  have HB : Hid _ := hb0
  clear hs hl hq hb0 B0
  obtain ⟨sz, HSZ⟩ : ∃ sz, Hid (inr s 1 8 = sz) := ⟨_, rfl⟩
  go_enter Try.func26, Try.ntmps26
  go_wp2_with fail
  refine (size_any s _).mono ?_
  rintro u w1 ⟨rfl, rfl⟩
  rw [HSZ.out]
  cases sz
  · have HF : Hid (false = q) := told_no HQ.out (fun h => by have h1 := h.1; rw [HSZ.out] at h1; cases h1)
    go_wp2
    go_ret
    exact ⟨ret_bool HF.out, HB.out⟩
  by_cases hns : (n : Int) ≤ s
  rotate_left
  · have HF : Hid (false = q) := told_no HQ.out (fun h => hns (by have h1 := h.2.1; rw [HL.out] at h1; exact h1))
    have hns' : s < (n : Int) := by omega
    go_wp2
    go_ret
    exact ⟨ret_bool HF.out, HB.out⟩
  have hns' : ¬ (s < (n : Int)) := by omega
  have HN : Hid (TlbOkP s zs ↔ ∀ i, i < n → pgGood zs i) := ⟨fun h => by have h1 := h.2.2; rw [HL.out] at h1; exact h1, fun h => ⟨HSZ.out, by rw [HL.out]; exact hns, by rw [HL.out]; exact h⟩⟩
  go_wp2
  generalize w.alloc (.cells #[.int .i64 s, .slice a n cap] 30) = w1 at HS HK HB
  go_loopw [20] (fun i wr => ∃ r : Nat, r ≤ n ∧ i = .int .i64 r ∧ wr = w1 ∧ Hid (∀ j, j < r → pgGood zs j)) (fun i _ => n - (intOf i).toNat)
  case atStart => exact ⟨0, by omega, rfl, rfl, fun j hj => absurd hj (by omega)⟩
  case round =>
    obtain ⟨r, hr, rfl, rfl, HJ⟩ := hrel
    have k1 := HK.out.2
    by_cases hlt : r < n
    rotate_left
    · obtain rfl : r = n := by omega
      go_wp2
      go_ret
      exact ⟨ret_bool (told_yes HQ.out (HN.out.2 HJ.out)), HB.out⟩
    have hlt' : (r : Int) < (n : Int) := by omega
    obtain ⟨b1, o1, rfl, hbl1, e1⟩ := Seg.at (w := wr) HS.out r (by rw [HL.out]; exact hlt)
    have HF : Hid (¬ pgGood zs r → false = q) := fun h => told_no HQ.out (fun g => h (HN.out.1 g r hlt))
    have HT : Hid (pgGood zs r → ∀ j, j < r + 1 → pgGood zs j) := fun g j hj => by
      by_cases e : j = r
      · subst e; exact g
      · exact HJ.out j (by omega)
    have HRG : Hid (pgGood zs r ↔ (0 ≤ zs.getD r 0 ∧ zs.getD r 0 ≤ 1023) ∧ ∀ k, k < r → zs.getD k 0 ≠ zs.getD r 0) := Iff.rfl
    generalize pgGood zs r = G at HF HT HRG
    generalize zs.getD r 0 = z at e1 HRG
    clear hbl1 HJ
    by_cases hz0 : z < 0
    · have HF2 : Hid (false = q) := HF.out (fun g => by have := (HRG.out.1 g).1; omega)
      go_wp2
      go_ret
      exact ⟨ret_bool HF2.out, HB.out⟩
    by_cases hz1 : 1023 < z
    · have HF2 : Hid (false = q) := HF.out (fun g => by have := (HRG.out.1 g).1; omega)
      go_wp2
      go_ret
      exact ⟨ret_bool HF2.out, HB.out⟩
    obtain ⟨qh, hqh⟩ := told (∃ j, j < r ∧ zs.getD j 0 = z)
    have HQH : Hid _ := hqh
    clear hqh
    go_wp2_with fail
    refine (has_any z _ cap r zs _ HS.out (by rw [HL.out]; omega) (by omega) qh HQH.out).mono ?_
    rintro u w2 ⟨rfl, rfl⟩
    cases qh
    · have HT2 : Hid _ := HT.out (HRG.out.2 ⟨by omega, fun k hk e => by have := HQH.out.2 ⟨k, hk, e⟩; cases this⟩)
      go_wp2
      go_roundw
      case rel => exact ⟨r + 1, by omega, by go_num, trivial, HT2⟩
      case measure => simp [intOf]; omega
    · have HF2 : Hid (false = q) := HF.out (fun g => by obtain ⟨j, hj, e⟩ := HQH.out.1 rfl; exact (HRG.out.1 g).2 j hj e)
      go_wp2
      go_ret
      exact ⟨ret_bool HF2.out, HB.out⟩
end Go.Proofs.Ytdjfijkgmeapdaa
