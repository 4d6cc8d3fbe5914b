
/-
  A use of a table of pages: the specification's and the program's own functions answer alike, each in memory of its own. Conditions: the pages read as integers, at most 1048576 of them.
-/
import Derived.Test.YtdjfijkgmeapdaaProg
import Derived.Test.YtdjfijkgmeapdaaSpt
namespace Go.Proofs.Ytdjfijkgmeapdaa
open Go.ChangeShapes Go.WideShapes Go.ChangeAt Go.RowKit Go.Deep
set_option linter.unusedVariables false

/-- A table and a truth value are handed back, the table in memory of the call's own. -/
def UPost (X : World) (S : Int) (q : Bool) (R : List Int) (e : Ending) (w' : World) : Prop :=
  ∃ v, e = .returned (.tuple #[tlb S v, .bool q]) ∧ Below X.heap.size X w' ∧ OwnL w' X.heap.size v R
theorem OwnL.nul (w : World) (base : Nat) : OwnL w base (.slice none 0 0) [] := ⟨rfl, .inl ⟨rfl, rfl⟩⟩
set_option maxHeartbeats 1000000 in
theorem impl_tu_no (s x : Int) (a : Option Addr) (cap n : Nat) (zs : List Int) (w : World) (hs : Seg .i64 w a zs) (hl : zs.length = n) (hn : n ≤ 1048576) (hc : n ≤ cap) (hq : ¬ (TlbOkP s zs ∧ inr x 0 65535 = true)) :
    Calls Try.prog 10 #[tlb s (.slice a n cap), .int .i64 x] w (UPost w 0 false []) := by
  have HL : Hid _ := hl
  have hb0 : Below w.heap.size w ((w.alloc (.cells #[.int .i64 s, .slice a n cap] 30)).alloc (.cells #[.int .i64 0, .slice none 0 0] 30)) := ((Below.refl _ w).alloc (Nat.le_refl _) _).alloc (by simp) _
  have HS : Hid (Seg .i64 _ a zs) := hs.below hb0
  have HR : Hid _ := Bk.new (w.alloc (.cells #[.int .i64 s, .slice a n cap] 30)) #[.int .i64 0, .slice none 0 0] 30 (w.heap.size + 1) (by simp)
  have HB : Hid _ := hb0
  obtain ⟨qk, hqk⟩ := told (TlbOkP s zs)
  have HQK : Hid _ := hqk
  obtain ⟨qa, HQA⟩ : ∃ qa, Hid (inr x 0 65535 = qa) := ⟨_, rfl⟩
  have HQ : Hid (qk = true → qa = false) := fun h => by
    cases qa
    · rfl
    · exact absurd ⟨hqk.1 h, HQA.out⟩ hq
  clear hs hl hq hb0 hqk
  go_enter Try.func10, Try.ntmps10
  go_wp2_with fail
  refine Calls.mono (impl_tok s a cap n zs _ HS.out HL.out hn hc qk HQK.out) ?_
  rintro u w1 ⟨rfl, hb1⟩
  have r0 := (HR.out.below hb1).cell 0 _ rfl
  have r1 := (HR.out.below hb1).cell 1 _ rfl
  have rf := (HR.out.below hb1).free
  have F := ((HR.out.below hb1).set 0 (.int .i64 0) (by simp) rfl).set 1 (.slice none 0 0) (by simp) rfl
  have r2 := ((HR.out.below hb1).set 0 (.int .i64 0) (by simp) rfl).cell 1 _ rfl
  have n0 := F.cell 0 _ rfl
  have n1 := F.cell 1 _ rfl
  have HB1 : Hid _ := ((HB.out.trans (hb1.mono HB.out.size)).setCell (p := ⟨w.heap.size + 1, 0, none⟩) (by simp) (.int .i64 0)).setCell (p := ⟨w.heap.size + 1, 1, none⟩) (by simp) (.slice none 0 0)
  clear hb1 HB HS HR F
  cases qk
  · go_wp2
    refine bodyPost_ret (v := .tuple #[tlb 0 (.slice none 0 0), .bool false]) (by simp [results, Try.results10, go_sem, n0, n1]) rfl ⟨_, rfl, HB1.out, OwnL.nul _ _⟩
  obtain rfl : qa = false := HQ.out (by first | rfl | trivial)
  go_wp2_with fail
  refine Calls.mono (addr_any x _) ?_
  rintro u w2 ⟨rfl, rfl⟩
  rw [HQA.out]
  go_wp2
  refine bodyPost_ret (v := .tuple #[tlb 0 (.slice none 0 0), .bool false]) (by simp [results, Try.results10, go_sem, n0, n1]) rfl ⟨_, rfl, HB1.out, OwnL.nul _ _⟩
/-- A list of the call's own, while a cell below its base is written. -/
theorem OwnL.setLow {w : World} {base : Nat} {v : Value} {zs : List Int} (h : OwnL w base v zs) (b i : Nat) (u : Value) (hb : b < base) : OwnL (w.setCell ⟨b, i, none⟩ u) base v zs :=
  ownsRow_betw h ((Betw.refl b (b + 1) w).setCell (p := ⟨b, i, none⟩) (Nat.le_refl _) (Nat.lt_succ_self _) _) (by omega)
set_option maxHeartbeats 2000000 in
set_option maxRecDepth 100000 in
theorem impl_tu_yes (s : Int) (m p : Nat) (a : Option Addr) (cap n : Nat) (zs : List Int) (w : World) (hs : Seg .i64 w a zs) (hl : zs.length = n) (hn : n ≤ 1048576) (hc : n ≤ cap) (hq : TlbOkP s zs) (hm : m ≤ 65535) (hp : m / 64 = p) (q : Bool) (hqq : zs.contains (p : Int) = q) (R : List Int) (hR : useU s zs (p : Int) = R) :
    Calls Try.prog 10 #[tlb s (.slice a n cap), .int .i64 (m : Int)] w (UPost w s q R) := by
  have HL : Hid _ := hl
  have hb0 : Below w.heap.size w ((w.alloc (.cells #[.int .i64 s, .slice a n cap] 30)).alloc (.cells #[.int .i64 0, .slice none 0 0] 30)) := ((Below.refl _ w).alloc (Nat.le_refl _) _).alloc (by simp) _
  have HS : Hid (Seg .i64 _ a zs) := hs.below hb0
  have HR : Hid _ := Bk.new (w.alloc (.cells #[.int .i64 s, .slice a n cap] 30)) #[.int .i64 0, .slice none 0 0] 30 (w.heap.size + 1) (by simp)
  have HK : Hid _ := (Bk.new w #[.int .i64 s, .slice a n cap] 30 w.heap.size rfl).alloc (.cells #[.int .i64 0, .slice none 0 0] 30)
  have HB : Hid _ := hb0
  have HQ : Hid (TlbOkP s zs) := hq
  have HX : Hid (inr (m : Int) 0 65535 = true) := inr_yes (by omega)
  have HMP : Hid _ := And.intro hm (And.intro hp (And.intro hqq hR))
  clear hs hl hq hb0 hm hp hqq hR
  go_enter Try.func10, Try.ntmps10
  go_wp2_with fail
  refine Calls.mono (impl_tok s a cap n zs _ HS.out HL.out hn hc true ⟨fun _ => HQ.out, fun _ => rfl⟩) ?_
  rintro u w1 ⟨rfl, hb1⟩
  have HR1 : Hid _ := HR.out.below hb1
  have HK1 : Hid _ := HK.out.below hb1
  have HS1 : Hid (Seg .i64 _ a zs) := Seg.below HS.out hb1
  have HB1 : Hid _ := HB.out.trans (hb1.mono HB.out.size)
  have k0 := HK1.out.cell 0 _ rfl
  have k1 := HK1.out.cell 1 _ rfl
  clear hb1 HB HS HR HK
  go_wp2_with fail
  refine Calls.mono (addr_any (m : Int) _) ?_
  rintro u w2 ⟨rfl, rfl⟩
  rw [HX.out]
  go_wp2_with fail
  refine Calls.mono (ring_of s a cap n zs _ HS1.out HL.out (of_inr HQ.out.1) (by have := HQ.out.2.1; rw [HL.out] at this; exact this) (ok_pages HQ.out).1 (ok_pages HQ.out).2) ?_
  rintro u w3 ⟨rfl, ⟨o3, ps3, hr3⟩, hb3⟩
  have hlt2 : w.heap.size + 1 < w2.heap.size := HR1.out.lt
  have HB3 : Hid _ := HB1.out.trans (hb3.mono HB1.out.size)
  have HR3 : Hid _ := HR1.out.below hb3
  have HK3 : Hid _ := HK1.out.below hb3
  have HG3 : Hid _ := hr3
  clear hr3 hb3 k0 k1 HB1 HR1 HK1
  go_wp2_with fail
  refine Calls.mono (page_any m _ HMP.out.1) ?_
  rintro u w4 ⟨rfl, rfl⟩
  rw [HMP.out.2.1]
  go_wp2_with fail
  refine Calls.mono (use_any _ _ s (p : Int) o3 ps3 zs _ HG3.out (by rw [← HMP.out.2.1]; exact page_ok HMP.out.1)) ?_
  rintro u w5 ⟨rfl, ⟨o5, ps5, hr5⟩, ht5⟩
  rw [HMP.out.2.2.1]
  rw [HMP.out.2.2.2] at hr5
  have hb5 : Below w2.heap.size w4 w5 := ht5.below (by have := HG3.out.set.lt; omega) (by omega) (by omega)
  have hkeep : ∀ b, b < w2.heap.size → w5.heap[b]? = w4.heap[b]? := fun b hb => hb5.block b hb
  have HB5 : Hid _ := HB3.out.trans (hb5.mono (by omega))
  have HR5 : Hid (Bk w5 (w.heap.size + 1) #[.int .i64 0, .slice none 0 0]) := HR3.out.betw (lo := w2.heap.size) (hi := w4.heap.size) ⟨hb5.os, hb5.tape, hb5.output, hb5.size, fun k hk ho => by rcases ho with ho | ho; exact hb5.block k ho; omega⟩ (.inl (by omega))
  have HK5 : Hid (Bk w5 w.heap.size #[.int .i64 s, .slice a n cap]) := HK3.out.betw (lo := w2.heap.size) (hi := w4.heap.size) ⟨hb5.os, hb5.tape, hb5.output, hb5.size, fun k hk ho => by rcases ho with ho | ho; exact hb5.block k ho; omega⟩ (.inl (by omega))
  have HG5 : Hid _ := hr5
  have hlt5 : w.heap.size + 1 < w5.heap.size := HR5.out.lt
  clear hr5 hb5 hkeep ht5 HB3 HR3 HK3 HG3
  have k0 := HK5.out.cell 0 _ rfl
  have HNE : Hid (w.heap.size ≠ w.heap.size + 1) := by show _ ≠ _; omega
  have hb : Below w5.heap.size w5 w5 := Below.refl _ _
  go_wp2
  go_region_held3 (fun w' => w'.cell? ⟨w.heap.size, 0, none⟩ = some (.int .i64 s)) (first | exact k0 | exact st2 HNE.out k0)
    (first | (go_at_call 27; refine Calls.mono (list_any _ _ R.length s o5 ps5 R _ (Rg.below HG5.out (by first | exact hb | exact hb.drew)) rfl) ?_; rintro u w6 ⟨⟨v6, rfl, hown⟩, hbb⟩; obtain ⟨a6, c6, rfl, _⟩ := OwnL.oi hown; have HOW : Hid _ := hown; (first | replace hb := hb.trans (hbb.mono hb.size) | replace hb := hb.drew.trans (hbb.mono hb.drew.size)); replace k0 := kept_cell hbb k0; have HR6 : Hid _ := HR5.out.below hb; have r0 := HR6.out.cell 0 _ rfl; have rf := HR6.out.free; have r1 := (HR6.out.set 0 (.int .i64 s) (by simp) rfl).cell 1 _ rfl; clear hbb hown))
  have F := (HR6.out.set 0 (.int .i64 s) (by simp) rfl).set 1 (.slice a6 R.length c6) (by simp) rfl
  have n0 := F.cell 0 _ rfl
  have n1 := F.cell 1 _ rfl
  have hown : OwnL w6 w5.heap.size (.slice a6 R.length c6) R := HOW.out
  have hb4 := ((HB5.out.trans (hb.mono (by have := HB5.out.size; omega))).setCell (p := ⟨w.heap.size + 1, 0, none⟩) (by simp) (.int .i64 s)).setCell (p := ⟨w.heap.size + 1, 1, none⟩) (by simp) (.slice a6 R.length c6)
  have HZ : Hid _ := And.intro hb4 (OwnL.low (b' := w.heap.size) ((hown.setLow (w.heap.size + 1) 0 (.int .i64 s) hlt5).setLow (w.heap.size + 1) 1 (.slice a6 R.length c6) hlt5) (by omega))
  clear hown F hb4 HOW r0 r1 rf k0 hb
  go_wp2
  refine bodyPost_ret (v := .tuple #[tlb s (.slice a6 R.length c6), .bool q]) (by simp [results, Try.results10, go_sem, n0, n1]) rfl ⟨_, rfl, HZ.out.1, HZ.out.2⟩
theorem useU_len {s : Int} {zs : List Int} {x : Int} (h : (zs.length : Int) ≤ s) : ((useU s zs x).length : Int) ≤ s ∨ s < 1 := by
  unfold useU pushU
  split
  · exact .inl h
  · split
    · by_cases h1 : s < 1
      · exact .inr h1
      · refine .inl ?_
        simp; omega
    · refine .inl ?_
      simp; omega
end Go.Proofs.Ytdjfijkgmeapdaa
