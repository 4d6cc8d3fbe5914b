
/-
  The next first cycle of a slot: both sides, and the law, walked. Conditions: the lists lie in memory; the program's table of extras holds what the program's text lays.
-/
import Derived.Test.YtgfinojlmbfkdaaGreatDoorBas
import Derived.Test.YtgfinojlmbfkdaaGreatDoorLsw
import Derived.Test.YtgfinojlmbfkdaaGreatDoorTih
import Derived.Test.YtgfinojlmbfkdaaGreatDoorTio
namespace Go.Proofs.YtgfinojlmbfkdaaGreatDoor
open Go.ChangeShapes Go.WideShapes Go.ChangeAt Go.RowKit Go.Deep Go.Joins
set_option linter.unusedVariables false

/-- Whose slot begins at a place, or -1. -/
def firF (ss : List slT) (p : Int) : Nat → Int
  | 0 => -1
  | k + 1 => if 0 ≤ firF ss p k then firF ss p k else if (ss.getD k sl0).2.1 = p then (ss.getD k sl0).1 else -1
def firV (t : Tb) (p : Int) : Int := firF t.ss p t.ss.length
theorem firF_cases {t : Tb} (h : Tm t) (p : Int) : ∀ k, k ≤ t.ss.length → (firF t.ss p k = -1 ∧ ∀ i, i < k → (t.ss.getD i sl0).2.1 ≠ p) ∨ ∃ i : Nat, i < k ∧ (t.ss.getD i sl0).2.1 = p ∧ firF t.ss p k = (t.ss.getD i sl0).1 := by
  intro k
  induction k with
  | zero => intro _; exact .inl ⟨rfl, fun i hi => by omega⟩
  | succ k ih =>
    intro hk
    rcases ih (by omega) with ⟨g, hn⟩ | ⟨i, hi, hp, he⟩
    · by_cases q : (t.ss.getD k sl0).2.1 = p
      · refine .inr ⟨k, by omega, q, ?_⟩
        simp only [firF]
        rw [g, if_neg (by omega), if_pos q]
      · refine .inl ⟨?_, fun i hi => ?_⟩
        · simp only [firF]
          rw [g, if_neg (by omega), if_neg q]
        · by_cases e : i = k
          · subst e; exact q
          · exact hn i (by omega)
    · refine .inr ⟨i, by omega, hp, ?_⟩
      have := (h.pt i (by omega)).1
      simp only [firF]
      rw [he, if_pos this]
theorem firV_cases {t : Tb} (h : Tm t) (p : Int) : (firV t p = -1 ∧ ∀ i, i < t.ss.length → (t.ss.getD i sl0).2.1 ≠ p) ∨ ∃ i : Nat, i < t.ss.length ∧ (t.ss.getD i sl0).2.1 = p ∧ firV t p = (t.ss.getD i sl0).1 := firF_cases h p _ (Nat.le_refl _)
theorem firF_yes {t : Tb} (h : Tm t) {p : Int} {k : Nat} (hk : firF t.ss p k = -1) (hp : (t.ss.getD k sl0).2.1 = p) {n : Nat} (hn : k < n) (hl : n ≤ t.ss.length) : firF t.ss p n = (t.ss.getD k sl0).1 := by
  have h0 := (h.pt k (by omega)).1
  induction n with
  | zero => omega
  | succ n ih =>
    simp only [firF]
    by_cases e : k = n
    · subst e
      rw [hk, if_neg (by omega), if_pos hp]
    · rw [ih (by omega) (by omega), if_pos h0]
theorem firF_no {ss : List slT} {p : Int} {k : Nat} (h : firF ss p k = -1) (hp : ¬ (ss.getD k sl0).2.1 = p) : firF ss p (k + 1) = -1 := by
  simp only [firF]
  rw [h, if_neg (by omega), if_neg hp]
/-- The answer of NextSwitch. -/
def NR (t : Tb) (c r : Int) : Prop := (¬ (Sd t ∧ IsC c) ∧ r = -1) ∨ ((Sd t ∧ IsC c) ∧ NX t c r)
theorem NR.unique {t : Tb} {c r s : Int} (h : NR t c r) (g : NR t c s) : r = s := by
  rcases h with ⟨h, rfl⟩ | ⟨h, h1⟩ <;> rcases g with ⟨g, rfl⟩ | ⟨g, g1⟩
  · rfl
  · exact absurd g h
  · exact absurd h g
  · exact h1.unique g1
set_option maxRecDepth 40000 in
set_option maxHeartbeats 4000000 in
theorem impl_nextswitch (t : Tb) (a : Ad) (c : Int) (w : World) (hm : TM 0 w t a) (hw : TW t a) (hs : TS a) (he : TabE w) (hcp : a.pn ≤ a.pc) (hcs : a.sn ≤ a.sc) :
    Calls Tryz.prog 36 #[tbV t a, .int .i64 c] w fun e w' => (∃ r : Int, e = .returned (.int .i64 r) ∧ NR t c r) ∧ Below w.heap.size w w' := by
  obtain ⟨q, hq⟩ := told (Sd t ∧ IsC c)
  have HB0 : Hid (Below w.heap.size w (w.alloc (.cells (tbA t a) 46))) := (Below.refl _ _).alloc (Nat.le_refl _) _
  have HX0 : Hid (TBx (w.alloc (.cells (tbA t a) 46)) w.heap.size t a) := TBx.new w t a _ rfl
  have hbA : Below (w.alloc (.cells (tbA t a) 46)).heap.size (w.alloc (.cells (tbA t a) 46)) ((w.alloc (.cells (tbA t a) 46)).alloc (.cells #[.int .i64 c] 3)) := (Below.refl _ _).alloc (Nat.le_refl _) _
  have HBA : Hid (Below w.heap.size w ((w.alloc (.cells (tbA t a) 46)).alloc (.cells #[.int .i64 c] 3))) := HB0.out.trans (hbA.mono HB0.out.size)
  have HXA : Hid (TBx ((w.alloc (.cells (tbA t a) 46)).alloc (.cells #[.int .i64 c] 3)) w.heap.size t a) := HX0.out.below hbA
  have KA : Hid (GSeg 1 ((w.alloc (.cells (tbA t a) 46)).alloc (.cells #[.int .i64 c] 3)) (some ⟨w.heap.size + 1, 0, none⟩) 1 (inX [c])) := fun _ => ⟨w.heap.size + 1, 0, rfl, by simp, fun i hi => by
    have : i = 0 := by omega
    subst this
    exact CellsAt.new (w.alloc (.cells (tbA t a) 46)) [.int .i64 c] _ _ (by simp)⟩
  have HK : Hid (Calls Tryz.prog 81 #[tbV t a, .slice (some ⟨w.heap.size + 1, 0, none⟩) 1 1] ((w.alloc (.cells (tbA t a) 46)).alloc (.cells #[.int .i64 c] 3)) fun e w' => e = .returned (.bool q) ∧ Below ((w.alloc (.cells (tbA t a) 46)).alloc (.cells #[.int .i64 c] 3)).heap.size ((w.alloc (.cells (tbA t a) 46)).alloc (.cells #[.int .i64 c] 3)) w') :=
    keeps t a [c] 1 1 _ q _ (hm.below HBA.out) hw hs (he.below HBA.out) hcp KA.out (by omega) (hq.trans ⟨fun h => ⟨fun i hi => by
      have : i = 0 := by omega
      subst this; exact h.2, h.1⟩, fun h => ⟨h.2, h.1 0 (by omega)⟩⟩)
  have HI : Hid (Sd t ∧ IsC c → ∀ X, Below w.heap.size w X → Calls Tryz.prog 83 #[tbV t a, .int .i64 c] X fun e w' => (∃ (i : Nat) (r : Int), e = .returned (.agg #[.int .i64 (t.ss.getD i sl0).1, .int .i64 r, .int .i64 (t.ss.getD i sl0).2.2]) ∧ TN t c i r) ∧ Below X.heap.size X w') := fun h X hX => next_turn t a c X (hm.below hX) hw hs hcs (sd_tm h.1) h.2.1 (by have := h.2.2; omega)
  have HQ : Hid (q = true ↔ (Sd t ∧ IsC c)) := hq
  clear hm hw hs hq he hcp hcs KA hbA HB0
  go_enter Tryz.func36, Tryz.ntmps36
  go_wp2_with (first | (refine wpList_load_row rfl 46 (.tmp 2) rfl w.heap.size rfl 46 (tbA t a) (0, 0) _ HX0.out Tryz.underlying46 rfl (by kernel_rfl) ?_) | fail)
  refine Calls.mono HK.out ?_
  rintro e w1 ⟨rfl, hb1⟩
  have HB1 : Hid (Below w.heap.size w w1) := HBA.out.trans (hb1.mono HBA.out.size)
  have HX1 : Hid (TBx w1 w.heap.size t a) := HXA.out.below hb1
  clear hb1 HBA HXA HK HX0
  cases q
  · have HT : Hid (¬ (Sd t ∧ IsC c)) := fun h => by have := HQ.out.2 h; cases this
    clear HQ HI HX1
    go_wp2
    go_ret
    exact ⟨⟨_, rfl, .inl ⟨HT.out, rfl⟩⟩, HB1.out⟩
  have HT : Hid (Sd t ∧ IsC c) := HQ.out.1 rfl
  clear HQ
  go_wp2_with (first | (refine wpList_load_row rfl 46 (.tmp 2) rfl w.heap.size rfl 46 (tbA t a) (0, 0) _ HX1.out Tryz.underlying46 rfl (by kernel_rfl) ?_) | fail)
  refine Calls.mono (HI.out HT.out _ HB1.out) ?_
  rintro e w2 ⟨⟨i, r, rfl, hr⟩, hb2⟩
  have HB2 : Hid (Below w.heap.size w w2) := HB1.out.trans (hb2.mono HB1.out.size)
  have HR : Hid (NX t c r) := hr.2.2.1
  clear hb2 HB1 HX1 HI hr
  generalize (t.ss.getD i sl0).1 = y1
  generalize (t.ss.getD i sl0).2.2 = y3
  have hfl : ∀ w, (Instr.field 72 (.agg #[.int .i64 y1, .int .i64 r, .int .i64 y3]) 1).run Tryz.prog w = .ok (.int .i64 r) w := fun w => by kernel_rfl
  go_wp2
  go_ret
  exact ⟨⟨_, rfl, .inr ⟨HT.out, HR.out⟩⟩, HB2.out⟩
end Go.Proofs.YtgfinojlmbfkdaaGreatDoor
