
/-
  Who reaches a partition, and whether one does: the program's and the specification's. Conditions: the tables lie in memory; the program's table of extras holds what the program's text lays.
-/
import Derived.Test.YtfejlmoambidaaaGreatDoorBas
import Derived.Test.YtfejlmoambidaaaGreatDoorJrc
import Derived.Test.YtfejlmoambidaaaGreatDoorSp6
import Derived.Test.YtfejlmoambidaaaGreatDoorRl3
namespace Go.Proofs.YtfejlmoambidaaaGreatDoor
open Go.ChangeShapes Go.WideShapes Go.ChangeAt Go.RowKit Go.Deep Go.Joins Go.Sort
set_option linter.unusedVariables false

/-- What Joined tells. -/
def JR (t : Tb) (a : Ad) (p : Int) (zs : List Int) : Prop := (¬ (Sd t ∧ 0 ≤ p ∧ p < (a.pn : Int)) ∧ zs = []) ∨ ((Sd t ∧ 0 ≤ p ∧ p < (a.pn : Int)) ∧ zs = joinV t.cs a.pn p)
theorem JR.small {t : Tb} {a : Ad} {p : Int} {zs : List Int} (h : JR t a p zs) (hw : TW t a) : zs.length ≤ 6 := by
  rcases h with ⟨_, rfl⟩ | ⟨h, rfl⟩
  · simp
  · have := flt_len (its t.cs a.pn [p]) a.pn
    have h2 := (sd_wi h.1 hw).2.1
    unfold joinV
    omega
theorem JR.ex (t : Tb) (a : Ad) (p : Int) : ∃ zs, JR t a p zs := by
  by_cases h : Sd t ∧ 0 ≤ p ∧ p < (a.pn : Int)
  · exact ⟨_, .inr ⟨h, rfl⟩⟩
  · exact ⟨_, .inl ⟨h, rfl⟩⟩
set_option maxRecDepth 40000 in
set_option maxHeartbeats 8000000 in
theorem impl_joined (t : Tb) (a : Ad) (p : Int) (zs : List Int) (w : World) (hm : TM 0 w t a) (hw : TW t a) (hs : TS a) (he : TabE w) (hcp : a.pn ≤ a.pc) (hz : JR t a p zs) :
    Calls Tryz.prog 6 #[tbV t a, .int .i64 p] w (LPostI w zs) := by
  obtain ⟨q, hq⟩ := told (Sd t)
  obtain ⟨q2, hq2⟩ := told (0 ≤ p ∧ p < (a.pn : Int))
  have HB0 : Hid (Below w.heap.size w (w.alloc (.cells (tbA t a) 33))) := (Below.refl _ _).alloc (Nat.le_refl _) _
  have HX0 : Hid (TBx (w.alloc (.cells (tbA t a) 33)) w.heap.size t a) := TBx.new w t a _ rfl
  have HSO : Hid (Calls Tryz.prog 13 #[tbV t a] (w.alloc (.cells (tbA t a) 33)) fun e w' => e = .returned (.bool q) ∧ Below (w.alloc (.cells (tbA t a) 33)).heap.size (w.alloc (.cells (tbA t a) 33)) w') := impl_sound t a q _ (hm.below HB0.out) hw hs (he.below HB0.out) hcp hq
  have HHP : Hid (∀ Y, Calls Tryz.prog 14 #[tbV t a, .int .i64 p] Y fun e w' => e = .returned (.bool q2) ∧ Below Y.heap.size Y w') := fun Y => has_part t a p q2 Y hw.pb hq2
  have HRE : Hid (q = true → q2 = true → ∀ X, Below w.heap.size w X → Calls Tryz.prog 15 #[tbV t a, .int .i64 p] X (LPostI X zs)) := fun h1 h2 X hX => by
    rcases hz with ⟨h, _⟩ | ⟨_, h⟩
    · exact absurd ⟨hq.1 h1, hq2.1 h2⟩ h
    · rw [h]; exact impl_reach t a p X (hm.below hX) hw (hq.1 h1) (hq2.1 h2)
  have HNO : Hid (q = false ∨ q2 = false → zs = []) := fun h => by
    rcases hz with ⟨_, g⟩ | ⟨g, _⟩
    · exact g
    · rcases h with h | h
      · rw [hq.2 g.1] at h; cases h
      · rw [hq2.2 g.2] at h; cases h
  clear hm hw hs he hcp hz hq hq2
  go_enter Tryz.func6, Tryz.ntmps6
  go_wp2_with (first | (refine wpList_load_row rfl 33 (.tmp 2) rfl w.heap.size rfl 33 (tbA t a) (0, 0) _ HX0.out Tryz.underlying33 rfl (by kernel_rfl) ?_) | fail)
  refine Calls.mono HSO.out ?_
  rintro e w1 ⟨rfl, hb1⟩
  have HB1 : Hid (Below w.heap.size w w1) := HB0.out.trans (hb1.mono HB0.out.size)
  have HX1 : Hid (TBx w1 w.heap.size t a) := HX0.out.below hb1
  clear hb1 HB0 HX0 HSO
  cases q
  · have HT : Hid (zs = []) := HNO.out (.inl (by first | rfl | trivial))
    go_wp2
    go_ret
    exact ⟨_, _, by rw [HT.out]; rfl, HB1.out.alloc HB1.out.size _, by rw [HT.out]; exact fun h => absurd h (by simp)⟩
  go_wp2_with (first | (refine wpList_load_rowG rfl 33 (.tmp 2) rfl w.heap.size rfl 33 (tbA t a) (0, 0) _ HX1.out Tryz.underlying33 rfl (by kernel_rfl) ?_) | fail)
  refine Calls.mono (HHP.out _) ?_
  rintro e w2 ⟨rfl, hb2⟩
  have HB2 : Hid (Below w.heap.size w w2) := HB1.out.trans (hb2.mono HB1.out.size)
  have HX2 : Hid (TBx w2 w.heap.size t a) := HX1.out.below hb2
  clear hb2 HB1 HX1 HHP
  cases q2
  · have HT : Hid (zs = []) := HNO.out (.inr (by first | rfl | trivial))
    go_wp2
    go_ret
    exact ⟨_, _, by rw [HT.out]; rfl, HB2.out.alloc HB2.out.size _, by rw [HT.out]; exact fun h => absurd h (by simp)⟩
  go_wp2_with (first | (refine wpList_load_row rfl 33 (.tmp 2) rfl w.heap.size rfl 33 (tbA t a) (0, 0) _ HX2.out Tryz.underlying33 rfl (by kernel_rfl) ?_) | fail)
  refine Calls.mono (HRE.out (by first | rfl | trivial) (by first | rfl | trivial) _ HB2.out) ?_
  rintro e w3 ⟨A, cap, rfl, hb3, hoi⟩
  have HZ : Hid (Below w.heap.size w w3 ∧ OI w3 w.heap.size w3.heap.size A zs) := ⟨HB2.out.trans (hb3.mono HB2.out.size), hoi.wide HB2.out.size (Nat.le_refl _)⟩
  clear hb3 hoi HB2 HX2
  go_wp2
  go_ret
  exact ⟨A, cap, rfl, HZ.out.1, HZ.out.2⟩
end Go.Proofs.YtfejlmoambidaaaGreatDoor
