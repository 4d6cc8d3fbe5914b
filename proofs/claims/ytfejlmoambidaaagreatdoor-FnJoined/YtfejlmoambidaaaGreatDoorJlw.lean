
/-
  Who reaches a partition, and whether one does: the laws, walked. Conditions: the lists lie in memory; the program's table of extras holds what the program's text lays.
-/
import Derived.Test.YtfejlmoambidaaaGreatDoorBas
import Derived.Test.YtfejlmoambidaaaGreatDoorLsw
import Derived.Test.YtfejlmoambidaaaGreatDoorJip
import Derived.Test.YtfejlmoambidaaaGreatDoorMkt
namespace Go.Proofs.YtfejlmoambidaaaGreatDoor
open Go.ChangeShapes Go.WideShapes Go.ChangeAt Go.RowKit Go.Deep Go.Joins
set_option linter.unusedVariables false

theorem tabE_pos {w : World} (h : TabE w) : 0 < w.heap.size := Nat.lt_of_le_of_lt (Nat.zero_le _) (World.block_lt_of_cell? w _ (h 0 (by omega)))
/-- What Joined tells, by the tables alone. -/
def JT (t : Tb) (p : Int) (zs : List Int) : Prop := (¬ (Sd t ∧ 0 ≤ p ∧ p < (t.ps.length : Int)) ∧ zs = []) ∨ ((Sd t ∧ 0 ≤ p ∧ p < (t.ps.length : Int)) ∧ zs = joinV t.cs t.ps.length p)
theorem JT.jr {t : Tb} {a : Ad} {p : Int} {zs : List Int} (h : JT t p zs) (hw : TW t a) : JR t a p zs := by
  unfold JT at h
  rw [hw.pl] at h
  exact h
theorem JT.len {t : Tb} {p : Int} {zs : List Int} (h : JT t p zs) : zs.length ≤ 6 := by
  rcases h with ⟨_, rfl⟩ | ⟨h, rfl⟩
  · simp
  · have h1 := flt_len (its t.cs t.ps.length [p]) t.ps.length
    have h8 := h.1 8 (by omega)
    simp only [R] at h8
    unfold joinV
    omega
theorem JT.unique {t : Tb} {p : Int} {zs ys : List Int} (h : JT t p zs) (g : JT t p ys) : zs = ys := by
  rcases h with ⟨h, rfl⟩ | ⟨h, rfl⟩ <;> rcases g with ⟨g, rfl⟩ | ⟨g, rfl⟩
  · rfl
  · exact absurd g h
  · exact absurd h g
  · rfl
theorem jt_ex (t : Tb) (p : Int) : ∃ zs, Hid (JT t p zs) ∧ zs.length ≤ 50000 := by
  by_cases h : Sd t ∧ 0 ≤ p ∧ p < (t.ps.length : Int)
  · have hj : JT t p (joinV t.cs t.ps.length p) := .inr ⟨h, rfl⟩
    exact ⟨_, hj, by have := hj.len; omega⟩
  · exact ⟨[], .inl ⟨h, rfl⟩, by simp⟩
theorem impl_jo (t : Tb) (a : Ad) (p : Int) (zs : List Int) (w : World) (hm : TM 0 w t a) (hw : TW t a) (hs : TS a) (he : TabE w) (hcp : a.pn ≤ a.pc) (hcs : a.sn ≤ a.sc) (hz : JT t p zs) : Calls Tryz.prog 6 #[tbV t a, .int .i64 p] w (LPostI w zs) := impl_joined t a p zs w hm hw hs he hcp (hz.jr hw)
def IR (t : Tb) (q p : Int) (r : Bool) : Prop := ∃ zs, JT t p zs ∧ r = decide (q ∈ zs)
theorem IR.unique {t : Tb} {q p : Int} {r s : Bool} (h : IR t q p r) (g : IR t q p s) : r = s := by
  obtain ⟨zs, h1, rfl⟩ := h
  obtain ⟨ys, g1, rfl⟩ := g
  rw [h1.unique g1]
set_option maxRecDepth 40000 in
set_option maxHeartbeats 4000000 in
theorem impl_inf (t : Tb) (a : Ad) (q p : Int) (w : World) (hm : TM 0 w t a) (hw : TW t a) (hs : TS a) (he : TabE w) (hcp : a.pn ≤ a.pc) :
    Calls Tryz.prog 8 #[tbV t a, .int .i64 q, .int .i64 p] w fun e w' => (∃ r : Bool, e = .returned (.bool r) ∧ IR t q p r) ∧ Below w.heap.size w w' := by
  obtain ⟨zs, hz, hzl⟩ := jt_ex t p
  have HB0 : Hid (Below w.heap.size w (w.alloc (.cells (tbA t a) 33))) := (Below.refl _ _).alloc (Nat.le_refl _) _
  have HX0 : Hid (TBx (w.alloc (.cells (tbA t a) 33)) w.heap.size t a) := TBx.new w t a _ rfl
  have HJ : Hid (Calls Tryz.prog 6 #[tbV t a, .int .i64 p] (w.alloc (.cells (tbA t a) 33)) (LPostI (w.alloc (.cells (tbA t a) 33)) zs)) := impl_joined t a p zs _ (hm.below HB0.out) hw hs (he.below HB0.out) hcp (hz.out.jr hw)
  obtain ⟨r, HR⟩ : ∃ r, Hid (decide (q ∈ zs) = r) := ⟨_, rfl⟩
  have HI : Hid (IR t q p r) := ⟨zs, hz.out, HR.out.symm⟩
  clear hm hw hs hz he hcp
  go_enter Tryz.func8, Tryz.ntmps8
  go_wp2_with (first | (refine wpList_load_row rfl 33 (.tmp 3) rfl w.heap.size rfl 33 (tbA t a) (0, 0) _ HX0.out Tryz.underlying33 rfl (by kernel_rfl) ?_) | fail)
  refine Calls.mono HJ.out ?_
  rintro e w1 ⟨A, cap, rfl, hb1, hoi⟩
  have HB1 : Hid (Below w.heap.size w w1) := HB0.out.trans (hb1.mono HB0.out.size)
  have HS1 : Hid (Seg .i64 w1 A zs) := hoi.seg
  clear hb1 hoi HB0 HX0 HJ
  go_wp2_with fail
  refine Calls.mono (con_l A cap zs q r _ HS1.out (by omega) HR.out) ?_
  rintro e w2 ⟨rfl, hw2⟩
  subst hw2
  go_wp2
  go_ret
  exact ⟨⟨_, rfl, HI.out⟩, HB1.out⟩
end Go.Proofs.YtfejlmoambidaaaGreatDoor
