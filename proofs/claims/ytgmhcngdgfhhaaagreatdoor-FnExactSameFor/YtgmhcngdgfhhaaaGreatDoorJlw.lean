
/-
  Who reaches a partition, and whether one does: the laws, walked. Conditions: the lists lie in memory; the program's table of extras holds what the program's text lays.
-/
import Derived.Test.YtgmhcngdgfhhaaaGreatDoorBas
import Derived.Test.YtgmhcngdgfhhaaaGreatDoorLsw
import Derived.Test.YtgmhcngdgfhhaaaGreatDoorJip
import Derived.Test.YtgmhcngdgfhhaaaGreatDoorMkt
namespace Go.Proofs.YtgmhcngdgfhhaaaGreatDoor
open Go.ChangeShapes Go.WideShapes Go.ChangeAt Go.RowKit Go.Deep Go.Joins
set_option linter.unusedVariables false

theorem copy_own (t : Tb) (a : Ad) (w : World) (hm : TM 0 w t a) (hw : TW t a) (hs : TS a) : Calls Tryz.prog 8 #[tbV t a] w fun e w' => ∃ a', e = .returned (tbV t a') ∧ Below w.heap.size w w' ∧ TM w.heap.size w' t a' ∧ Cpy w' t a a' :=
  (to_tab t a w hm hs).mono fun e w' ⟨a', he, hb, hm', e4, c4⟩ => by
    obtain ⟨h1, h2⟩ := ad_carry hm hm' hw hs e4
    exact ⟨a', he, hb, hm', ⟨hm'.wide (Nat.zero_le _), h1, h2, by rw [c4.1, e4.1]; exact Nat.le_refl _, by rw [c4.2.2.2, e4.2.2.2]; exact Nat.le_refl _, e4.1, e4.2.1, e4.2.2.1, e4.2.2.2⟩⟩
theorem tabE_pos {w : World} (h : TabE w) : 0 < w.heap.size := Nat.lt_of_le_of_lt (Nat.zero_le _) (World.block_lt_of_cell? w _ (h 0 (by omega)))
/-- What Joined tells, by the tables alone. -/
def JT (t : Tb) (p : Int) (zs : List Int) : Prop := (¬ (Sd t ∧ 0 ≤ p ∧ p < (t.ps.length : Int)) ∧ zs = []) ∨ ((Sd t ∧ 0 ≤ p ∧ p < (t.ps.length : Int)) ∧ zs = joinV t.cs t.ps.length p)
theorem JT.jr {t : Tb} {a : Ad} {p : Int} {zs : List Int} (h : JT t p zs) (hw : TW t a) : JR t a p zs := by
  unfold JT at h
  rw [hw.pl] at h
  exact h
theorem JT.len {t : Tb} {p : Int} {zs : List Int} (h : JT t p zs) : zs.length ≤ 6 := by
  rcases h with ⟨_, rfl⟩ | ⟨h, rfl⟩
  · simp
  · have h1 := flt_len (its t.cs t.ps.length [p]) t.ps.length
    have h8 := h.1 8 (by omega)
    simp only [R] at h8
    unfold joinV
    omega
theorem JT.unique {t : Tb} {p : Int} {zs ys : List Int} (h : JT t p zs) (g : JT t p ys) : zs = ys := by
  rcases h with ⟨h, rfl⟩ | ⟨h, rfl⟩ <;> rcases g with ⟨g, rfl⟩ | ⟨g, rfl⟩
  · rfl
  · exact absurd g h
  · exact absurd h g
  · rfl
theorem jt_ex (t : Tb) (p : Int) : ∃ zs, Hid (JT t p zs) ∧ zs.length ≤ 50000 := by
  by_cases h : Sd t ∧ 0 ≤ p ∧ p < (t.ps.length : Int)
  · have hj : JT t p (joinV t.cs t.ps.length p) := .inr ⟨h, rfl⟩
    exact ⟨_, hj, by have := hj.len; omega⟩
  · exact ⟨[], .inl ⟨h, rfl⟩, by simp⟩
theorem spec_jo (t : Tb) (a : Ad) (p : Int) (zs : List Int) (w : World) (hm : TM 0 w t a) (hw : TW t a) (hs : TS a) (hz : JT t p zs) : Calls Tryz.prog 22 #[tbV t a, .int .i64 p] w (LPostI w zs) := spec_joined t a p zs w hm hw hs (hz.jr hw)
def IR (t : Tb) (q p : Int) (r : Bool) : Prop := ∃ zs, JT t p zs ∧ r = decide (q ∈ zs)
theorem IR.unique {t : Tb} {q p : Int} {r s : Bool} (h : IR t q p r) (g : IR t q p s) : r = s := by
  obtain ⟨zs, h1, rfl⟩ := h
  obtain ⟨ys, g1, rfl⟩ := g
  rw [h1.unique g1]
end Go.Proofs.YtgmhcngdgfhhaaaGreatDoor
