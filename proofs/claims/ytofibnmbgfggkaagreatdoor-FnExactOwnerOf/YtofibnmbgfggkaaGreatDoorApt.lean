
/-
  Whether two windows lie apart: the specification's and the program's own functions answer alike. Conditions: the sizes are numbers of 64 bits.
-/
import Derived.Test.YtofibnmbgfggkaaGreatDoorBas
import Derived.Test.YtofibnmbgfggkaaGreatDoorRows
import Derived.Test.YtofibnmbgfggkaaGreatDoorWnd
import Derived.Deep.RegionHeld3
namespace Go.Proofs.YtofibnmbgfggkaaGreatDoor
open Go.ChangeShapes Go.WideShapes Go.ChangeAt Go.RowKit Go.Deep
set_option linter.unusedVariables false

abbrev Wn := Int × Int × Int
abbrev wn0 : Wn := (0, 0, 0)
def WOk (x : Wn) : Prop := WinOk x.1 x.2.1 x.2.2
def Has (x : Wn) (a : Int) : Prop := x.1 ≤ a ∧ a < x.1 + x.2.1
def ApartP (x y : Wn) : Prop := WOk x ∧ WOk y ∧ (x.1 + x.2.1 ≤ y.1 ∨ y.1 + y.2.1 ≤ x.1)
theorem WOk.fit {x : Wn} (h : WOk x) : wrap64 (x.1 + x.2.1) = x.1 + x.2.1 := by
  obtain ⟨h1, h2, h3, h4, h5, _⟩ := h
  exact IntWalk.wrap64_in _ (by omega)
/-- No address in common just where none of the multiples of 4 is. -/
theorem apart_iff {x y : Wn} (hx : WOk x) (hy : WOk y) : ApartP x y ↔ ∀ j : Nat, j < 512 → ¬ (Has x (4 * j) ∧ Has y (4 * j)) := by
  have hx' := hx
  have hy' := hy
  obtain ⟨x1, x2, x3, x4, x5, _⟩ := hx'
  obtain ⟨y1, y2, y3, y4, y5, _⟩ := hy'
  refine ⟨fun h j hj hh => ?_, fun h => ⟨hx, hy, ?_⟩⟩
  · obtain ⟨⟨h1, h2⟩, h3, h4⟩ := hh
    rcases h.2.2 with h | h <;> omega
  · by_cases hc : x.1 ≤ y.1
    · have := h (y.1 / 4).toNat (by omega)
      have e : 4 * (((y.1 / 4).toNat : Nat) : Int) = y.1 := by omega
      rw [e] at this
      unfold Has at this
      omega
    · have := h (x.1 / 4).toNat (by omega)
      have e : 4 * (((x.1 / 4).toNat : Nat) : Int) = x.1 := by omega
      rw [e] at this
      unfold Has at this
      omega
set_option maxHeartbeats 1000000 in
theorem spec_has (b s p a : Int) (q : Bool) (w : World) (hf : wrap64 (b + s) = b + s) (hq : q = true ↔ (b ≤ a ∧ a < b + s)) : Calls Tryz.prog 64 #[win b s p, .int .i64 a] w fun x w' => x = .returned (.bool q) ∧ Below w.heap.size w w' := by
  have HQ : Hid _ := hq
  have hbel : ∀ o1 : Obj, Below w.heap.size w (w.alloc o1) := fun o1 => (Below.refl _ _).alloc (Nat.le_refl _) _
  clear hq
  by_cases h1 : b ≤ a
  · have HT : Hid (decide (a < b + s) = q) := by
      show _ = _
      by_cases h2 : a < b + s
      · rw [HQ.out.2 ⟨h1, h2⟩]; simpa using h2
      · rw [not_true HQ.out (fun h => h2 h.2)]; simpa using h2
    have HF : Hid _ := hf
    clear hf
    go_enter Tryz.func64, Tryz.ntmps64
    go_wp2
    go_ret
    exact ⟨ret_bool (by rw [HF.out]; exact HT.out), hbel _⟩
  · have HT : Hid (q = false) := not_true HQ.out (fun h => h1 h.1)
    go_enter Tryz.func64, Tryz.ntmps64
    go_wp2
    go_ret
    exact ⟨ret_bool HT.out.symm, hbel _⟩
theorem win_end (b s p : Int) (w : World) (hf : wrap64 (b + s) = b + s) : Calls Tryz.prog 85 #[win b s p] w fun x w' => x = .returned (.int .i64 (b + s)) ∧ Below w.heap.size w w' := by
  have HF : Hid _ := hf
  go_enter Tryz.func85, Tryz.ntmps85
  clear hf
  go_wp2
  go_ret
  exact ⟨ret_int HF.out, (Below.refl _ _).alloc (Nat.le_refl _) _⟩
set_option maxHeartbeats 1000000 in
theorem impl_has (b s p a : Int) (q : Bool) (w : World) (hf : wrap64 (b + s) = b + s) (hq : q = true ↔ (b ≤ a ∧ a < b + s)) : Calls Tryz.prog 66 #[win b s p, .int .i64 a] w fun x w' => x = .returned (.bool q) ∧ Below w.heap.size w w' := by
  have HQ : Hid _ := hq
  have HE : Hid _ := fun X => win_end b s p X hf
  have hb0 : Below w.heap.size w (w.alloc (wrow 89 b s p)) := (Below.refl _ _).alloc (Nat.le_refl _) _
  clear hq
  by_cases h1 : b ≤ a
  · have HT : Hid (decide (a < b + s) = q) := by
      show _ = _
      by_cases h2 : a < b + s
      · rw [HQ.out.2 ⟨h1, h2⟩]; simpa using h2
      · rw [not_true HQ.out (fun h => h2 h.2)]; simpa using h2
    generalize b + s = e at hf HT HE
    go_enter Tryz.func66, Tryz.ntmps66
    go_wp2_with fail
    refine (HE.out _).mono ?_
    rintro x w1 ⟨rfl, hb1⟩
    have hb := hb0.trans (hb1.mono (by simp))
    clear hb1 hb0
    go_wp2
    go_ret
    exact ⟨ret_bool HT.out, hb⟩
  · have HT : Hid (q = false) := not_true HQ.out (fun h => h1 h.1)
    go_enter Tryz.func66, Tryz.ntmps66
    go_wp2
    go_ret
    exact ⟨ret_bool HT.out.symm, hb0⟩
theorem kept2 {w w' : World} {p : Addr} {v : Value} (hb : Below w.heap.size w w') (h : w.cell? p = some v) : w'.cell? p = some v :=
  (hb.cell (World.block_lt_of_cell? w _ h)).trans h
end Go.Proofs.YtofibnmbgfggkaaGreatDoor
