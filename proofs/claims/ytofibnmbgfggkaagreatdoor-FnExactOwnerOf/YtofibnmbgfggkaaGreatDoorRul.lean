
/-
  What must hold of tables, rule by rule, on plain numbers and lists; a box that holds tables. No function of the program in sight; no conditions.
-/
import Derived.Test.YtofibnmbgfggkaaGreatDoorBas
import Derived.Test.YtofibnmbgfggkaaGreatDoorTbe
import Derived.Test.YtofibnmbgfggkaaGreatDoorWpd
import Derived.Test.YtofibnmbgfggkaaGreatDoorNam
import Derived.Test.YtofibnmbgfggkaaGreatDoorApt
import Derived.Test.YtofibnmbgfggkaaGreatDoorWst
namespace Go.Proofs.YtofibnmbgfggkaaGreatDoor
open Go.ChangeShapes Go.WideShapes Go.ChangeAt Go.RowKit Go.Deep Go.Joins
set_option linter.unusedVariables false

/-- Every window of every partition, in order. -/
def allW (ps : List Pt) : List wiT := (ps.map (·.ws)).flatten
/-- The worst work of a switch of these tables. -/
def padV (t : Tb) : Int := t.c1 * (16 + mostN t.cs t.cs.length) + t.c7 * (t.s1 * t.s2)
/-- The first cycle that the first i slots leave free. -/
def freeN (ss : List slT) : Nat → Int
  | 0 => 0
  | i + 1 => (ss.getD i sl0).2.1 + (ss.getD i sl0).2.2
def R (t : Tb) : Nat → Prop
  | 0 => t.mem % 4 = 0 ∧ 64 ≤ t.mem ∧ t.mem ≤ 2048
  | 1 => shapeOk t.s1 t.s2 t.s3 = true
  | 2 => 1 ≤ t.tlb ∧ t.tlb ≤ 8
  | 3 => costsOk t.c1 t.c2 t.c3 t.c4 t.c5 t.c6 t.c7 = true
  | 4 => 1 ≤ t.pad ∧ t.pad ≤ 5000
  | 5 => 1 ≤ t.grd ∧ t.grd ≤ 5000
  | 6 => 1 ≤ t.maj ∧ t.maj ≤ 5000
  | 7 => worstStep t.c1 t.c2 t.c3 t.c4 t.c5 t.c6 t.c7 ≤ t.grd
  | 8 => 1 ≤ t.ps.length ∧ t.ps.length ≤ 6
  | 9 => ∀ i, i < t.ps.length → Lab.nok (Tx.nums (t.ps.getD i pt0).nm) = true
  | 10 => ∀ i, i < t.ps.length → ∀ j, j < i → (t.ps.getD j pt0).nm ≠ (t.ps.getD i pt0).nm
  | 11 => ∀ i, i < t.ps.length → polOk (t.ps.getD i pt0).kd (t.ps.getD i pt0).ms = true
  | 12 => ∀ i, i < t.ps.length → 1 ≤ (t.ps.getD i pt0).ws.length ∧ (t.ps.getD i pt0).ws.length ≤ 4
  | 13 => ∀ i, i < (allW t.ps).length → WOk ((allW t.ps).getD i wi0) ∧ ((allW t.ps).getD i wi0).1 + ((allW t.ps).getD i wi0).2.1 ≤ t.mem
  | 14 => ∀ i, i < (allW t.ps).length → ∀ j, j < i → ApartP ((allW t.ps).getD j wi0) ((allW t.ps).getD i wi0)
  | 15 => ∀ i, i < t.ps.length → (t.ps.getD i pt0).en % 4 = 0 ∧ ∃ j, j < (t.ps.getD i pt0).ws.length ∧ Has ((t.ps.getD i pt0).ws.getD j wi0) (t.ps.getD i pt0).en ∧ 4 ≤ ((t.ps.getD i pt0).ws.getD j wi0).2.2
  | 16 => t.ds.length ≤ 8
  | 17 => ∀ i, i < t.ds.length → 0 ≤ t.ds.getD i 0 ∧ t.ds.getD i 0 < (t.ps.length : Int)
  | 18 => t.cs.length ≤ 8
  | 19 => ∀ i, i < t.cs.length → chOkT (t.cs.getD i ch0) = true ∧ (0 ≤ (t.cs.getD i ch0).2.1 ∧ (t.cs.getD i ch0).2.1 < (t.ps.length : Int)) ∧ (0 ≤ (t.cs.getD i ch0).2.2.1 ∧ (t.cs.getD i ch0).2.2.1 < (t.ps.length : Int))
  | 20 => padV t ≤ t.pad
  | 21 => 1 ≤ t.ss.length ∧ t.ss.length ≤ 16
  | 22 => ∀ i, i < t.ss.length → 0 ≤ (t.ss.getD i sl0).1 ∧ (t.ss.getD i sl0).1 < (t.ps.length : Int)
  | 23 => ∀ i, i < t.ss.length → t.pad + t.grd < (t.ss.getD i sl0).2.2
  | 24 => ∀ i, i < t.ss.length → freeN t.ss i ≤ (t.ss.getD i sl0).2.1 ∧ (t.ss.getD i sl0).2.1 + (t.ss.getD i sl0).2.2 ≤ t.maj
  | _ => True
def Sd (t : Tb) : Prop := ∀ i, i < 25 → R t i
/-- A block that holds tables. -/
def TBx (X : World) (B : Nat) (t : Tb) (a : Ad) : Prop := X.heap[B]? = some (.cells (tbA t a) 40 (0, 0))
theorem TBx.cell {X : World} {B : Nat} {t : Tb} {a : Ad} (h : TBx X B t a) (j : Nat) {v : Value} (hj : (tbA t a)[j]? = some v) : X.cell? ⟨B, j, none⟩ = some v := by
  rw [cell_of_row X B j _ _ _ h]; exact hj
theorem TBx.lt {X : World} {B : Nat} {t : Tb} {a : Ad} (h : TBx X B t a) : B < X.heap.size := World.block_lt_of_cell? X _ (h.cell 0 rfl)
theorem TBx.below {X X' : World} {B : Nat} {t : Tb} {a : Ad} (h : TBx X B t a) (hb : Below X.heap.size X X') : TBx X' B t a := by
  have := h.lt
  unfold TBx at h ⊢
  rw [hb.block B this]; exact h
theorem TBx.new (w : World) (t : Tb) (a : Ad) (B : Nat) (hB : B = w.heap.size) : TBx (w.alloc (.cells (tbA t a) 40)) B t a := by
  subst hB
  unfold TBx
  show (w.heap.push _)[w.heap.size]? = _
  simp
/-- All that a rule is asked under. -/
structure Und (X : World) (B : Nat) (t : Tb) (a : Ad) : Prop where
  x : TBx X B t a
  m : TM 0 X t a
  w : TW t a
  s : TS a
  e : TabE X
theorem Und.below {X X' : World} {B : Nat} {t : Tb} {a : Ad} (h : Und X B t a) (hb : Below X.heap.size X X') : Und X' B t a := ⟨h.x.below hb, h.m.below hb, h.w, h.s, h.e.below hb⟩
theorem is_len (x : Int) (w : World) : Calls Tryz.prog 99 #[.int .i64 x] w fun e w' => e = .returned (.bool (inr x 1 5000)) ∧ w' = w := by
  by_cases h1 : 1 ≤ x
  · by_cases h2 : x ≤ 5000
    · rw [inr_yes ⟨h1, h2⟩]
      go_enter Tryz.func99, Tryz.ntmps99
      go_wp2
      go_ret
      exact ⟨rfl, rfl⟩
    · rw [inr_no (fun g => h2 g.2)]
      go_enter Tryz.func99, Tryz.ntmps99
      go_wp2
      go_ret
      exact ⟨rfl, rfl⟩
  · rw [inr_no (fun g => h1 g.1)]
    go_enter Tryz.func99, Tryz.ntmps99
    go_wp2
    go_ret
    exact ⟨rfl, rfl⟩
theorem is_tlb (x : Int) (w : World) : Calls Tryz.prog 95 #[.int .i64 x] w fun e w' => e = .returned (.bool (inr x 1 8)) ∧ w' = w := by
  by_cases h1 : 1 ≤ x
  · by_cases h2 : x ≤ 8
    · rw [inr_yes ⟨h1, h2⟩]
      go_enter Tryz.func95, Tryz.ntmps95
      go_wp2
      go_ret
      exact ⟨rfl, rfl⟩
    · rw [inr_no (fun g => h2 g.2)]
      go_enter Tryz.func95, Tryz.ntmps95
      go_wp2
      go_ret
      exact ⟨rfl, rfl⟩
  · rw [inr_no (fun g => h1 g.1)]
    go_enter Tryz.func95, Tryz.ntmps95
    go_wp2
    go_ret
    exact ⟨rfl, rfl⟩
theorem is_cnt (x m : Int) (w : World) : Calls Tryz.prog 105 #[.int .i64 x, .int .i64 m] w fun e w' => e = .returned (.bool (inr x 1 m)) ∧ w' = w := by
  by_cases h1 : 1 ≤ x
  · by_cases h2 : x ≤ m
    · rw [inr_yes ⟨h1, h2⟩]
      go_enter Tryz.func105, Tryz.ntmps105
      go_wp2
      go_ret
      exact ⟨rfl, rfl⟩
    · rw [inr_no (fun g => h2 g.2)]
      go_enter Tryz.func105, Tryz.ntmps105
      go_wp2
      go_ret
      exact ⟨rfl, rfl⟩
  · rw [inr_no (fun g => h1 g.1)]
    go_enter Tryz.func105, Tryz.ntmps105
    go_wp2
    go_ret
    exact ⟨rfl, rfl⟩
theorem bool_is {q r : Bool} {p : Prop} (hq : q = true ↔ p) (hr : r = true ↔ p) : r = q := by
  cases q <;> cases r
  · rfl
  · exact absurd (hq.2 (hr.1 rfl)) (by simp)
  · exact absurd (hr.2 (hq.1 rfl)) (by simp)
  · rfl
end Go.Proofs.YtofibnmbgfggkaaGreatDoor
