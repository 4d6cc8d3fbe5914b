/-
  Whether two windows lie apart, by the program's own function. Conditions: the sizes are numbers of 64 bits.
  Whether a list of windows is right: the program's own function. Conditions: the sizes are numbers of 64 bits; the slice's capacity is at least its length.
-/
import Derived.Test.YtjlhkjiccibgdaaGreatDoorProg
import Derived.Test.YtjlhkjiccibgdaaGreatDoorWnd
import Derived.Test.YtjlhkjiccibgdaaGreatDoorWnl
import Derived.Below
import Derived.BigQuiet
import Derived.BigRegion
import Derived.Deep.RegionHeldLaw
import Derived.Lib.SmallJoins
import Derived.OpenShut
import Derived.ProofKit
import Derived.Shelf.Abstract
import Derived.WalkKit
import Derived.WalkSmall
namespace Go.Proofs.YtjlhkjiccibgdaaGreatDoor
open Go.ChangeShapes Go.WideShapes Go.ChangeAt Go.RowKit Go.Deep
set_option linter.unusedVariables false

set_option maxHeartbeats 4000000 in
theorem impl_apart (x y : Wn) (q : Bool) (w : World) (hsx : x.2.1 ≤ 9223372036854775807) (hsy : y.2.1 ≤ 9223372036854775807) (hq : q = true ↔ ApartP x y) : Calls Tryz.prog 72 #[win x.1 x.2.1 x.2.2, win y.1 y.2.1 y.2.2] w fun e w' => e = .returned (.bool q) ∧ Below w.heap.size w w' := by
  have HQ : Hid _ := hq
  clear hq
  obtain ⟨q1, hq1⟩ := told (WOk x)
  have HX : Hid (∀ X, Calls Tryz.prog 70 #[win x.1 x.2.1 x.2.2] X fun e w' => e = .returned (.bool q1) ∧ Below X.heap.size X w') := fun X => impl_wok _ _ _ q1 X hsx hq1
  obtain ⟨q2, hq2⟩ := told (WOk y)
  have HY : Hid (∀ X, Calls Tryz.prog 70 #[win y.1 y.2.1 y.2.2] X fun e w' => e = .returned (.bool q2) ∧ Below X.heap.size X w') := fun X => impl_wok _ _ _ q2 X hsy hq2
  have HQ1 : Hid _ := hq1
  have HQ2 : Hid _ := hq2
  clear hq1 hq2 hsx hsy
  have hb : Below w.heap.size w ((w.alloc (wrow 49 x.1 x.2.1 x.2.2)).alloc (wrow 49 y.1 y.2.1 y.2.2)) := ((Below.refl _ _).alloc (Nat.le_refl _) _).alloc (by simp) _
  have K1 := (Bk.new w #[.int .i64 x.1, .int .i64 x.2.1, .int .i64 x.2.2] 49 w.heap.size rfl).alloc (wrow 49 y.1 y.2.1 y.2.2)
  have K2 := Bk.new (w.alloc (wrow 49 x.1 x.2.1 x.2.2)) #[.int .i64 y.1, .int .i64 y.2.1, .int .i64 y.2.2] 49 (w.heap.size + 1) (by simp)
  have HEX : Hid (q1 = true → ∀ X, Calls Tryz.prog 89 #[win x.1 x.2.1 x.2.2] X fun e w' => e = .returned (.int .i64 (x.1 + x.2.1)) ∧ Below X.heap.size X w') := fun h X => win_end _ _ _ X (HQ1.out.1 h).fit
  have HEY : Hid (q2 = true → ∀ X, Calls Tryz.prog 89 #[win y.1 y.2.1 y.2.2] X fun e w' => e = .returned (.int .i64 (y.1 + y.2.1)) ∧ Below X.heap.size X w') := fun h X => win_end _ _ _ X (HQ2.out.1 h).fit
  have HAP : Hid (q1 = true → q2 = true → (q = true ↔ (x.1 + x.2.1 ≤ y.1 ∨ y.1 + y.2.1 ≤ x.1))) := fun h1 h2 => HQ.out.trans ⟨fun h => h.2.2, fun h => ⟨HQ1.out.1 h1, HQ2.out.1 h2, h⟩⟩
  have HN : Hid (q1 = false ∨ q2 = false → q = false) := fun h => not_true HQ.out (fun hp => by
    rcases h with h | h
    · rw [HQ1.out.2 hp.1] at h; cases h
    · rw [HQ2.out.2 hp.2.1] at h; cases h)
  clear HQ1 HQ2 HQ
  generalize x.1 + x.2.1 = ex at HEX HAP
  generalize y.1 + y.2.1 = ey at HEY HAP
  obtain ⟨x1, x2, x3⟩ := x
  obtain ⟨y1, y2, y3⟩ := y
  simp only at HX HY HEX HEY HAP hb K1 K2
  simp only
  generalize HW0 : (w.alloc (wrow 49 x1 x2 x3)).alloc (wrow 49 y1 y2 y3) = W0 at hb K1 K2
  have c0 := K1.cell 0 _ rfl
  have c1 := K1.cell 1 _ rfl
  have c2 := K1.cell 2 _ rfl
  have d0 := K2.cell 0 _ rfl
  have d1 := K2.cell 1 _ rfl
  have d2 := K2.cell 2 _ rfl
  replace c0 : W0.cell? ⟨w.heap.size, 0, none⟩ = some (.int .i64 x1) := c0
  replace c1 : W0.cell? ⟨w.heap.size, 1, none⟩ = some (.int .i64 x2) := c1
  replace c2 : W0.cell? ⟨w.heap.size, 2, none⟩ = some (.int .i64 x3) := c2
  replace d0 : W0.cell? ⟨w.heap.size + 1, 0, none⟩ = some (.int .i64 y1) := d0
  replace d1 : W0.cell? ⟨w.heap.size + 1, 1, none⟩ = some (.int .i64 y2) := d1
  replace d2 : W0.cell? ⟨w.heap.size + 1, 2, none⟩ = some (.int .i64 y3) := d2
  clear K1 K2
  replace c0 := fun x => gr_cell c0 x
  replace c1 := fun x => gr_cell c1 x
  replace c2 := fun x => gr_cell c2 x
  replace d0 := fun x => gr_cell d0 x
  replace d1 := fun x => gr_cell d1 x
  replace d2 := fun x => gr_cell d2 x
  cases q1
  · have HT : Hid (q = false) := HN.out (.inl (by trivial))
    clear HN HAP HEX HEY HY
    go_enter Tryz.func72, Tryz.ntmps72
    go_wp2
    clear HW0
    have hgr := gr_some W0
    refine region_alike (by kernel_rfl) (by kernel_rfl) ?_
    repeat (go_big_quiet_step (first | (go_at_call_of 70 (Value.int IntKind.i64 x1); exact gr_call (HX.out _))))
    refine wpQuiet_nil ?_
    intro _ hw'
    obtain ⟨x9, rfl⟩ := hw'
    have hb := hb.trans (x9.h.mono hb.size)
    all_goals (have HB : Hid _ := hb; clear hb; go_wp2; go_ret; exact ⟨ret_bool HT.out.symm, HB.out⟩)
  cases q2
  · have HT : Hid (q = false) := HN.out (.inr (by trivial))
    clear HN HAP HEX HEY
    go_enter Tryz.func72, Tryz.ntmps72
    go_wp2
    clear HW0
    have hgr := gr_some W0
    refine region_alike (by kernel_rfl) (by kernel_rfl) ?_
    repeat (go_big_quiet_step (first | (go_at_call_of 70 (Value.int IntKind.i64 x1); exact gr_call (HX.out _)) | (go_at_call_of 70 (Value.int IntKind.i64 y1); exact gr_call (HY.out _))))
    refine wpQuiet_nil ?_
    intro _ hw'
    obtain ⟨x9, rfl⟩ := hw'
    have hb := hb.trans (x9.h.mono hb.size)
    all_goals (have HB : Hid _ := hb; clear hb; go_wp2; go_ret; exact ⟨ret_bool HT.out.symm, HB.out⟩)
  have HEX' : Hid _ := HEX.out (by trivial)
  have HEY' : Hid _ := HEY.out (by trivial)
  have HAP' : Hid _ := HAP.out (by trivial) (by trivial)
  clear HN HEX HEY HAP
  by_cases hle : ex ≤ y1
  · have HT : Hid (q = true) := HAP'.out.2 (.inl hle)
    clear HAP'
    go_enter Tryz.func72, Tryz.ntmps72
    go_wp2
    clear HW0
    have hgr := gr_some W0
    refine region_alike (by kernel_rfl) (by kernel_rfl) ?_
    repeat (go_big_quiet_step (first | (go_at_call_of 70 (Value.int IntKind.i64 x1); exact gr_call (HX.out _)) | (go_at_call_of 70 (Value.int IntKind.i64 y1); exact gr_call (HY.out _)) | (go_at_call_of 89 (Value.int IntKind.i64 x1); exact gr_call (HEX'.out _))))
    refine wpQuiet_nil ?_
    intro _ hw'
    obtain ⟨x9, rfl⟩ := hw'
    have hb := hb.trans (x9.h.mono hb.size)
    all_goals (have HB : Hid _ := hb; clear hb; go_wp2; go_ret; exact ⟨ret_bool HT.out.symm, HB.out⟩)
  · have HT : Hid (decide (ey ≤ x1) = q) := by
      show _ = _
      by_cases h2 : ey ≤ x1
      · rw [HAP'.out.2 (.inr h2)]; simpa using h2
      · rw [not_true HAP'.out (fun h => by omega)]; simpa using h2
    have hle' : decide (ex ≤ y1) = false := by simpa using hle
    clear HAP' hle
    go_enter Tryz.func72, Tryz.ntmps72
    go_wp2
    clear HW0
    have hgr := gr_some W0
    refine region_alike (by kernel_rfl) (by kernel_rfl) ?_
    repeat (go_big_quiet_step (first | (go_at_call_of 70 (Value.int IntKind.i64 x1); exact gr_call (HX.out _)) | (go_at_call_of 70 (Value.int IntKind.i64 y1); exact gr_call (HY.out _)) | (go_at_call_of 89 (Value.int IntKind.i64 x1); exact gr_call (HEX'.out _)) | (go_at_call_of 89 (Value.int IntKind.i64 y1); exact gr_call (HEY'.out _))))
    refine wpQuiet_nil ?_
    intro _ hw'
    obtain ⟨x9, rfl⟩ := hw'
    have hb := hb.trans (x9.h.mono hb.size)
    all_goals (have HB : Hid _ := hb; clear hb; go_wp2; go_ret; exact ⟨ret_bool HT.out, HB.out⟩)

namespace Wq
open Go.Joins


def inr (x lo hi : Int) : Bool := decide (lo ≤ x) && decide (x ≤ hi)
theorem inr_yes {x lo hi : Int} (h : lo ≤ x ∧ x ≤ hi) : inr x lo hi = true := by simp [inr, h.1, h.2]
theorem inr_no {x lo hi : Int} (h : ¬ (lo ≤ x ∧ x ≤ hi)) : inr x lo hi = false := by
  unfold inr; rw [← Bool.decide_and]; exact decide_eq_false h
theorem of_inr {x lo hi : Int} (h : inr x lo hi = true) : lo ≤ x ∧ x ≤ hi := by
  unfold inr at h; rw [← Bool.decide_and] at h; exact of_decide_eq_true h
theorem inr_iff {x lo hi : Int} : inr x lo hi = true ↔ lo ≤ x ∧ x ≤ hi := by simp [inr]
theorem inr_niff {x lo hi : Int} : inr x lo hi = false ↔ ¬ (lo ≤ x ∧ x ≤ hi) := by rw [← inr_iff]; simp
theorem in_any (x a b : Int) (w : World) : Calls Tryz.prog 40 #[.int .i64 x, .int .i64 a, .int .i64 b] w fun e w' => e = .returned (.bool (inr x a b)) ∧ w' = w := by
  by_cases h1 : a ≤ x
  · by_cases h2 : x ≤ b
    · rw [inr_yes ⟨h1, h2⟩]
      go_enter Tryz.func40, Tryz.ntmps40
      go_wp2
      go_ret
      exact ⟨rfl, rfl⟩
    · rw [inr_no (fun g => h2 g.2)]
      go_enter Tryz.func40, Tryz.ntmps40
      go_wp2
      go_ret
      exact ⟨rfl, rfl⟩
  · rw [inr_no (fun g => h1 g.1)]
    go_enter Tryz.func40, Tryz.ntmps40
    go_wp2
    go_ret
    exact ⟨rfl, rfl⟩
theorem new_cell (w : World) (cs : Array Value) (t : TypeId) (i : Nat) (v : Value) (h : cs[i]? = some v) : (w.alloc (.cells cs t)).cell? ⟨w.heap.size, i, none⟩ = some v := by
  simp [h]
theorem told (p : Prop) : ∃ q : Bool, (q = true ↔ p) := by
  by_cases h : p
  · exact ⟨true, by simp [h]⟩
  · exact ⟨false, by simp [h]⟩
theorem not_true {q : Bool} {p : Prop} (h : q = true ↔ p) (hn : ¬ p) : q = false := by
  cases q
  · rfl
  · exact absurd (h.1 rfl) hn
theorem array1 {α : Type} {cs : Array α} (h : cs.size = 1) : ∃ c0, cs = #[c0] := by
  obtain ⟨l⟩ := cs
  match l, h with
  | [c0], _ => exact ⟨c0, rfl⟩
theorem list1 {α : Type} {cs : List α} (h : cs.length = 1) : ∃ c0, cs = [c0] := by
  match cs, h with
  | [c0], _ => exact ⟨c0, rfl⟩
theorem array2 {α : Type} {cs : Array α} (h : cs.size = 2) : ∃ c0 c1, cs = #[c0, c1] := by
  obtain ⟨l⟩ := cs
  match l, h with
  | [c0, c1], _ => exact ⟨c0, c1, rfl⟩
theorem list2 {α : Type} {cs : List α} (h : cs.length = 2) : ∃ c0 c1, cs = [c0, c1] := by
  match cs, h with
  | [c0, c1], _ => exact ⟨c0, c1, rfl⟩
theorem array3 {α : Type} {cs : Array α} (h : cs.size = 3) : ∃ c0 c1 c2, cs = #[c0, c1, c2] := by
  obtain ⟨l⟩ := cs
  match l, h with
  | [c0, c1, c2], _ => exact ⟨c0, c1, c2, rfl⟩
theorem list3 {α : Type} {cs : List α} (h : cs.length = 3) : ∃ c0 c1 c2, cs = [c0, c1, c2] := by
  match cs, h with
  | [c0, c1, c2], _ => exact ⟨c0, c1, c2, rfl⟩
theorem array4 {α : Type} {cs : Array α} (h : cs.size = 4) : ∃ c0 c1 c2 c3, cs = #[c0, c1, c2, c3] := by
  obtain ⟨l⟩ := cs
  match l, h with
  | [c0, c1, c2, c3], _ => exact ⟨c0, c1, c2, c3, rfl⟩
theorem list4 {α : Type} {cs : List α} (h : cs.length = 4) : ∃ c0 c1 c2 c3, cs = [c0, c1, c2, c3] := by
  match cs, h with
  | [c0, c1, c2, c3], _ => exact ⟨c0, c1, c2, c3, rfl⟩
theorem cells3 : Tryz.prog.cellsOf 3 = 1 := by kernel_rfl
theorem cells4 : Tryz.prog.cellsOf 4 = 1 := by kernel_rfl
theorem laidOut : laidOutB Tryz.prog = true := by kernel_rfl
theorem tm4 (x : Int) : (Int.tmod x 4 = 0) ↔ x % 4 = 0 := by
  rw [← Int.dvd_iff_tmod_eq_zero]; omega
theorem ret_boolc {q r : Bool} (h : q = r) : Ending.returned (.bool q) = .returned (.bool r) := by rw [h]
theorem fit64 {x : Int} (h : (Lit.int .i64 x).wf = true) : x ≤ 9223372036854775807 := by
  have := bounds_i64 h
  omega
theorem addr_of {w : World} {a : Addr} {i : Nat} {v : Value} (h : w.cell? (a.add i) = some v) (hi : i = 0) : ∃ b off, a = ⟨b, off, none⟩ ∧ b < w.heap.size := by
  subst hi
  obtain ⟨b, off, spot⟩ := a
  have hspot : spot = none := by simpa [Addr.add] using World.cell?_spot h
  subst hspot
  exact ⟨b, off, rfl, by simpa [Addr.add] using World.block_lt_of_cell? w _ h⟩



/-- The cells from 'o' on hold 'vs'. -/
def CellsAt (w : World) (b o : Nat) (vs : List Value) : Prop := ∀ j v, vs[j]? = some v → w.cell? ⟨b, o + j, none⟩ = some v
theorem CellsAt.below {w w' : World} {b o : Nat} {vs : List Value} (h : CellsAt w b o vs) (hb : Below w.heap.size w w') : CellsAt w' b o vs := fun j v hj =>
  (hb.cell (p := ⟨b, o + j, none⟩) (World.block_lt_of_cell? w _ (h j v hj))).trans (h j v hj)
theorem CellsAt.of {w w' : World} {b o : Nat} {vs : List Value} (h : CellsAt w b o vs) (hc : ∀ i, w'.cell? ⟨b, i, none⟩ = w.cell? ⟨b, i, none⟩) : CellsAt w' b o vs := fun j v hj => (hc _).trans (h j v hj)
def setAll (w : World) (B o : Nat) : List Value → World
  | [] => w
  | v :: vs => setAll (w.setCell ⟨B, o, none⟩ v) B (o + 1) vs
theorem setAll_size (B : Nat) (vs : List Value) : ∀ (w : World) (o : Nat), (setAll w B o vs).heap.size = w.heap.size := by
  induction vs with
  | nil => intro w o; rfl
  | cons v vs ih => intro w o; unfold setAll; rw [ih]; simp
theorem setAll_free (B : Nat) (vs : List Value) : ∀ (w : World) (o : Nat) (p : Addr), (setAll w B o vs).frozen? p = w.frozen? p := by
  induction vs with
  | nil => intro w o p; rfl
  | cons v vs ih => intro w o p; unfold setAll; rw [ih]; simp
theorem setAll_other (B : Nat) (vs : List Value) : ∀ (w : World) (o : Nat) (b i : Nat), (b ≠ B ∨ i < o ∨ o + vs.length ≤ i) → (setAll w B o vs).cell? ⟨b, i, none⟩ = w.cell? ⟨b, i, none⟩ := by
  induction vs with
  | nil => intro w o b i _; rfl
  | cons v vs ih =>
    intro w o b i h
    unfold setAll
    simp only [List.length_cons] at h
    rw [ih _ _ _ _ (by omega), World.cell?_setCell_other _ _ _ _ (by intro c; injection c with c1 c2 c3; omega)]
theorem setAll_cells (B : Nat) (vs : List Value) : ∀ (w : World) (o : Nat), (∀ j, j < vs.length → ∃ u, w.cell? ⟨B, o + j, none⟩ = some u) → CellsAt (setAll w B o vs) B o vs := by
  induction vs with
  | nil => intro w o _ j v hj; simp at hj
  | cons x vs ih =>
    intro w o hr j v hj
    unfold setAll
    match j with
    | 0 =>
      simp only [List.length_cons] at hr
      obtain ⟨u, hu⟩ := hr 0 (by omega)
      rw [setAll_other _ _ _ _ _ _ (.inr (.inl (by omega)))]
      simp at hj
      subst hj
      exact World.cell?_setCell_same _ _ _ hu
    | j + 1 =>
      have := ih (w.setCell ⟨B, o, none⟩ x) (o + 1) (fun i hi => by
        obtain ⟨u, hu⟩ := hr (i + 1) (by simp only [List.length_cons]; omega)
        refine ⟨u, ?_⟩
        rw [World.cell?_setCell_other _ _ _ _ (by intro c; injection c with c1 c2 c3; omega), show o + 1 + i = o + (i + 1) by omega]
        exact hu) j v (by simpa using hj)
      rw [show o + (j + 1) = o + 1 + j by omega]
      exact this
theorem setAll_below {n B : Nat} (hB : n ≤ B) (vs : List Value) : ∀ {w0 w : World} (o : Nat), Below n w0 w → Below n w0 (setAll w B o vs) := by
  induction vs with
  | nil => intro w0 w o h; exact h
  | cons v vs ih => intro w0 w o h; unfold setAll; exact ih _ (h.setCell (p := ⟨B, o, none⟩) hB _)
/-- A list of n structs of k cells each, from an address on: X tells them. -/
def GSeg (k : Nat) (w : World) (a : Option Addr) (n : Nat) (X : Nat → List Value) : Prop :=
  0 < n → ∃ b off, a = some ⟨b, off, none⟩ ∧ b < w.heap.size ∧ ∀ i, i < n → CellsAt w b (off + i * k) (X i)
theorem GSeg.at {k : Nat} {w : World} {a : Option Addr} {n : Nat} {X : Nat → List Value} (h : GSeg k w a n X) (i : Nat) (hi : i < n) : ∃ b off, a = some ⟨b, off, none⟩ ∧ b < w.heap.size ∧ CellsAt w b (off + i * k) (X i) := by
  obtain ⟨b, off, e, hlt, hc⟩ := h (by omega)
  exact ⟨b, off, e, hlt, hc i hi⟩
theorem GSeg.below {k : Nat} {w w' : World} {a : Option Addr} {n : Nat} {X : Nat → List Value} (h : GSeg k w a n X) (hb : Below w.heap.size w w') : GSeg k w' a n X := fun h0 => by
  obtain ⟨b, off, e, hlt, hc⟩ := h h0
  exact ⟨b, off, e, Nat.lt_of_lt_of_le hlt hb.size, fun i hi => (hc i hi).below hb⟩
theorem GSeg.congr {k : Nat} {w : World} {a : Option Addr} {n : Nat} {X Y : Nat → List Value} (h : GSeg k w a n X) (he : ∀ i, i < n → X i = Y i) : GSeg k w a n Y := fun h0 => by
  obtain ⟨b, off, e, hlt, hc⟩ := h h0
  exact ⟨b, off, e, hlt, fun i hi => by rw [← he i hi]; exact hc i hi⟩
/-- A block of n structs of k cells, m of which have been laid. -/
structure GBlk (k : Nat) (w : World) (B n m : Nat) (X : Nat → List Value) : Prop where
  lt : B < w.heap.size
  free : ∀ j, w.frozen? ⟨B, j, none⟩ = false
  room : ∀ i, i < n → ∀ j, j < k → ∃ u, w.cell? ⟨B, i * k + j, none⟩ = some u
  done : ∀ i, i < m → CellsAt w B (i * k) (X i)
theorem GBlk.below {k : Nat} {w w' : World} {B n m : Nat} {X : Nat → List Value} (h : GBlk k w B n m X) (hb : Below w.heap.size w w') : GBlk k w' B n m X :=
  ⟨Nat.lt_of_lt_of_le h.lt hb.size, fun j => (hb.frozen (p := ⟨B, j, none⟩) h.lt).trans (h.free j), fun i hi j hj => by
    obtain ⟨u, hu⟩ := h.room i hi j hj
    exact ⟨u, (hb.cell (p := ⟨B, _, none⟩) h.lt).trans hu⟩, fun i hi => (h.done i hi).below hb⟩
theorem GBlk.seg {k : Nat} {w : World} {B n : Nat} {X : Nat → List Value} (h : GBlk k w B n n X) : GSeg k w (some ⟨B, 0, none⟩) n X := fun _ =>
  ⟨B, 0, rfl, h.lt, fun i hi => by rw [Nat.zero_add]; exact h.done i hi⟩
theorem GBlk.congr {k : Nat} {w : World} {B n m : Nat} {X Y : Nat → List Value} (h : GBlk k w B n m X) (he : ∀ i, i < m → X i = Y i) : GBlk k w B n m Y :=
  ⟨h.lt, h.free, h.room, fun i hi => by rw [← he i hi]; exact h.done i hi⟩
theorem row_apart {k i m j q : Nat} (hi : i < m) (hj : j < k) (hq : m * k ≤ q) : i * k + j < q := by
  have h1 : (i + 1) * k ≤ m * k := Nat.mul_le_mul_right k hi
  rw [Nat.add_mul, Nat.one_mul] at h1
  omega
theorem GBlk.put {k : Nat} {w : World} {B n m : Nat} {X : Nat → List Value} (h : GBlk k w B n m X) (hm : m < n) (vs : List Value) (hv : vs.length = k) (hx : X m = vs) (hk : ∀ i, i < m → (X i).length = k) : GBlk k (setAll w B (m * k) vs) B n (m + 1) X := by
  have hroom : ∀ j, j < vs.length → ∃ u, w.cell? ⟨B, m * k + j, none⟩ = some u := fun j hj => h.room m hm j (by omega)
  have hset := setAll_cells B vs w (m * k) hroom
  refine ⟨by rw [setAll_size]; exact h.lt, fun j => by rw [setAll_free]; exact h.free j, fun i hi j hj => ?_, fun i hi => ?_⟩
  · by_cases e : m * k ≤ i * k + j ∧ i * k + j < m * k + vs.length
    · obtain ⟨q, hq⟩ : ∃ q, i * k + j = m * k + q := ⟨i * k + j - m * k, by omega⟩
      have hq2 : q < vs.length := by omega
      exact ⟨_, by rw [hq]; exact hset q _ (List.getElem?_eq_getElem hq2)⟩
    · rw [setAll_other _ _ _ _ _ _ (.inr (by omega))]
      exact h.room i hi j hj
  · by_cases e : i = m
    · subst e
      rw [hx]
      exact hset
    · intro j v hj
      have hjk : j < k := by
        have := (List.getElem?_eq_some_iff.1 hj).1
        rw [hk i (by omega)] at this
        exact this
      rw [setAll_other _ _ _ _ _ _ (.inr (.inl (row_apart (by omega) hjk (Nat.le_refl _))))]
      exact h.done i (by omega) j v hj
theorem GBlk.made (k : Nat) (w : World) (n : Nat) (T : TypeId) (z : Array Value) (X : Nat → List Value) (hz : z.size = k) : GBlk k (w.alloc (.cells (madeCells z (n * k)) T)) w.heap.size n 0 X := by
  refine ⟨by simp, fun j => by simp, fun i hi j hj => ?_, fun i hi => absurd hi (by omega)⟩
  have h1 : i * k + j < n * k := row_apart hi hj (Nat.le_refl _)
  have hu : ∃ u, (madeCells z (n * k))[i * k + j]? = some u := by
    simp only [madeCells]
    simp [h1]
  obtain ⟨u, hu⟩ := hu
  exact ⟨u, new_cell w _ T _ _ hu⟩
/-- A struct of its own block, whatever its type. -/
theorem CellsAt.new (w : World) (cs : List Value) (T : TypeId) (B : Nat) (hB : B = w.heap.size) : CellsAt (w.alloc (.cells cs.toArray T)) B 0 cs := by
  subst hB
  intro j v hj
  rw [Nat.zero_add]
  exact new_cell w _ T j v (by simpa using hj)
theorem CellsAt.alloc {w : World} {b o : Nat} {vs : List Value} (h : CellsAt w b o vs) (ob : Obj) : CellsAt (w.alloc ob) b o vs := h.below ((Below.refl _ _).alloc (Nat.le_refl _) _)
/-- A list of structs that lies in a block from 'lo' on. -/
def GSegL (k lo : Nat) (w : World) (a : Option Addr) (n : Nat) (X : Nat → List Value) : Prop :=
  0 < n → ∃ b off, a = some ⟨b, off, none⟩ ∧ lo ≤ b ∧ b < w.heap.size ∧ (∀ i, i < n → CellsAt w b (off + i * k) (X i)) ∧ (0 < lo → ∀ j, w.frozen? ⟨b, j, none⟩ = false)
theorem GSegL.seg {k lo : Nat} {w : World} {a : Option Addr} {n : Nat} {X : Nat → List Value} (h : GSegL k lo w a n X) : GSeg k w a n X := fun h0 => by
  obtain ⟨b, off, e, _, hlt, hc, _⟩ := h h0
  exact ⟨b, off, e, hlt, hc⟩
theorem GSeg.low {k : Nat} {w : World} {a : Option Addr} {n : Nat} {X : Nat → List Value} (h : GSeg k w a n X) : GSegL k 0 w a n X := fun h0 => by
  obtain ⟨b, off, e, hlt, hc⟩ := h h0
  exact ⟨b, off, e, Nat.zero_le _, hlt, hc, fun g => absurd g (Nat.lt_irrefl _)⟩
theorem GSegL.below {k lo : Nat} {w w' : World} {a : Option Addr} {n : Nat} {X : Nat → List Value} (h : GSegL k lo w a n X) (hb : Below w.heap.size w w') : GSegL k lo w' a n X := fun h0 => by
  obtain ⟨b, off, e, h1, hlt, hc, hf⟩ := h h0
  exact ⟨b, off, e, h1, Nat.lt_of_lt_of_le hlt hb.size, fun i hi => (hc i hi).below hb, fun g j => (hb.frozen (p := ⟨b, j, none⟩) hlt).trans (hf g j)⟩
theorem GSegL.wide {k lo lo' : Nat} {w : World} {a : Option Addr} {n : Nat} {X : Nat → List Value} (h : GSegL k lo w a n X) (hl : lo' ≤ lo) : GSegL k lo' w a n X := fun h0 => by
  obtain ⟨b, off, e, h1, hlt, hc, hf⟩ := h h0
  exact ⟨b, off, e, Nat.le_trans hl h1, hlt, hc, fun g => hf (Nat.lt_of_lt_of_le g hl)⟩
theorem CellsAt.other {w : World} {b o B j : Nat} {vs : List Value} {v : Value} (h : CellsAt w b o vs) (hn : B ≠ b) : CellsAt (w.setCell ⟨B, j, none⟩ v) b o vs := fun i u hi => by
  rw [World.cell?_setCell_other _ _ _ _ (by intro c; injection c with c1 c2 c3; exact hn c1)]
  exact h i u hi
theorem GSegL.other {k lo B j : Nat} {w : World} {v : Value} {a : Option Addr} {n : Nat} {X : Nat → List Value} (h : GSegL k lo w a n X) (hB : B < lo) : GSegL k lo (w.setCell ⟨B, j, none⟩ v) a n X := fun h0 => by
  obtain ⟨b, off, e, h1, hlt, hc, hf⟩ := h h0
  exact ⟨b, off, e, h1, by simpa using hlt, fun i hi => (hc i hi).other (by omega), fun g j => by simpa using hf g j⟩
theorem GBlk.segL {k : Nat} {w : World} {B n : Nat} {X : Nat → List Value} (h : GBlk k w B n n X) (lo : Nat) (hl : lo ≤ B) : GSegL k lo w (some ⟨B, 0, none⟩) n X := fun _ =>
  ⟨B, 0, rfl, hl, h.lt, fun i hi => by rw [Nat.zero_add]; exact h.done i hi, fun _ j => h.free j⟩
theorem GSegL.setAll {k lo B o : Nat} {w : World} {a : Option Addr} {n : Nat} {X : Nat → List Value} (vs : List Value) (h : GSegL k lo w a n X) (hB : B < lo) : GSegL k lo (setAll w B o vs) a n X := fun h0 => by
  obtain ⟨b, off, e, h1, hlt, hc, hf⟩ := h h0
  refine ⟨b, off, e, h1, by rw [setAll_size]; exact hlt, fun i hi j v hj => ?_, fun g j => by rw [setAll_free]; exact hf g j⟩
  rw [setAll_other _ _ _ _ _ _ (.inl (by omega))]
  exact hc i hi j v hj



theorem cell0 {w : World} {b : Nat} {vs : List Value} (h : CellsAt w b 0 vs) (j : Nat) {v : Value} (hj : vs[j]? = some v) : w.cell? ⟨b, j, none⟩ = some v := by
  have := h j v hj
  rw [Nat.zero_add] at this
  exact this
abbrev wiT := Int × Int × Int
abbrev wi0 : wiT := (0, 0, 0)
def wiL (x : wiT) : List Value := [.int .i64 x.1, .int .i64 x.2.1, .int .i64 x.2.2]
def wiX (xs : List wiT) : Nat → List Value := fun i => wiL (xs.getD i wi0)
abbrev wiV (x : wiT) : Value := .agg #[.int .i64 x.1, .int .i64 x.2.1, .int .i64 x.2.2]
theorem wi_cells {w : World} {b o : Nat} {x : wiT} (h : CellsAt w b o (wiL x)) : w.cell? ⟨b, o, none⟩ = some (.int .i64 x.1) ∧ w.cell? ⟨b, o + 1, none⟩ = some (.int .i64 x.2.1) ∧ w.cell? ⟨b, o + 2, none⟩ = some (.int .i64 x.2.2) :=
  ⟨h 0 _ rfl, h 1 _ rfl, h 2 _ rfl⟩
set_option maxRecDepth 20000 in
set_option maxHeartbeats 1000000 in
theorem wi_every (a : Option Addr) (cap n : Nat) (xs : List wiT) (P : Nat → Bool) (q : Bool) (fid : Nat) (caps : Array Value) (w : World) (hs : GSeg 3 w a n (wiX xs)) (hn : n ≤ 9223372036854775807) (hen : ∀ args (v : World), (callFunc fid args).run Tryz.prog v = .ok (.enter fid args) v)
    (hf : ∀ i, i < n → ∀ X, Below w.heap.size w X → Calls Tryz.prog fid (#[wiV (xs.getD i wi0)] ++ caps) X fun e w' => e = .returned (.bool (P i)) ∧ Below X.heap.size X w')
    (hq : q = true ↔ ∀ i, i < n → P i = true) :
    Calls Tryz.prog 69 #[.slice a n cap, .func (.func fid) #[] caps] w fun e w' => e = .returned (.bool q) ∧ Below w.heap.size w w' := by
  have HQ : Hid (q = true ↔ ∀ i, i < n → P i = true) := hq
  have HS : Hid (GSeg 3 w a n (wiX xs)) := hs
  have HF : Hid (∀ i, i < n → ∀ X, Below w.heap.size w X → Calls Tryz.prog fid (#[wiV (xs.getD i wi0)] ++ caps) X fun e w' => e = .returned (.bool (P i)) ∧ Below X.heap.size X w') := hf
  clear hq hs hf
  go_enter Tryz.func69, Tryz.ntmps69
  go_wp2
  go_loopw [9] (fun i wr => ∃ m : Nat, m ≤ n ∧ i = .int .i64 m ∧ Hid (Below w.heap.size w wr ∧ ∀ j, j < m → P j = true)) (fun i _ => n - (intOf i).toNat)
  case atStart => exact ⟨0, by omega, rfl, Below.refl _ _, fun i hi => absurd hi (by omega)⟩
  case round =>
    obtain ⟨m, hm, rfl, HR⟩ := hrel
    by_cases hmn : m < n
    rotate_left
    · obtain rfl : m = n := by omega
      have HT : Hid (q = true) := HQ.out.2 HR.out.2
      go_wp2
      go_ret
      exact ⟨ret_bool HT.out.symm, HR.out.1⟩
    have hmn' : (m : Int) < (n : Int) := by omega
    obtain ⟨b1, o1, rfl, hbl1, p1⟩ := HS.out.at m hmn
    replace p1 := p1.of (w' := wr) (fun j => HR.out.1.cell (p := ⟨b1, j, none⟩) hbl1)
    have HFm : Hid _ := HF.out m hmn
    have HPm : Hid (P m = false → q = false) := fun h => not_true HQ.out (fun g => by rw [g m hmn] at h; cases h)
    have HPt : Hid (P m = true → ∀ j, j < m + 1 → P j = true) := fun h j hj => by
      by_cases e : j = m
      · subst e; exact h
      · exact HR.out.2 j (by omega)
    simp only [wiX] at p1
    generalize xs.getD m wi0 = x at p1 HFm
    generalize P m = pm at HFm HPm HPt
    obtain ⟨c0, c1, c2⟩ := wi_cells p1
    obtain ⟨x1, x2, x3⟩ := x
    simp only [wiV] at c0 c1 c2 HFm
    have hb0 : Hid (Below w.heap.size w (wr.alloc (.cells #[.int .i64 x1, .int .i64 x2, .int .i64 x3] 49))) := HR.out.1.alloc HR.out.1.size _
    clear p1 hbl1
    go_wp2_with fail
    refine (HFm.out _ hb0.out).mono ?_
    rintro u w1 ⟨rfl, hb1⟩
    have HB1 : Hid (Below w.heap.size w w1) := hb0.out.trans (hb1.mono hb0.out.size)
    clear hb1 hb0 c0 c1 c2
    cases pm
    · have HT : Hid (q = false) := HPm.out (by trivial)
      go_wp2
      go_ret
      exact ⟨ret_bool HT.out.symm, HB1.out⟩
    · have HT : Hid _ := HPt.out (by trivial)
      go_wp2
      go_roundw
      case rel => exact ⟨m + 1, by omega, by go_num, HB1.out, HT.out⟩
      case measure => simp [intOf]; omega
set_option maxRecDepth 40000 in
set_option maxHeartbeats 4000000 in
theorem win_two (a : Option Addr) (cap n : Nat) (xs : List wiT) (P : Nat → Nat → Bool) (q : Bool) (fid : Nat) (caps : Array Value) (w : World) (hs : GSeg 3 w a n (wiX xs)) (hn : n ≤ 9223372036854775807) (hc : n ≤ cap) (hen : ∀ args (v : World), (callFunc fid args).run Tryz.prog v = .ok (.enter fid args) v)
    (hf : ∀ i, i < n → ∀ j, j < i → ∀ X, Below w.heap.size w X → Calls Tryz.prog fid (#[wiV (xs.getD j wi0), wiV (xs.getD i wi0)] ++ caps) X fun e w' => e = .returned (.bool (P j i)) ∧ Below X.heap.size X w')
    (hq : q = true ↔ ∀ i, i < n → ∀ j, j < i → P j i = true) :
    Calls Tryz.prog 71 #[.slice a n cap, .func (.func fid) #[] caps] w fun e w' => e = .returned (.bool q) ∧ Below w.heap.size w w' := by
  have HQ : Hid (q = true ↔ ∀ i, i < n → ∀ j, j < i → P j i = true) := hq
  have HS : Hid (GSeg 3 w a n (wiX xs)) := hs
  have HF : Hid (∀ i, i < n → ∀ j, j < i → ∀ X, Below w.heap.size w X → Calls Tryz.prog fid (#[wiV (xs.getD j wi0), wiV (xs.getD i wi0)] ++ caps) X fun e w' => e = .returned (.bool (P j i)) ∧ Below X.heap.size X w') := hf
  clear hq hs hf
  go_enter Tryz.func71, Tryz.ntmps71
  go_wp2
  go_loopw [11] (fun i wr => ∃ m : Nat, m ≤ n ∧ i = .int .i64 m ∧ Hid (Below w.heap.size w wr ∧ ∀ i, i < m → ∀ j, j < i → P j i = true)) (fun i _ => n - (intOf i).toNat)
  case atStart => exact ⟨0, by omega, rfl, Below.refl _ _, fun i hi => absurd hi (by omega)⟩
  case round =>
    obtain ⟨m, hm, rfl, HR⟩ := hrel
    by_cases hmn : m < n
    rotate_left
    · obtain rfl : m = n := by omega
      have HT : Hid (q = true) := HQ.out.2 HR.out.2
      go_wp2
      go_ret
      exact ⟨ret_bool HT.out.symm, HR.out.1⟩
    have hmn' : (m : Int) < (n : Int) := by omega
    have hmc' : (m : Int) ≤ (cap : Int) := by omega
    obtain ⟨b1, o1, rfl, hbl1, p0⟩ := HS.out.at m hmn
    have HP : Hid (∀ X, Below w.heap.size w X → ∀ i, i < n → CellsAt X b1 (o1 + i * 3) (wiX xs i)) := fun X hX i hi => by
      obtain ⟨b2, o2, e, hbl2, p2⟩ := HS.out.at i hi
      cases e
      exact p2.of (fun j => hX.cell (p := ⟨b1, j, none⟩) hbl1)
    have pc := HP.out _ HR.out.1 m hmn
    simp only [wiX] at pc
    obtain ⟨c0, c1, c2⟩ := wi_cells pc
    clear pc
    have HFm : Hid _ := HF.out m hmn
    have HPf : Hid (∀ j, j < m → P j m = false → q = false) := fun j hj h => not_true HQ.out (fun g => by rw [g m hmn j hj] at h; cases h)
    have HPt : Hid ((∀ j, j < m → P j m = true) → ∀ i, i < m + 1 → ∀ j, j < i → P j i = true) := fun h i hi j hj => by
      by_cases e : i = m
      · subst e; exact h j hj
      · exact HR.out.2 i (by omega) j hj
    generalize xs.getD m wi0 = y at c0 c1 c2 HFm
    generalize hpm : (fun j => P j m) = pm at *
    replace HFm : Hid (∀ j, j < m → ∀ X, Below w.heap.size w X → Calls Tryz.prog fid (#[wiV (xs.getD j wi0), wiV y] ++ caps) X fun e w' => e = .returned (.bool (pm j)) ∧ Below X.heap.size X w') := fun j hj X hX => by rw [← hpm]; exact HFm.out j hj X hX
    replace HPf : Hid (∀ j, j < m → pm j = false → q = false) := fun j hj h => HPf.out j hj (by rw [← hpm] at h; exact h)
    replace HPt : Hid ((∀ j, j < m → pm j = true) → ∀ i, i < m + 1 → ∀ j, j < i → P j i = true) := fun h => HPt.out (fun j hj => by have := h j hj; rw [← hpm] at this; exact this)
    clear hpm
    obtain ⟨y1, y2, y3⟩ := y
    simp only at c0 c1 c2
    have HK0 : Hid (Below w.heap.size w (wr.alloc (.cells #[.int .i64 y1, .int .i64 y2, .int .i64 y3] 49)) ∧ CellsAt (wr.alloc (.cells #[.int .i64 y1, .int .i64 y2, .int .i64 y3] 49)) wr.heap.size 0 [.int .i64 y1, .int .i64 y2, .int .i64 y3]) := ⟨HR.out.1.alloc HR.out.1.size _, CellsAt.new wr [.int .i64 y1, .int .i64 y2, .int .i64 y3] 49 _ rfl⟩
    clear p0 hbl1
    go_wp2
    clear c0 c1 c2 HR
    revert HK0
    generalize (wr.alloc (.cells #[.int .i64 y1, .int .i64 y2, .int .i64 y3] 49)) = V0
    generalize wr.heap.size = B1
    intro HK0
    go_loopw [20] (fun i wq => ∃ k : Nat, k ≤ m ∧ i = .int .i64 k ∧ Hid (Below w.heap.size w wq ∧ CellsAt wq B1 0 [.int .i64 y1, .int .i64 y2, .int .i64 y3] ∧ ∀ j, j < k → pm j = true)) (fun i _ => m - (intOf i).toNat)
    case atStart => exact ⟨0, by omega, rfl, HK0.out.1, HK0.out.2, fun i hi => absurd hi (by omega)⟩
    case round =>
      rename World => wq
      obtain ⟨k, hk, rfl, HR2⟩ := hrel
      by_cases hkm : k < m
      rotate_left
      · obtain rfl : k = m := by omega
        have HR3 : Hid _ := HPt.out HR2.out.2.2
        go_wp2
        go_roundw
        case rel => exact ⟨k + 1, by omega, by go_num, HR2.out.1, HR3.out⟩
        case measure => simp [intOf]; omega
      have hkm' : (k : Int) < (m : Int) := by omega
      have pd := HP.out _ HR2.out.1 k (by omega)
      simp only [wiX] at pd
      obtain ⟨d0, d1, d2⟩ := wi_cells pd
      clear pd
      have HFk : Hid _ := HFm.out k hkm
      have HPk : Hid (pm k = false → q = false) := HPf.out k hkm
      have HPs : Hid (pm k = true → ∀ j, j < k + 1 → pm j = true) := fun h j hj => by
        by_cases e : j = k
        · subst e; exact h
        · exact HR2.out.2.2 j (by omega)
      generalize xs.getD k wi0 = z at d0 d1 d2 HFk
      generalize pm k = pk at HFk HPk HPs
      obtain ⟨z1, z2, z3⟩ := z
      simp only [wiV] at d0 d1 d2 HFk
      have hal : Below wq.heap.size wq (wq.alloc (.cells #[.int .i64 z1, .int .i64 z2, .int .i64 z3] 49)) := (Below.refl _ _).alloc (Nat.le_refl _) _
      have hK2 := HR2.out.2.1.below hal
      have e0 := cell0 hK2 0 rfl
      have e1 := cell0 hK2 1 rfl
      have e2 := cell0 hK2 2 rfl
      have HAL : Hid (Below w.heap.size w (wq.alloc (.cells #[.int .i64 z1, .int .i64 z2, .int .i64 z3] 49)) ∧ CellsAt (wq.alloc (.cells #[.int .i64 z1, .int .i64 z2, .int .i64 z3] 49)) B1 0 [.int .i64 y1, .int .i64 y2, .int .i64 y3]) := ⟨HR2.out.1.trans (hal.mono HR2.out.1.size), hK2⟩
      clear hal hK2
      go_wp2_with fail
      refine (HFk.out _ HAL.out.1).mono ?_
      rintro u W1 ⟨rfl, hb2⟩
      have HB2 : Hid (Below w.heap.size w W1 ∧ CellsAt W1 B1 0 [.int .i64 y1, .int .i64 y2, .int .i64 y3]) := ⟨HAL.out.1.trans (hb2.mono HAL.out.1.size), HAL.out.2.below hb2⟩
      clear hb2 d0 d1 d2 e0 e1 e2 HAL
      cases pk
      · have HT : Hid (q = false) := HPk.out (by trivial)
        go_wp2
        go_ret
        exact ⟨ret_bool HT.out.symm, HB2.out.1⟩
      · have HT : Hid _ := HPs.out (by trivial)
        go_wp2
        go_roundw
        case rel => exact ⟨k + 1, by omega, by go_num, HB2.out.1, HB2.out.2, HT.out⟩
        case measure => simp [intOf]; omega
theorem ASeg.gseg {w : World} {a : Option Addr} {xs : List Wn} {n : Nat} (h : ASeg w a xs) (hl : xs.length = n) : GSeg 3 w a n (wiX xs) := fun h0 => by
  obtain ⟨b, off, e, hlt, hc⟩ := h (by omega)
  refine ⟨b, off, e, hlt, fun i hi j v hj => ?_⟩
  obtain ⟨c0, c1, c2⟩ := hc i (by omega)
  match j, hj with
  | 0, hj => injection hj with hj; subst hj; exact c0
  | 1, hj => injection hj with hj; subst hj; exact c1
  | 2, hj => injection hj with hj; subst hj; exact c2
  | j + 3, hj => simp [wiX, wiL] at hj
set_option maxRecDepth 20000 in
theorem e_wok : ∀ args (v : World), (callFunc 70 args).run Tryz.prog v = .ok (.enter 70 args) v := enters_of Tryz.func70 (by kernel_rfl) rfl
set_option maxRecDepth 20000 in
theorem e_apart : ∀ args (v : World), (callFunc 72 args).run Tryz.prog v = .ok (.enter 72 args) v := enters_of Tryz.func72 (by kernel_rfl) rfl
set_option maxRecDepth 40000 in
set_option maxHeartbeats 4000000 in
theorem impl_wsok (a : Option Addr) (cap n : Nat) (xs : List Wn) (q : Bool) (w : World) (hs : ASeg w a xs) (hf : Fit xs) (hl : xs.length = n) (hn : n ≤ 9223372036854775807) (hc : n ≤ cap) (hq : q = true ↔ WsOk xs) :
    Calls Tryz.prog 49 #[.slice a n cap] w fun e w' => e = .returned (.bool q) ∧ Below w.heap.size w w' := by
  by_cases h4 : n ≤ 4
  rotate_left
  · have h4' : ¬ (n : Int) ≤ 4 := by omega
    have HT : Hid (q = false) := not_true hq (fun h => h4 (by rw [← hl]; exact h.1))
    clear hq hs hl hf
    go_enter Tryz.func49, Tryz.ntmps49
    go_wp2
    go_ret
    exact ⟨ret_bool HT.out.symm, Below.refl _ _⟩
  have h4' : (n : Int) ≤ 4 := by omega
  have hfit : ∀ i, i < n → (xs.getD i wi0).2.1 ≤ 9223372036854775807 := fun i hi => hf i (by rw [hl]; exact hi)
  have hd1 : ∀ i, ∃ b : Bool, (b = true ↔ WOk (xs.getD i wi0)) := fun i => told _
  have hd2 : ∀ j i, ∃ b : Bool, (b = true ↔ ApartP (xs.getD j wi0) (xs.getD i wi0)) := fun j i => told _
  obtain ⟨q1, hq1⟩ := told (∀ i, i < n → (hd1 i).choose = true)
  obtain ⟨q2, hq2⟩ := told (∀ i, i < n → ∀ j, j < i → (hd2 j i).choose = true)
  have HE : Hid (∀ X, Below w.heap.size w X → Calls Tryz.prog 69 #[.slice a n cap, .func (.func 70) #[] #[]] X fun e w' => e = .returned (.bool q1) ∧ Below X.heap.size X w') := fun X hX =>
    wi_every a cap n xs (fun i => (hd1 i).choose) q1 70 #[] X ((ASeg.gseg hs hl).below hX) hn e_wok (fun i hi Y hY => impl_wok _ _ _ _ Y (hfit i hi) (hd1 i).choose_spec) hq1
  have HT : Hid (∀ X, Below w.heap.size w X → Calls Tryz.prog 71 #[.slice a n cap, .func (.func 72) #[] #[]] X fun e w' => e = .returned (.bool q2) ∧ Below X.heap.size X w') := fun X hX =>
    win_two a cap n xs (fun j i => (hd2 j i).choose) q2 72 #[] X ((ASeg.gseg hs hl).below hX) hn hc e_apart (fun i hi j hj Y hY => impl_apart _ _ _ Y (hfit j (by omega)) (hfit i hi) (hd2 j i).choose_spec) hq2
  have HQ1 : Hid (q1 = false → q = false) := fun h => not_true hq (fun g => by
    rw [hq1.2 (fun i hi => (hd1 i).choose_spec.2 (g.2 i (by rw [hl]; exact hi)).1)] at h
    cases h)
  have HQ2 : Hid (q1 = true → q2 = q) := fun h1 => by
    cases hh : q2 with
    | true => exact (hq.2 ⟨by rw [hl]; exact h4, fun i hi => ⟨(hd1 i).choose_spec.1 (hq1.1 h1 i (by rw [← hl]; exact hi)), fun j hj => (hd2 j i).choose_spec.1 (hq2.1 hh i (by rw [← hl]; exact hi) j hj)⟩⟩).symm
    | false => exact (not_true hq (fun g => by
        rw [hq2.2 (fun i hi j hj => (hd2 j i).choose_spec.2 ((g.2 i (by rw [hl]; exact hi)).2 j hj))] at hh
        cases hh)).symm
  clear hq1 hq2 hfit hq hs hf hl hc h4
  clear hd1 hd2
  go_enter Tryz.func49, Tryz.ntmps49
  go_wp2_with fail
  refine Calls.mono (HE.out _ (Below.refl _ _)) ?_
  rintro e w1 ⟨rfl, hb1⟩
  have HB1 : Hid (Below w.heap.size w w1) := hb1
  clear hb1
  cases q1
  · have HQ : Hid (q = false) := HQ1.out (by trivial)
    clear HE HT HQ1 HQ2
    go_wp2
    go_ret
    exact ⟨ret_bool HQ.out.symm, HB1.out⟩
  have HQ : Hid (q2 = q) := HQ2.out (by trivial)
  clear HQ1 HQ2
  go_wp2_with fail
  refine Calls.mono (HT.out _ HB1.out) ?_
  rintro e w2 ⟨rfl, hb2⟩
  have HB2 : Hid (Below w.heap.size w w2) := HB1.out.trans (hb2.mono HB1.out.size)
  clear hb2 HE HT
  go_wp2
  go_ret
  exact ⟨ret_bool HQ.out, HB2.out⟩

end Wq

theorem impl_wsok (a : Option Addr) (cap n : Nat) (xs : List Wn) (q : Bool) (w : World) (hs : ASeg w a xs) (hf : Fit xs) (hl : xs.length = n) (hn : n ≤ 9223372036854775807) (hc : n ≤ cap) (hq : q = true ↔ WsOk xs) :
    Calls Tryz.prog 49 #[.slice a n cap] w fun e w' => e = .returned (.bool q) ∧ Below w.heap.size w w' :=
  Wq.impl_wsok a cap n xs q w hs hf hl hn hc hq
end Go.Proofs.YtjlhkjiccibgdaaGreatDoor
