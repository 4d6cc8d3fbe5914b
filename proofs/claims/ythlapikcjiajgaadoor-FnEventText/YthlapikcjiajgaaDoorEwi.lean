
/-
  What the program's EventOf returns, and its reader of words. Conditions: texts are at most 1048576 bytes long; the program's table of names and the library's variable lie in memory as the texts lay them.
-/
import Derived.Test.YthlapikcjiajgaaDoorBas
import Derived.Test.YthlapikcjiajgaaDoorEws
import Derived.Laws.CopyOwn
namespace Go.Proofs.YthlapikcjiajgaaDoor
open Go.ChangeShapes Go.WideShapes Go.ChangeAt Go.RowKit Go.Deep
set_option linter.unusedVariables false

theorem row_f {w : World} {B : Nat} {cs : Array Value} {ty : TypeId} (h : w.heap[B]? = some (.cells cs ty (0, 0))) (j : Nat) : w.frozen? ⟨B, j, none⟩ = false := Lib.frozen_of_heap h j
/-- A reader of words in memory: where its words lie, and whether one was wrong. -/
structure ER (W0 w : World) (B g : Nat) (ws : List ByteArray) (fl : Bool) : Prop where
  below : Below W0.heap.size W0 w
  low : W0.heap.size ≤ B
  gB : g < B
  row : w.heap[B]? = some (.cells #[.slice (some ⟨g, 0, none⟩) 7 7, .bool fl] 50 (0, 0))
  words : ∀ j, j < 7 → w.cell? ⟨g, j, none⟩ = some (.string (Ex.wgt ws j))
theorem ER.grown {W0 w w' : World} {B g : Nat} {ws : List ByteArray} {fl : Bool} (h : ER W0 w B g ws fl) (hb : Below w.heap.size w w') : ER W0 w' B g ws fl :=
  ⟨h.below.trans (hb.mono h.below.size), h.low, h.gB, row_below h.row hb, fun j hj => (hb.cell (World.block_lt_of_cell? _ _ (h.words j hj))).trans (h.words j hj)⟩
theorem ER.set {W0 w : World} {B g : Nat} {ws : List ByteArray} {fl : Bool} (h : ER W0 w B g ws fl) (v : Bool) : ER W0 (w.setCell ⟨B, 1, none⟩ (.bool v)) B g ws v := by
  have hb : Below B w (w.setCell ⟨B, 1, none⟩ (.bool v)) := Below.setCell (Below.refl B w) (show B ≤ (⟨B, 1, none⟩ : Addr).block from Nat.le_refl B) _
  refine ⟨Below.setCell h.below (show W0.heap.size ≤ (⟨B, 1, none⟩ : Addr).block from h.low) _, h.low, h.gB, ?_, fun j hj => (hb.cell (p := ⟨g, j, none⟩) h.gB).trans (h.words j hj)⟩
  rw [setCell_eq_setRow w B 1 _ 50 (0, 0) (.bool v) h.row, setRow_heap w B _ _ 50 (0, 0) h.row]
  rfl
set_option maxRecDepth 40000 in
set_option maxHeartbeats 8000000 in
theorem rd_number_t (W0 w : World) (B g j : Nat) (ws : List ByteArray) (x : ByteArray) (n : Int) (q : Bool) (h : ER W0 w B g ws true) (hj : j < 7) (hx : Ex.wgt ws j = x)
    (HC : Hid (∀ X, Calls Tryd.prog 41 #[.string x, .int .i64 1000000] X fun e w' => e = .returned (.tuple #[.int .i64 n, .bool q]) ∧ Below X.heap.size X w')) :
    Calls Tryd.prog 27 #[.pointer (some ⟨B, 0, none⟩), .int .i64 (j : Int)] w fun e w' => e = .returned (.int .i64 n) ∧ ER W0 w' B g ws true := by
  have c0 : w.cell? ⟨B, 0, none⟩ = some (.slice (some ⟨g, 0, none⟩) 7 7) := row_c h.row 0 _ rfl
  have cw : w.cell? ⟨g, j, none⟩ = some (.string x) := (h.words j hj).trans (by rw [hx])
  have hj' : (j : Int) < 7 := by omega
  have HE : Hid (ER W0 w B g ws true) := h
  clear h hx
  go_enter Tryd.func27, Tryd.ntmps27
  go_wp2_with fail
  refine Calls.mono (HC.out _) ?_
  rintro e w1 ⟨rfl, hb⟩
  have HE1 : Hid (ER W0 w1 B g ws true) := HE.out.grown hb
  clear c0 cw hb HE
  have d1 : w1.cell? ⟨B, 1, none⟩ = some (.bool true) := row_c HE1.out.row 1 _ rfl
  have f1 : w1.frozen? ⟨B, 1, none⟩ = false := row_f HE1.out.row 1
  have HE2 : Hid (ER W0 (w1.setCell ⟨B, 1, none⟩ (.bool true)) B g ws true) := HE1.out.set true
  clear HE1
  go_wp2
  go_ret
  exact ⟨rfl, HE2.out⟩
set_option maxRecDepth 40000 in
set_option maxHeartbeats 8000000 in
theorem rd_number_y (W0 w : World) (B g j : Nat) (ws : List ByteArray) (x : ByteArray) (n : Int) (h : ER W0 w B g ws false) (hj : j < 7) (hx : Ex.wgt ws j = x)
    (HC : Hid (∀ X, Calls Tryd.prog 41 #[.string x, .int .i64 1000000] X fun e w' => e = .returned (.tuple #[.int .i64 n, .bool true]) ∧ Below X.heap.size X w')) :
    Calls Tryd.prog 27 #[.pointer (some ⟨B, 0, none⟩), .int .i64 (j : Int)] w fun e w' => e = .returned (.int .i64 n) ∧ ER W0 w' B g ws false := by
  have c0 : w.cell? ⟨B, 0, none⟩ = some (.slice (some ⟨g, 0, none⟩) 7 7) := row_c h.row 0 _ rfl
  have cw : w.cell? ⟨g, j, none⟩ = some (.string x) := (h.words j hj).trans (by rw [hx])
  have hj' : (j : Int) < 7 := by omega
  have HE : Hid (ER W0 w B g ws false) := h
  clear h hx
  go_enter Tryd.func27, Tryd.ntmps27
  go_wp2_with fail
  refine Calls.mono (HC.out _) ?_
  rintro e w1 ⟨rfl, hb⟩
  have HE1 : Hid (ER W0 w1 B g ws false) := HE.out.grown hb
  clear c0 cw hb HE
  have d1 : w1.cell? ⟨B, 1, none⟩ = some (.bool false) := row_c HE1.out.row 1 _ rfl
  have f1 : w1.frozen? ⟨B, 1, none⟩ = false := row_f HE1.out.row 1
  have HE2 : Hid (ER W0 (w1.setCell ⟨B, 1, none⟩ (.bool false)) B g ws false) := HE1.out.set false
  clear HE1
  go_wp2
  go_ret
  exact ⟨rfl, HE2.out⟩
set_option maxRecDepth 40000 in
set_option maxHeartbeats 8000000 in
theorem rd_number_n (W0 w : World) (B g j : Nat) (ws : List ByteArray) (x : ByteArray) (n : Int) (h : ER W0 w B g ws false) (hj : j < 7) (hx : Ex.wgt ws j = x)
    (HC : Hid (∀ X, Calls Tryd.prog 41 #[.string x, .int .i64 1000000] X fun e w' => e = .returned (.tuple #[.int .i64 n, .bool false]) ∧ Below X.heap.size X w')) :
    Calls Tryd.prog 27 #[.pointer (some ⟨B, 0, none⟩), .int .i64 (j : Int)] w fun e w' => e = .returned (.int .i64 n) ∧ ER W0 w' B g ws true := by
  have c0 : w.cell? ⟨B, 0, none⟩ = some (.slice (some ⟨g, 0, none⟩) 7 7) := row_c h.row 0 _ rfl
  have cw : w.cell? ⟨g, j, none⟩ = some (.string x) := (h.words j hj).trans (by rw [hx])
  have hj' : (j : Int) < 7 := by omega
  have HE : Hid (ER W0 w B g ws false) := h
  clear h hx
  go_enter Tryd.func27, Tryd.ntmps27
  go_wp2_with fail
  refine Calls.mono (HC.out _) ?_
  rintro e w1 ⟨rfl, hb⟩
  have HE1 : Hid (ER W0 w1 B g ws false) := HE.out.grown hb
  clear c0 cw hb HE
  have d1 : w1.cell? ⟨B, 1, none⟩ = some (.bool false) := row_c HE1.out.row 1 _ rfl
  have f1 : w1.frozen? ⟨B, 1, none⟩ = false := row_f HE1.out.row 1
  have HE2 : Hid (ER W0 (w1.setCell ⟨B, 1, none⟩ (.bool true)) B g ws true) := HE1.out.set true
  clear HE1
  go_wp2
  go_ret
  exact ⟨rfl, HE2.out⟩
set_option maxRecDepth 40000 in
set_option maxHeartbeats 8000000 in
theorem rd_hex_t (W0 w : World) (B g j : Nat) (ws : List ByteArray) (x : ByteArray) (n : Int) (q : Bool) (h : ER W0 w B g ws true) (hj : j < 7) (hx : Ex.wgt ws j = x)
    (HC : Hid (∀ X, Calls Tryd.prog 42 #[.string x] X fun e w' => e = .returned (.tuple #[.int .u32 n, .bool q]) ∧ Below X.heap.size X w')) :
    Calls Tryd.prog 28 #[.pointer (some ⟨B, 0, none⟩), .int .i64 (j : Int)] w fun e w' => e = .returned (.int .u32 n) ∧ ER W0 w' B g ws true := by
  have c0 : w.cell? ⟨B, 0, none⟩ = some (.slice (some ⟨g, 0, none⟩) 7 7) := row_c h.row 0 _ rfl
  have cw : w.cell? ⟨g, j, none⟩ = some (.string x) := (h.words j hj).trans (by rw [hx])
  have hj' : (j : Int) < 7 := by omega
  have HE : Hid (ER W0 w B g ws true) := h
  clear h hx
  go_enter Tryd.func28, Tryd.ntmps28
  go_wp2_with fail
  refine Calls.mono (HC.out _) ?_
  rintro e w1 ⟨rfl, hb⟩
  have HE1 : Hid (ER W0 w1 B g ws true) := HE.out.grown hb
  clear c0 cw hb HE
  have d1 : w1.cell? ⟨B, 1, none⟩ = some (.bool true) := row_c HE1.out.row 1 _ rfl
  have f1 : w1.frozen? ⟨B, 1, none⟩ = false := row_f HE1.out.row 1
  have HE2 : Hid (ER W0 (w1.setCell ⟨B, 1, none⟩ (.bool true)) B g ws true) := HE1.out.set true
  clear HE1
  go_wp2
  go_ret
  exact ⟨rfl, HE2.out⟩
set_option maxRecDepth 40000 in
set_option maxHeartbeats 8000000 in
theorem rd_hex_y (W0 w : World) (B g j : Nat) (ws : List ByteArray) (x : ByteArray) (n : Int) (h : ER W0 w B g ws false) (hj : j < 7) (hx : Ex.wgt ws j = x)
    (HC : Hid (∀ X, Calls Tryd.prog 42 #[.string x] X fun e w' => e = .returned (.tuple #[.int .u32 n, .bool true]) ∧ Below X.heap.size X w')) :
    Calls Tryd.prog 28 #[.pointer (some ⟨B, 0, none⟩), .int .i64 (j : Int)] w fun e w' => e = .returned (.int .u32 n) ∧ ER W0 w' B g ws false := by
  have c0 : w.cell? ⟨B, 0, none⟩ = some (.slice (some ⟨g, 0, none⟩) 7 7) := row_c h.row 0 _ rfl
  have cw : w.cell? ⟨g, j, none⟩ = some (.string x) := (h.words j hj).trans (by rw [hx])
  have hj' : (j : Int) < 7 := by omega
  have HE : Hid (ER W0 w B g ws false) := h
  clear h hx
  go_enter Tryd.func28, Tryd.ntmps28
  go_wp2_with fail
  refine Calls.mono (HC.out _) ?_
  rintro e w1 ⟨rfl, hb⟩
  have HE1 : Hid (ER W0 w1 B g ws false) := HE.out.grown hb
  clear c0 cw hb HE
  have d1 : w1.cell? ⟨B, 1, none⟩ = some (.bool false) := row_c HE1.out.row 1 _ rfl
  have f1 : w1.frozen? ⟨B, 1, none⟩ = false := row_f HE1.out.row 1
  have HE2 : Hid (ER W0 (w1.setCell ⟨B, 1, none⟩ (.bool false)) B g ws false) := HE1.out.set false
  clear HE1
  go_wp2
  go_ret
  exact ⟨rfl, HE2.out⟩
set_option maxRecDepth 40000 in
set_option maxHeartbeats 8000000 in
theorem rd_hex_n (W0 w : World) (B g j : Nat) (ws : List ByteArray) (x : ByteArray) (n : Int) (h : ER W0 w B g ws false) (hj : j < 7) (hx : Ex.wgt ws j = x)
    (HC : Hid (∀ X, Calls Tryd.prog 42 #[.string x] X fun e w' => e = .returned (.tuple #[.int .u32 n, .bool false]) ∧ Below X.heap.size X w')) :
    Calls Tryd.prog 28 #[.pointer (some ⟨B, 0, none⟩), .int .i64 (j : Int)] w fun e w' => e = .returned (.int .u32 n) ∧ ER W0 w' B g ws true := by
  have c0 : w.cell? ⟨B, 0, none⟩ = some (.slice (some ⟨g, 0, none⟩) 7 7) := row_c h.row 0 _ rfl
  have cw : w.cell? ⟨g, j, none⟩ = some (.string x) := (h.words j hj).trans (by rw [hx])
  have hj' : (j : Int) < 7 := by omega
  have HE : Hid (ER W0 w B g ws false) := h
  clear h hx
  go_enter Tryd.func28, Tryd.ntmps28
  go_wp2_with fail
  refine Calls.mono (HC.out _) ?_
  rintro e w1 ⟨rfl, hb⟩
  have HE1 : Hid (ER W0 w1 B g ws false) := HE.out.grown hb
  clear c0 cw hb HE
  have d1 : w1.cell? ⟨B, 1, none⟩ = some (.bool false) := row_c HE1.out.row 1 _ rfl
  have f1 : w1.frozen? ⟨B, 1, none⟩ = false := row_f HE1.out.row 1
  have HE2 : Hid (ER W0 (w1.setCell ⟨B, 1, none⟩ (.bool true)) B g ws true) := HE1.out.set true
  clear HE1
  go_wp2
  go_ret
  exact ⟨rfl, HE2.out⟩
set_option maxRecDepth 40000 in
set_option maxHeartbeats 8000000 in
theorem rd_op_t (W0 w : World) (B g j : Nat) (ws : List ByteArray) (x : ByteArray) (z : Int) (h : ER W0 w B g ws true) (hj : j < 7) (hx : Ex.wgt ws j = x)
    (HC : Hid (Calls Tryd.prog 43 #[.string x] w fun e w' => e = .returned (.int .i64 z) ∧ w' = w)) :
    Calls Tryd.prog 29 #[.pointer (some ⟨B, 0, none⟩), .int .i64 (j : Int)] w fun e w' => e = .returned (.int .i64 z) ∧ ER W0 w' B g ws true := by
  have c0 : w.cell? ⟨B, 0, none⟩ = some (.slice (some ⟨g, 0, none⟩) 7 7) := row_c h.row 0 _ rfl
  have cw : w.cell? ⟨g, j, none⟩ = some (.string x) := (h.words j hj).trans (by rw [hx])
  have hj' : (j : Int) < 7 := by omega
  have HE : Hid (ER W0 w B g ws true) := h
  clear h hx
  go_enter Tryd.func29, Tryd.ntmps29
  go_wp2_with fail
  refine Calls.mono (HC.out) ?_
  rintro e w1 ⟨rfl, rfl⟩
  have d1 : w1.cell? ⟨B, 1, none⟩ = some (.bool true) := row_c HE.out.row 1 _ rfl
  have f1 : w1.frozen? ⟨B, 1, none⟩ = false := row_f HE.out.row 1
  have HE2 : Hid (ER W0 (w1.setCell ⟨B, 1, none⟩ (.bool true)) B g ws true) := HE.out.set true
  clear HE
  go_wp2
  go_ret
  exact ⟨rfl, HE2.out⟩
set_option maxRecDepth 40000 in
set_option maxHeartbeats 8000000 in
theorem rd_op_y (W0 w : World) (B g j : Nat) (ws : List ByteArray) (x : ByteArray) (z : Int) (h : ER W0 w B g ws false) (hj : j < 7) (hx : Ex.wgt ws j = x) (hz : 0 ≤ z ∧ z < 33)
    (HC : Hid (Calls Tryd.prog 43 #[.string x] w fun e w' => e = .returned (.int .i64 z) ∧ w' = w)) :
    Calls Tryd.prog 29 #[.pointer (some ⟨B, 0, none⟩), .int .i64 (j : Int)] w fun e w' => e = .returned (.int .i64 z) ∧ ER W0 w' B g ws false := by
  have HI : Hid (∀ X, Calls Tryd.prog 17 #[.int .i64 z] X fun e w' => e = .returned (.bool true) ∧ w' = X) := fun X => isOp_yes _ X hz.1 hz.2
  clear hz
  have c0 : w.cell? ⟨B, 0, none⟩ = some (.slice (some ⟨g, 0, none⟩) 7 7) := row_c h.row 0 _ rfl
  have cw : w.cell? ⟨g, j, none⟩ = some (.string x) := (h.words j hj).trans (by rw [hx])
  have hj' : (j : Int) < 7 := by omega
  have HE : Hid (ER W0 w B g ws false) := h
  clear h hx
  go_enter Tryd.func29, Tryd.ntmps29
  go_wp2_with fail
  refine Calls.mono (HC.out) ?_
  rintro e w1 ⟨rfl, rfl⟩
  have d1 : w1.cell? ⟨B, 1, none⟩ = some (.bool false) := row_c HE.out.row 1 _ rfl
  have f1 : w1.frozen? ⟨B, 1, none⟩ = false := row_f HE.out.row 1
  have HE2 : Hid (ER W0 (w1.setCell ⟨B, 1, none⟩ (.bool false)) B g ws false) := HE.out.set false
  clear HE
  go_wp2_with fail
  refine Calls.mono (HI.out _) ?_
  rintro e w2 ⟨rfl, rfl⟩
  go_wp2
  go_ret
  exact ⟨rfl, HE2.out⟩
set_option maxRecDepth 40000 in
set_option maxHeartbeats 8000000 in
theorem rd_op_d (W0 w : World) (B g j : Nat) (ws : List ByteArray) (x : ByteArray) (z : Int) (h : ER W0 w B g ws false) (hj : j < 7) (hx : Ex.wgt ws j = x) (hz : ¬ (0 ≤ z ∧ z < 33)) (hd : x = Ex.dash)
    (HC : Hid (Calls Tryd.prog 43 #[.string x] w fun e w' => e = .returned (.int .i64 z) ∧ w' = w)) :
    Calls Tryd.prog 29 #[.pointer (some ⟨B, 0, none⟩), .int .i64 (j : Int)] w fun e w' => e = .returned (.int .i64 z) ∧ ER W0 w' B g ws false := by
  have HI : Hid (∀ X, Calls Tryd.prog 17 #[.int .i64 z] X fun e w' => e = .returned (.bool false) ∧ w' = X) := fun X => isOp_no _ X hz
  clear hz
  have hd1 : (x.toList == [45]) = true := by rw [hd]; exact dash_yes
  clear hd
  have c0 : w.cell? ⟨B, 0, none⟩ = some (.slice (some ⟨g, 0, none⟩) 7 7) := row_c h.row 0 _ rfl
  have cw : w.cell? ⟨g, j, none⟩ = some (.string x) := (h.words j hj).trans (by rw [hx])
  have hj' : (j : Int) < 7 := by omega
  have HE : Hid (ER W0 w B g ws false) := h
  clear h hx
  go_enter Tryd.func29, Tryd.ntmps29
  go_wp2_with fail
  refine Calls.mono (HC.out) ?_
  rintro e w1 ⟨rfl, rfl⟩
  have d1 : w1.cell? ⟨B, 1, none⟩ = some (.bool false) := row_c HE.out.row 1 _ rfl
  have f1 : w1.frozen? ⟨B, 1, none⟩ = false := row_f HE.out.row 1
  have HE2 : Hid (ER W0 (w1.setCell ⟨B, 1, none⟩ (.bool false)) B g ws false) := HE.out.set false
  clear HE
  go_wp2_with fail
  refine Calls.mono (HI.out _) ?_
  rintro e w2 ⟨rfl, rfl⟩
  go_wp2
  go_ret
  exact ⟨rfl, HE2.out⟩
set_option maxRecDepth 40000 in
set_option maxHeartbeats 8000000 in
theorem rd_op_n (W0 w : World) (B g j : Nat) (ws : List ByteArray) (x : ByteArray) (z : Int) (h : ER W0 w B g ws false) (hj : j < 7) (hx : Ex.wgt ws j = x) (hz : ¬ (0 ≤ z ∧ z < 33)) (hd : ¬ x = Ex.dash)
    (HC : Hid (Calls Tryd.prog 43 #[.string x] w fun e w' => e = .returned (.int .i64 z) ∧ w' = w)) :
    Calls Tryd.prog 29 #[.pointer (some ⟨B, 0, none⟩), .int .i64 (j : Int)] w fun e w' => e = .returned (.int .i64 z) ∧ ER W0 w' B g ws true := by
  have HI : Hid (∀ X, Calls Tryd.prog 17 #[.int .i64 z] X fun e w' => e = .returned (.bool false) ∧ w' = X) := fun X => isOp_no _ X hz
  clear hz
  have hd1 : (x.toList == [45]) = false := dash_no hd
  clear hd
  have c0 : w.cell? ⟨B, 0, none⟩ = some (.slice (some ⟨g, 0, none⟩) 7 7) := row_c h.row 0 _ rfl
  have cw : w.cell? ⟨g, j, none⟩ = some (.string x) := (h.words j hj).trans (by rw [hx])
  have hj' : (j : Int) < 7 := by omega
  have HE : Hid (ER W0 w B g ws false) := h
  clear h hx
  go_enter Tryd.func29, Tryd.ntmps29
  go_wp2_with fail
  refine Calls.mono (HC.out) ?_
  rintro e w1 ⟨rfl, rfl⟩
  have d1 : w1.cell? ⟨B, 1, none⟩ = some (.bool false) := row_c HE.out.row 1 _ rfl
  have f1 : w1.frozen? ⟨B, 1, none⟩ = false := row_f HE.out.row 1
  have HE2 : Hid (ER W0 (w1.setCell ⟨B, 1, none⟩ (.bool true)) B g ws true) := HE.out.set true
  clear HE
  go_wp2_with fail
  refine Calls.mono (HI.out _) ?_
  rintro e w2 ⟨rfl, rfl⟩
  go_wp2
  go_ret
  exact ⟨rfl, HE2.out⟩
theorem rd_number (W0 w : World) (B g j : Nat) (ws : List ByteArray) (fl : Bool) (h : ER W0 w B g ws fl) (hj : j < 7) (hz : (Ex.wgt ws j).size ≤ 1048576) :
    Calls Tryd.prog 27 #[.pointer (some ⟨B, 0, none⟩), .int .i64 (j : Int)] w fun e w' => e = .returned (.int .i64 (Ex.rdv (Ex.wgt ws j))) ∧ ER W0 w' B g ws (fl || !Ex.rdq (Ex.wgt ws j)) := by
  have hc : ∀ X, Calls Tryd.prog 41 #[.string (Ex.wgt ws j), .int .i64 1000000] X fun e w' => e = .returned (.tuple #[.int .i64 (Ex.rdv (Ex.wgt ws j)), .bool (Ex.rdq (Ex.wgt ws j))]) ∧ Below X.heap.size X w' := fun X =>
    (impl_num _ 1000000 X hz).mono fun e w' ⟨he, hb⟩ => ⟨by rw [tell_rd] at he; exact he, hb⟩
  cases fl
  · cases hq : Ex.rdq (Ex.wgt ws j)
    · rw [hq] at hc; exact rd_number_n W0 w B g j ws _ _ h hj rfl hc
    · rw [hq] at hc; exact rd_number_y W0 w B g j ws _ _ h hj rfl hc
  · exact rd_number_t W0 w B g j ws _ _ _ h hj rfl hc
theorem rd_hex (W0 w : World) (B g j : Nat) (ws : List ByteArray) (fl : Bool) (h : ER W0 w B g ws fl) (hj : j < 7) (hz : (Ex.wgt ws j).size ≤ 1048576) :
    Calls Tryd.prog 28 #[.pointer (some ⟨B, 0, none⟩), .int .i64 (j : Int)] w fun e w' => e = .returned (.int .u32 (Ex.hexv (Ex.wgt ws j))) ∧ ER W0 w' B g ws (fl || !Ex.hexq (Ex.wgt ws j)) := by
  have hc : ∀ X, Calls Tryd.prog 42 #[.string (Ex.wgt ws j)] X fun e w' => e = .returned (.tuple #[.int .u32 (Ex.hexv (Ex.wgt ws j)), .bool (Ex.hexq (Ex.wgt ws j))]) ∧ Below X.heap.size X w' := fun X => impl_hx _ X hz
  cases fl
  · cases hq : Ex.hexq (Ex.wgt ws j)
    · rw [hq] at hc; exact rd_hex_n W0 w B g j ws _ _ h hj rfl hc
    · rw [hq] at hc; exact rd_hex_y W0 w B g j ws _ _ h hj rfl hc
  · exact rd_hex_t W0 w B g j ws _ _ _ h hj rfl hc
theorem rd_op (W0 w : World) (B g j : Nat) (ws : List ByteArray) (fl : Bool) (h : ER W0 w B g ws fl) (hj : j < 7) (hT : TabN w) :
    Calls Tryd.prog 29 #[.pointer (some ⟨B, 0, none⟩), .int .i64 (j : Int)] w fun e w' => e = .returned (.int .i64 (Ex.opf (Ex.wgt ws j))) ∧ ER W0 w' B g ws (fl || !Ex.opq (Ex.wgt ws j)) := by
  have hc := impl_op (Ex.wgt ws j) w hT
  cases fl
  · rcases Ex.opf_rng (Ex.wgt ws j) with hm | ⟨h1, h2, _⟩
    · by_cases hd : Ex.wgt ws j = Ex.dash
      · have e : Ex.opq (Ex.wgt ws j) = true := by unfold Ex.opq; rw [decide_eq_true hd, Bool.or_true]
        rw [e]
        exact rd_op_d W0 w B g j ws _ _ h hj rfl (by omega) hd hc
      · have e : Ex.opq (Ex.wgt ws j) = false := by unfold Ex.opq; rw [decide_eq_false hd, decide_eq_false (by omega)]; rfl
        rw [e]
        exact rd_op_n W0 w B g j ws _ _ h hj rfl (by omega) hd hc
    · have e : Ex.opq (Ex.wgt ws j) = true := by unfold Ex.opq; rw [decide_eq_true h1, Bool.true_or]
      rw [e]
      exact rd_op_y W0 w B g j ws _ _ h hj rfl ⟨h1, h2⟩ hc
  · exact rd_op_t W0 w B g j ws _ _ h hj rfl hc
end Go.Proofs.YthlapikcjiajgaaDoor
