
/-
  What an op costs: the specification's and the program's own functions answer alike. Condition: the program's table of extras lies in memory as the program's text lays it.
-/
import Derived.Test.YtofibnmbgfggkaaGreatDoorBas
import Derived.Test.YtofibnmbgfggkaaGreatDoorWac
import Derived.Deep.RegionHeld3
import Derived.Laws.EntriesVeiled
namespace Go.Proofs.YtofibnmbgfggkaaGreatDoor
open Go.ChangeShapes Go.WideShapes Go.ChangeAt Go.RowKit
set_option linter.unusedVariables false

def ext : List Int := [0, 0, 0, 0, 0, 0, 0, 0, 0, 1, 1, 0, 0, 0, 0, 2, 2, 2, 2, 0, 0, 0, 0, 0, 0, 3, 3, 3, 3, 3, 3, 3, 3]
/-- The table of extras, as the program lays it, lies in block 0. -/
def TabE (w : World) : Prop := ∀ i, i < 33 → w.cell? ⟨0, i, none⟩ = some (.int .i64 (ext.getD i 0))
theorem TabE.below {w w' : World} (h : TabE w) (hb : Below w.heap.size w w') : TabE w' := fun i hi =>
  (hb.cell (p := ⟨0, i, none⟩) (World.block_lt_of_cell? w _ (h i hi))).trans (h i hi)
def opx (m e t x : Int) : Int := if x = 1 then m else if x = 2 then e else if x = 3 then t else 0
theorem clo0 (b m e s k t l : Int) (w : World) : Calls Tryz.prog 170 #[cst b m e s k t l] w fun r w' => r = .returned (.int .i64 0) ∧ Below w.heap.size w w' := by
  go_enter Tryz.func170, Tryz.ntmps170
  go_wp2
  go_ret
  exact ⟨rfl, (Below.refl _ _).alloc (Nat.le_refl _) _⟩
theorem clo1 (b m e s k t l : Int) (w : World) : Calls Tryz.prog 171 #[cst b m e s k t l] w fun r w' => r = .returned (.int .i64 m) ∧ Below w.heap.size w w' := by
  go_enter Tryz.func171, Tryz.ntmps171
  go_wp2
  go_ret
  exact ⟨rfl, (Below.refl _ _).alloc (Nat.le_refl _) _⟩
theorem clo2 (b m e s k t l : Int) (w : World) : Calls Tryz.prog 172 #[cst b m e s k t l] w fun r w' => r = .returned (.int .i64 e) ∧ Below w.heap.size w w' := by
  go_enter Tryz.func172, Tryz.ntmps172
  go_wp2
  go_ret
  exact ⟨rfl, (Below.refl _ _).alloc (Nat.le_refl _) _⟩
theorem clo3 (b m e s k t l : Int) (w : World) : Calls Tryz.prog 173 #[cst b m e s k t l] w fun r w' => r = .returned (.int .i64 t) ∧ Below w.heap.size w w' := by
  go_enter Tryz.func173, Tryz.ntmps173
  go_wp2
  go_ret
  exact ⟨rfl, (Below.refl _ _).alloc (Nat.le_refl _) _⟩
theorem cell_kept {w w' : World} {p : Addr} {v : Value} (hb : Below w.heap.size w w') (h : w.cell? p = some v) : w'.cell? p = some v :=
  (hb.cell (World.block_lt_of_cell? w _ h)).trans h
set_option maxHeartbeats 1000000 in
theorem of_op0 (b m e s k t l : Int) (n : Nat) (w : World) (hn : n < 33) (hx : w.cell? ⟨0, n, none⟩ = some (.int .i64 0)) (hb0 : 0 ≤ b) (hb1 : b ≤ 50) (hv0 : 0 ≤ (0 : Int)) (hv1 : (0 : Int) ≤ 50) :
    Calls Tryz.prog 166 #[cst b m e s k t l, .int .i64 n] w fun r w' => r = .returned (.int .i64 (b + (0 : Int))) ∧ Below w.heap.size w w' := by
  obtain ⟨w0, HW⟩ : ∃ w0, Hid (w0 = (w.alloc (crow 35 b m e s k t l)).alloc (.cells #[.func (.func 170) #[] #[], .func (.func 171) #[] #[], .func (.func 172) #[] #[], .func (.func 173) #[] #[]] 159)) := ⟨_, rfl⟩
  have hb : Below w.heap.size w w0 := by rw [HW.out]; exact ((Below.refl _ _).alloc (Nat.le_refl _) _).alloc (by simp) _
  have hr : ∀ i v, (#[.int .i64 b, .int .i64 m, .int .i64 e, .int .i64 s, .int .i64 k, .int .i64 t, .int .i64 l] : Array Value)[i]? = some v → w0.cell? ⟨w.heap.size, i, none⟩ = some v := fun i v h => by
    rw [HW.out]; exact cell_alloc (new_cell w _ 35 i v h)
  have ha : ∀ i v, (#[.func (.func 170) #[] #[], .func (.func 171) #[] #[], .func (.func 172) #[] #[], .func (.func 173) #[] #[]] : Array Value)[i]? = some v → w0.cell? ⟨w.heap.size + 1, i, none⟩ = some v := fun i v h => by
    rw [HW.out]; have := new_cell (w.alloc (crow 35 b m e s k t l)) _ 159 i v h; simpa using this
  have c0 := hr 0 _ rfl
  have c1 := hr 1 _ rfl
  have c2 := hr 2 _ rfl
  have c3 := hr 3 _ rfl
  have c4 := hr 4 _ rfl
  have c5 := hr 5 _ rfl
  have c6 := hr 6 _ rfl
  have f0 := ha 0 _ rfl
  have f1 := ha 1 _ rfl
  have f2 := ha 2 _ rfl
  have f3 := ha 3 _ rfl
  replace hx := cell_kept hb hx
  clear hr ha
  have hw1 : IntKind.i64.wrap (b + (0 : Int)) = b + (0 : Int) := by rw [IntKind.wrap_i64]; omega
  have hw0 : IntKind.i64.wrap b = b := by rw [IntKind.wrap_i64]; omega
  have hn' : (n : Int) < 33 := by omega
  go_enter Tryz.func166, Tryz.ntmps166
  go_wp2
  rw [← HW.out]
  clear HW
  go_region_held3 (fun w' => w'.cell? ⟨w.heap.size, 0, none⟩ = some (.int .i64 b) ∧ w'.cell? ⟨w.heap.size, 1, none⟩ = some (.int .i64 m) ∧ w'.cell? ⟨w.heap.size, 2, none⟩ = some (.int .i64 e) ∧ w'.cell? ⟨w.heap.size, 3, none⟩ = some (.int .i64 s) ∧ w'.cell? ⟨w.heap.size, 4, none⟩ = some (.int .i64 k) ∧ w'.cell? ⟨w.heap.size, 5, none⟩ = some (.int .i64 t) ∧ w'.cell? ⟨w.heap.size, 6, none⟩ = some (.int .i64 l) ∧ w'.cell? ⟨w.heap.size + 1, 0, none⟩ = some (.func (.func 170) #[] #[]) ∧ w'.cell? ⟨w.heap.size + 1, 1, none⟩ = some (.func (.func 171) #[] #[]) ∧ w'.cell? ⟨w.heap.size + 1, 2, none⟩ = some (.func (.func 172) #[] #[]) ∧ w'.cell? ⟨w.heap.size + 1, 3, none⟩ = some (.func (.func 173) #[] #[]) ∧ w'.cell? ⟨0, n, none⟩ = some (.int .i64 0)) (first | exact ⟨c0, c1, c2, c3, c4, c5, c6, f0, f1, f2, f3, hx⟩) (first | (go_at_call 170; refine Calls.mono (clo0 b m e s k t l _) ?_; rintro x w9 ⟨rfl, hbb⟩; (first | replace hb := hb.trans (hbb.mono hb.size) | replace hb := hb.drew.trans (hbb.mono hb.drew.size)); replace c0 := cell_kept hbb c0; replace c1 := cell_kept hbb c1; replace c2 := cell_kept hbb c2; replace c3 := cell_kept hbb c3; replace c4 := cell_kept hbb c4; replace c5 := cell_kept hbb c5; replace c6 := cell_kept hbb c6; replace f0 := cell_kept hbb f0; replace f1 := cell_kept hbb f1; replace f2 := cell_kept hbb f2; replace f3 := cell_kept hbb f3; replace hx := cell_kept hbb hx; clear hbb))
  go_wp2
  go_ret
  exact ⟨ret_int (Int.add_zero b).symm, hb⟩
set_option maxHeartbeats 1000000 in
theorem of_op1 (b m e s k t l : Int) (n : Nat) (w : World) (hn : n < 33) (hx : w.cell? ⟨0, n, none⟩ = some (.int .i64 1)) (hb0 : 0 ≤ b) (hb1 : b ≤ 50) (hv0 : 0 ≤ m) (hv1 : m ≤ 50) :
    Calls Tryz.prog 166 #[cst b m e s k t l, .int .i64 n] w fun r w' => r = .returned (.int .i64 (b + m)) ∧ Below w.heap.size w w' := by
  obtain ⟨w0, HW⟩ : ∃ w0, Hid (w0 = (w.alloc (crow 35 b m e s k t l)).alloc (.cells #[.func (.func 170) #[] #[], .func (.func 171) #[] #[], .func (.func 172) #[] #[], .func (.func 173) #[] #[]] 159)) := ⟨_, rfl⟩
  have hb : Below w.heap.size w w0 := by rw [HW.out]; exact ((Below.refl _ _).alloc (Nat.le_refl _) _).alloc (by simp) _
  have hr : ∀ i v, (#[.int .i64 b, .int .i64 m, .int .i64 e, .int .i64 s, .int .i64 k, .int .i64 t, .int .i64 l] : Array Value)[i]? = some v → w0.cell? ⟨w.heap.size, i, none⟩ = some v := fun i v h => by
    rw [HW.out]; exact cell_alloc (new_cell w _ 35 i v h)
  have ha : ∀ i v, (#[.func (.func 170) #[] #[], .func (.func 171) #[] #[], .func (.func 172) #[] #[], .func (.func 173) #[] #[]] : Array Value)[i]? = some v → w0.cell? ⟨w.heap.size + 1, i, none⟩ = some v := fun i v h => by
    rw [HW.out]; have := new_cell (w.alloc (crow 35 b m e s k t l)) _ 159 i v h; simpa using this
  have c0 := hr 0 _ rfl
  have c1 := hr 1 _ rfl
  have c2 := hr 2 _ rfl
  have c3 := hr 3 _ rfl
  have c4 := hr 4 _ rfl
  have c5 := hr 5 _ rfl
  have c6 := hr 6 _ rfl
  have f0 := ha 0 _ rfl
  have f1 := ha 1 _ rfl
  have f2 := ha 2 _ rfl
  have f3 := ha 3 _ rfl
  replace hx := cell_kept hb hx
  clear hr ha
  have hw1 : IntKind.i64.wrap (b + m) = b + m := by rw [IntKind.wrap_i64]; omega
  have hn' : (n : Int) < 33 := by omega
  go_enter Tryz.func166, Tryz.ntmps166
  go_wp2
  rw [← HW.out]
  clear HW
  go_region_held3 (fun w' => w'.cell? ⟨w.heap.size, 0, none⟩ = some (.int .i64 b) ∧ w'.cell? ⟨w.heap.size, 1, none⟩ = some (.int .i64 m) ∧ w'.cell? ⟨w.heap.size, 2, none⟩ = some (.int .i64 e) ∧ w'.cell? ⟨w.heap.size, 3, none⟩ = some (.int .i64 s) ∧ w'.cell? ⟨w.heap.size, 4, none⟩ = some (.int .i64 k) ∧ w'.cell? ⟨w.heap.size, 5, none⟩ = some (.int .i64 t) ∧ w'.cell? ⟨w.heap.size, 6, none⟩ = some (.int .i64 l) ∧ w'.cell? ⟨w.heap.size + 1, 0, none⟩ = some (.func (.func 170) #[] #[]) ∧ w'.cell? ⟨w.heap.size + 1, 1, none⟩ = some (.func (.func 171) #[] #[]) ∧ w'.cell? ⟨w.heap.size + 1, 2, none⟩ = some (.func (.func 172) #[] #[]) ∧ w'.cell? ⟨w.heap.size + 1, 3, none⟩ = some (.func (.func 173) #[] #[]) ∧ w'.cell? ⟨0, n, none⟩ = some (.int .i64 1)) (first | exact ⟨c0, c1, c2, c3, c4, c5, c6, f0, f1, f2, f3, hx⟩) (first | (go_at_call 171; refine Calls.mono (clo1 b m e s k t l _) ?_; rintro x w9 ⟨rfl, hbb⟩; (first | replace hb := hb.trans (hbb.mono hb.size) | replace hb := hb.drew.trans (hbb.mono hb.drew.size)); replace c0 := cell_kept hbb c0; replace c1 := cell_kept hbb c1; replace c2 := cell_kept hbb c2; replace c3 := cell_kept hbb c3; replace c4 := cell_kept hbb c4; replace c5 := cell_kept hbb c5; replace c6 := cell_kept hbb c6; replace f0 := cell_kept hbb f0; replace f1 := cell_kept hbb f1; replace f2 := cell_kept hbb f2; replace f3 := cell_kept hbb f3; replace hx := cell_kept hbb hx; clear hbb))
  go_wp2
  go_ret
  exact ⟨rfl, hb⟩
set_option maxHeartbeats 1000000 in
theorem of_op2 (b m e s k t l : Int) (n : Nat) (w : World) (hn : n < 33) (hx : w.cell? ⟨0, n, none⟩ = some (.int .i64 2)) (hb0 : 0 ≤ b) (hb1 : b ≤ 50) (hv0 : 0 ≤ e) (hv1 : e ≤ 50) :
    Calls Tryz.prog 166 #[cst b m e s k t l, .int .i64 n] w fun r w' => r = .returned (.int .i64 (b + e)) ∧ Below w.heap.size w w' := by
  obtain ⟨w0, HW⟩ : ∃ w0, Hid (w0 = (w.alloc (crow 35 b m e s k t l)).alloc (.cells #[.func (.func 170) #[] #[], .func (.func 171) #[] #[], .func (.func 172) #[] #[], .func (.func 173) #[] #[]] 159)) := ⟨_, rfl⟩
  have hb : Below w.heap.size w w0 := by rw [HW.out]; exact ((Below.refl _ _).alloc (Nat.le_refl _) _).alloc (by simp) _
  have hr : ∀ i v, (#[.int .i64 b, .int .i64 m, .int .i64 e, .int .i64 s, .int .i64 k, .int .i64 t, .int .i64 l] : Array Value)[i]? = some v → w0.cell? ⟨w.heap.size, i, none⟩ = some v := fun i v h => by
    rw [HW.out]; exact cell_alloc (new_cell w _ 35 i v h)
  have ha : ∀ i v, (#[.func (.func 170) #[] #[], .func (.func 171) #[] #[], .func (.func 172) #[] #[], .func (.func 173) #[] #[]] : Array Value)[i]? = some v → w0.cell? ⟨w.heap.size + 1, i, none⟩ = some v := fun i v h => by
    rw [HW.out]; have := new_cell (w.alloc (crow 35 b m e s k t l)) _ 159 i v h; simpa using this
  have c0 := hr 0 _ rfl
  have c1 := hr 1 _ rfl
  have c2 := hr 2 _ rfl
  have c3 := hr 3 _ rfl
  have c4 := hr 4 _ rfl
  have c5 := hr 5 _ rfl
  have c6 := hr 6 _ rfl
  have f0 := ha 0 _ rfl
  have f1 := ha 1 _ rfl
  have f2 := ha 2 _ rfl
  have f3 := ha 3 _ rfl
  replace hx := cell_kept hb hx
  clear hr ha
  have hw1 : IntKind.i64.wrap (b + e) = b + e := by rw [IntKind.wrap_i64]; omega
  have hn' : (n : Int) < 33 := by omega
  go_enter Tryz.func166, Tryz.ntmps166
  go_wp2
  rw [← HW.out]
  clear HW
  go_region_held3 (fun w' => w'.cell? ⟨w.heap.size, 0, none⟩ = some (.int .i64 b) ∧ w'.cell? ⟨w.heap.size, 1, none⟩ = some (.int .i64 m) ∧ w'.cell? ⟨w.heap.size, 2, none⟩ = some (.int .i64 e) ∧ w'.cell? ⟨w.heap.size, 3, none⟩ = some (.int .i64 s) ∧ w'.cell? ⟨w.heap.size, 4, none⟩ = some (.int .i64 k) ∧ w'.cell? ⟨w.heap.size, 5, none⟩ = some (.int .i64 t) ∧ w'.cell? ⟨w.heap.size, 6, none⟩ = some (.int .i64 l) ∧ w'.cell? ⟨w.heap.size + 1, 0, none⟩ = some (.func (.func 170) #[] #[]) ∧ w'.cell? ⟨w.heap.size + 1, 1, none⟩ = some (.func (.func 171) #[] #[]) ∧ w'.cell? ⟨w.heap.size + 1, 2, none⟩ = some (.func (.func 172) #[] #[]) ∧ w'.cell? ⟨w.heap.size + 1, 3, none⟩ = some (.func (.func 173) #[] #[]) ∧ w'.cell? ⟨0, n, none⟩ = some (.int .i64 2)) (first | exact ⟨c0, c1, c2, c3, c4, c5, c6, f0, f1, f2, f3, hx⟩) (first | (go_at_call 172; refine Calls.mono (clo2 b m e s k t l _) ?_; rintro x w9 ⟨rfl, hbb⟩; (first | replace hb := hb.trans (hbb.mono hb.size) | replace hb := hb.drew.trans (hbb.mono hb.drew.size)); replace c0 := cell_kept hbb c0; replace c1 := cell_kept hbb c1; replace c2 := cell_kept hbb c2; replace c3 := cell_kept hbb c3; replace c4 := cell_kept hbb c4; replace c5 := cell_kept hbb c5; replace c6 := cell_kept hbb c6; replace f0 := cell_kept hbb f0; replace f1 := cell_kept hbb f1; replace f2 := cell_kept hbb f2; replace f3 := cell_kept hbb f3; replace hx := cell_kept hbb hx; clear hbb))
  go_wp2
  go_ret
  exact ⟨rfl, hb⟩
set_option maxHeartbeats 1000000 in
theorem of_op3 (b m e s k t l : Int) (n : Nat) (w : World) (hn : n < 33) (hx : w.cell? ⟨0, n, none⟩ = some (.int .i64 3)) (hb0 : 0 ≤ b) (hb1 : b ≤ 50) (hv0 : 0 ≤ t) (hv1 : t ≤ 50) :
    Calls Tryz.prog 166 #[cst b m e s k t l, .int .i64 n] w fun r w' => r = .returned (.int .i64 (b + t)) ∧ Below w.heap.size w w' := by
  obtain ⟨w0, HW⟩ : ∃ w0, Hid (w0 = (w.alloc (crow 35 b m e s k t l)).alloc (.cells #[.func (.func 170) #[] #[], .func (.func 171) #[] #[], .func (.func 172) #[] #[], .func (.func 173) #[] #[]] 159)) := ⟨_, rfl⟩
  have hb : Below w.heap.size w w0 := by rw [HW.out]; exact ((Below.refl _ _).alloc (Nat.le_refl _) _).alloc (by simp) _
  have hr : ∀ i v, (#[.int .i64 b, .int .i64 m, .int .i64 e, .int .i64 s, .int .i64 k, .int .i64 t, .int .i64 l] : Array Value)[i]? = some v → w0.cell? ⟨w.heap.size, i, none⟩ = some v := fun i v h => by
    rw [HW.out]; exact cell_alloc (new_cell w _ 35 i v h)
  have ha : ∀ i v, (#[.func (.func 170) #[] #[], .func (.func 171) #[] #[], .func (.func 172) #[] #[], .func (.func 173) #[] #[]] : Array Value)[i]? = some v → w0.cell? ⟨w.heap.size + 1, i, none⟩ = some v := fun i v h => by
    rw [HW.out]; have := new_cell (w.alloc (crow 35 b m e s k t l)) _ 159 i v h; simpa using this
  have c0 := hr 0 _ rfl
  have c1 := hr 1 _ rfl
  have c2 := hr 2 _ rfl
  have c3 := hr 3 _ rfl
  have c4 := hr 4 _ rfl
  have c5 := hr 5 _ rfl
  have c6 := hr 6 _ rfl
  have f0 := ha 0 _ rfl
  have f1 := ha 1 _ rfl
  have f2 := ha 2 _ rfl
  have f3 := ha 3 _ rfl
  replace hx := cell_kept hb hx
  clear hr ha
  have hw1 : IntKind.i64.wrap (b + t) = b + t := by rw [IntKind.wrap_i64]; omega
  have hn' : (n : Int) < 33 := by omega
  go_enter Tryz.func166, Tryz.ntmps166
  go_wp2
  rw [← HW.out]
  clear HW
  go_region_held3 (fun w' => w'.cell? ⟨w.heap.size, 0, none⟩ = some (.int .i64 b) ∧ w'.cell? ⟨w.heap.size, 1, none⟩ = some (.int .i64 m) ∧ w'.cell? ⟨w.heap.size, 2, none⟩ = some (.int .i64 e) ∧ w'.cell? ⟨w.heap.size, 3, none⟩ = some (.int .i64 s) ∧ w'.cell? ⟨w.heap.size, 4, none⟩ = some (.int .i64 k) ∧ w'.cell? ⟨w.heap.size, 5, none⟩ = some (.int .i64 t) ∧ w'.cell? ⟨w.heap.size, 6, none⟩ = some (.int .i64 l) ∧ w'.cell? ⟨w.heap.size + 1, 0, none⟩ = some (.func (.func 170) #[] #[]) ∧ w'.cell? ⟨w.heap.size + 1, 1, none⟩ = some (.func (.func 171) #[] #[]) ∧ w'.cell? ⟨w.heap.size + 1, 2, none⟩ = some (.func (.func 172) #[] #[]) ∧ w'.cell? ⟨w.heap.size + 1, 3, none⟩ = some (.func (.func 173) #[] #[]) ∧ w'.cell? ⟨0, n, none⟩ = some (.int .i64 3)) (first | exact ⟨c0, c1, c2, c3, c4, c5, c6, f0, f1, f2, f3, hx⟩) (first | (go_at_call 173; refine Calls.mono (clo3 b m e s k t l _) ?_; rintro x w9 ⟨rfl, hbb⟩; (first | replace hb := hb.trans (hbb.mono hb.size) | replace hb := hb.drew.trans (hbb.mono hb.drew.size)); replace c0 := cell_kept hbb c0; replace c1 := cell_kept hbb c1; replace c2 := cell_kept hbb c2; replace c3 := cell_kept hbb c3; replace c4 := cell_kept hbb c4; replace c5 := cell_kept hbb c5; replace c6 := cell_kept hbb c6; replace f0 := cell_kept hbb f0; replace f1 := cell_kept hbb f1; replace f2 := cell_kept hbb f2; replace f3 := cell_kept hbb f3; replace hx := cell_kept hbb hx; clear hbb))
  go_wp2
  go_ret
  exact ⟨rfl, hb⟩

def opC (b m e t : Int) (n : Nat) : Int := b + opx m e t (ext.getD n 0)
theorem ext_is : ∀ n, n < 33 → (ext.getD n 0 = 0 ∨ ext.getD n 0 = 1 ∨ ext.getD n 0 = 2 ∨ ext.getD n 0 = 3) := by decide
theorem of_op (b m e s k t l : Int) (n : Nat) (w : World) (hn : n < 33) (ht : TabE w) (hok : costsOk b m e s k t l = true) :
    Calls Tryz.prog 166 #[cst b m e s k t l, .int .i64 n] w fun r w' => r = .returned (.int .i64 (opC b m e t n)) ∧ Below w.heap.size w w' := by
  obtain ⟨h1, h2, h3, h4, h5, h6, h7⟩ := costsOk_parts hok
  have hx := ht n hn
  unfold opC
  rcases ext_is n hn with h | h | h | h <;> rw [h] at hx ⊢
  · exact of_op0 b m e s k t l n w hn hx (by omega) (by omega) (by omega) (by omega)
  · exact of_op1 b m e s k t l n w hn hx (by omega) (by omega) (by omega) (by omega)
  · exact of_op2 b m e s k t l n w hn hx (by omega) (by omega) (by omega) (by omega)
  · exact of_op3 b m e s k t l n w hn hx (by omega) (by omega) (by omega) (by omega)
def opCost (b m e s k t l op : Int) : Int := if costsOk b m e s k t l = true then (if 0 ≤ op ∧ op < 33 then opC b m e t op.toNat else -1) else -1
/-! ### The specification's -/
def forms : List Int := [0, 7, 7, 7, 7, 7, 7, 7, 7, 7, 7, 7, 7, 11, 9, 11, 11, 11, 11, 11, 11, 11, 9, 10, 1, 11, 11, 11, 9, 9, 0, 0, 8]
theorem cells_new (w : World) (cs : List Int) (T : TypeId) (i : Nat) (hi : i < cs.length) :
    (w.alloc (.cells (cs.map (Value.int .i64)).toArray T)).cell? ⟨w.heap.size, i, none⟩ = some (.int .i64 (cs.getD i 0)) := by
  simp [hi]
theorem spec_forms (w : World) : Calls Tryz.prog 149 #[] w fun e w' => e = .returned (.slice (some ⟨w.heap.size, 0, none⟩) 33 33) ∧ Below w.heap.size w w' ∧ ∀ i, i < 33 → w'.cell? ⟨w.heap.size, i, none⟩ = some (.int .i64 (forms.getD i 0)) := by
  go_enter Tryz.func149, Tryz.ntmps149
  go_wp2
  go_ret
  exact ⟨rfl, (Below.refl _ _).alloc (Nat.le_refl _) _, fun i hi => cells_new w forms 3 i hi⟩
theorem forms_pos : ∀ n, n < 33 → 0 ≤ forms.getD n 0 := by decide
theorem spec_form (n : Nat) (w : World) (hn : n < 33) :
    Calls Tryz.prog 86 #[.int .i64 n] w fun e w' => ∃ f : Int, e = .returned (.int .i64 f) ∧ Hid (0 ≤ f) ∧ Below w.heap.size w w' := by
  obtain ⟨f, HF⟩ : ∃ f, Hid (forms.getD n 0 = f) := ⟨_, rfl⟩
  have HP : Hid (0 ≤ f) := by rw [← HF.out]; exact forms_pos n hn
  have hq : inr (n : Int) 0 32 = true := inr_yes ⟨by omega, by omega⟩
  go_enter Tryz.func86, Tryz.ntmps86
  go_wp2_with fail
  refine (in_any _ _ _ _).mono ?_
  rintro e w1 ⟨rfl, rfl⟩
  rw [hq]
  go_wp2_with fail
  refine (spec_forms _).mono ?_
  rintro e w2 ⟨rfl, hb, hc⟩
  have hk' := hc n hn
  rw [HF.out] at hk'
  have HB : Hid _ := hb
  clear hc hb
  go_wp2
  go_ret
  exact ⟨f, rfl, HP, HB.out⟩
theorem spec_form_no (x : Int) (w : World) (h : inr x 0 32 = false) :
    Calls Tryz.prog 86 #[.int .i64 x] w fun e w' => e = .returned (.int .i64 (-1)) ∧ w' = w := by
  have H : Hid _ := h
  clear h
  go_enter Tryz.func86, Tryz.ntmps86
  go_wp2_with fail
  refine (in_any _ _ _ _).mono ?_
  rintro e w1 ⟨rfl, rfl⟩
  rw [H.out]
  go_wp2
  go_ret
  exact ⟨rfl, rfl⟩
def kind (n : Nat) : Nat := if n = 9 ∨ n = 10 then 1 else if 15 ≤ n ∧ n ≤ 18 then 2 else if 25 ≤ n then 3 else 0
theorem kind_ext : ∀ n, n < 33 → ext.getD n 0 = (kind n : Int) := by decide
set_option maxHeartbeats 1000000 in
theorem spec_op_9 (b m e s k t l : Int) (n : Nat) (w : World) (hn : n < 33) (hok : costsOk b m e s k t l = true) (h9 : n = 9) (hb0 : 0 ≤ b) (hb1 : b ≤ 50) (hv0 : 0 ≤ m) (hv1 : m ≤ 50) :
    Calls Tryz.prog 68 #[cst b m e s k t l, .int .i64 n] w fun r w' => r = .returned (.int .i64 (b + m)) ∧ Below w.heap.size w w' := by
  have Q : Hid _ := hok
  have hw1 : IntKind.i64.wrap (b + m) = b + m := by rw [IntKind.wrap_i64]; omega
  have HB : Hid (Below w.heap.size w ((w.alloc (crow 35 b m e s k t l)).alloc (crow 35 b m e s k t l))) := ((Below.refl _ _).alloc (Nat.le_refl _) _).alloc (by simp) _
  have hr : ∀ i v, (#[.int .i64 b, .int .i64 m, .int .i64 e, .int .i64 s, .int .i64 k, .int .i64 t, .int .i64 l] : Array Value)[i]? = some v → ((w.alloc (crow 35 b m e s k t l)).alloc (crow 35 b m e s k t l)).cell? ⟨w.heap.size, i, none⟩ = some v := fun i v h =>
    cell_alloc (new_cell w _ 35 i v h)
  clear hok
  have e9 : ((n : Int) == 9) = true := by rw [h9]; rfl
  clear h9
  go_enter Tryz.func68, Tryz.ntmps68
  go_wp2_with fail
  refine (spec_cok b m e s k t l _).mono ?_
  rintro x w1 ⟨rfl, rfl⟩
  rw [Q.out]
  go_wp2_with fail
  refine (spec_form n _ hn).mono ?_
  rintro x w1 ⟨f, rfl, HF, hb1'⟩
  have hf := HF.out
  have c0 := (cell_kept hb1' (hr 0 _ rfl))
  have c1 := (cell_kept hb1' (hr 1 _ rfl))
  have c2 := (cell_kept hb1' (hr 2 _ rfl))
  have c5 := (cell_kept hb1' (hr 5 _ rfl))
  have HB1 : Hid _ := HB.out.trans (hb1'.mono HB.out.size)
  clear hr hb1'
  go_wp2
  go_ret
  exact ⟨rfl, HB1.out⟩
set_option maxHeartbeats 1000000 in
theorem spec_op_10 (b m e s k t l : Int) (n : Nat) (w : World) (hn : n < 33) (hok : costsOk b m e s k t l = true) (h9 : n = 10) (hb0 : 0 ≤ b) (hb1 : b ≤ 50) (hv0 : 0 ≤ m) (hv1 : m ≤ 50) :
    Calls Tryz.prog 68 #[cst b m e s k t l, .int .i64 n] w fun r w' => r = .returned (.int .i64 (b + m)) ∧ Below w.heap.size w w' := by
  have Q : Hid _ := hok
  have hw1 : IntKind.i64.wrap (b + m) = b + m := by rw [IntKind.wrap_i64]; omega
  have HB : Hid (Below w.heap.size w ((w.alloc (crow 35 b m e s k t l)).alloc (crow 35 b m e s k t l))) := ((Below.refl _ _).alloc (Nat.le_refl _) _).alloc (by simp) _
  have hr : ∀ i v, (#[.int .i64 b, .int .i64 m, .int .i64 e, .int .i64 s, .int .i64 k, .int .i64 t, .int .i64 l] : Array Value)[i]? = some v → ((w.alloc (crow 35 b m e s k t l)).alloc (crow 35 b m e s k t l)).cell? ⟨w.heap.size, i, none⟩ = some v := fun i v h =>
    cell_alloc (new_cell w _ 35 i v h)
  clear hok
  have e9 : ((n : Int) == 9) = false := by rw [h9]; rfl
  have e10 : ((n : Int) == 10) = true := by rw [h9]; rfl
  clear h9
  go_enter Tryz.func68, Tryz.ntmps68
  go_wp2_with fail
  refine (spec_cok b m e s k t l _).mono ?_
  rintro x w1 ⟨rfl, rfl⟩
  rw [Q.out]
  go_wp2_with fail
  refine (spec_form n _ hn).mono ?_
  rintro x w1 ⟨f, rfl, HF, hb1'⟩
  have hf := HF.out
  have c0 := (cell_kept hb1' (hr 0 _ rfl))
  have c1 := (cell_kept hb1' (hr 1 _ rfl))
  have c2 := (cell_kept hb1' (hr 2 _ rfl))
  have c5 := (cell_kept hb1' (hr 5 _ rfl))
  have HB1 : Hid _ := HB.out.trans (hb1'.mono HB.out.size)
  clear hr hb1'
  go_wp2
  go_ret
  exact ⟨rfl, HB1.out⟩
set_option maxHeartbeats 1000000 in
theorem spec_op_mem (b m e s k t l : Int) (n : Nat) (w : World) (hn : n < 33) (hok : costsOk b m e s k t l = true) (h9 : 15 ≤ n ∧ n ≤ 18) (hb0 : 0 ≤ b) (hb1 : b ≤ 50) (hv0 : 0 ≤ e) (hv1 : e ≤ 50) :
    Calls Tryz.prog 68 #[cst b m e s k t l, .int .i64 n] w fun r w' => r = .returned (.int .i64 (b + e)) ∧ Below w.heap.size w w' := by
  have Q : Hid _ := hok
  have hw1 : IntKind.i64.wrap (b + e) = b + e := by rw [IntKind.wrap_i64]; omega
  have HB : Hid (Below w.heap.size w ((w.alloc (crow 35 b m e s k t l)).alloc (crow 35 b m e s k t l))) := ((Below.refl _ _).alloc (Nat.le_refl _) _).alloc (by simp) _
  have hr : ∀ i v, (#[.int .i64 b, .int .i64 m, .int .i64 e, .int .i64 s, .int .i64 k, .int .i64 t, .int .i64 l] : Array Value)[i]? = some v → ((w.alloc (crow 35 b m e s k t l)).alloc (crow 35 b m e s k t l)).cell? ⟨w.heap.size, i, none⟩ = some v := fun i v h =>
    cell_alloc (new_cell w _ 35 i v h)
  clear hok
  have e9 : ((n : Int) == 9) = false := by simpa using (show (n : Int) ≠ 9 by omega)
  have e10 : ((n : Int) == 10) = false := by simpa using (show (n : Int) ≠ 10 by omega)
  have hq : inr (n : Int) 15 18 = true := inr_yes ⟨by omega, by omega⟩
  go_enter Tryz.func68, Tryz.ntmps68
  go_wp2_with fail
  refine (spec_cok b m e s k t l _).mono ?_
  rintro x w1 ⟨rfl, rfl⟩
  rw [Q.out]
  go_wp2_with fail
  refine (spec_form n _ hn).mono ?_
  rintro x w1 ⟨f, rfl, HF, hb1'⟩
  have hf := HF.out
  have c0 := (cell_kept hb1' (hr 0 _ rfl))
  have c1 := (cell_kept hb1' (hr 1 _ rfl))
  have c2 := (cell_kept hb1' (hr 2 _ rfl))
  have c5 := (cell_kept hb1' (hr 5 _ rfl))
  have HB1 : Hid _ := HB.out.trans (hb1'.mono HB.out.size)
  clear hr hb1'
  go_wp2_with fail
  refine (in_any n 15 18 _).mono ?_
  rintro x w2 ⟨rfl, rfl⟩
  rw [hq]
  go_wp2
  go_ret
  exact ⟨rfl, HB1.out⟩
set_option maxHeartbeats 1000000 in
theorem spec_op_trap (b m e s k t l : Int) (n : Nat) (w : World) (hn : n < 33) (hok : costsOk b m e s k t l = true) (h9 : 25 ≤ n) (hb0 : 0 ≤ b) (hb1 : b ≤ 50) (hv0 : 0 ≤ t) (hv1 : t ≤ 50) :
    Calls Tryz.prog 68 #[cst b m e s k t l, .int .i64 n] w fun r w' => r = .returned (.int .i64 (b + t)) ∧ Below w.heap.size w w' := by
  have Q : Hid _ := hok
  have hw1 : IntKind.i64.wrap (b + t) = b + t := by rw [IntKind.wrap_i64]; omega
  have HB : Hid (Below w.heap.size w ((w.alloc (crow 35 b m e s k t l)).alloc (crow 35 b m e s k t l))) := ((Below.refl _ _).alloc (Nat.le_refl _) _).alloc (by simp) _
  have hr : ∀ i v, (#[.int .i64 b, .int .i64 m, .int .i64 e, .int .i64 s, .int .i64 k, .int .i64 t, .int .i64 l] : Array Value)[i]? = some v → ((w.alloc (crow 35 b m e s k t l)).alloc (crow 35 b m e s k t l)).cell? ⟨w.heap.size, i, none⟩ = some v := fun i v h =>
    cell_alloc (new_cell w _ 35 i v h)
  clear hok
  have e9 : ((n : Int) == 9) = false := by simpa using (show (n : Int) ≠ 9 by omega)
  have e10 : ((n : Int) == 10) = false := by simpa using (show (n : Int) ≠ 10 by omega)
  have hq : inr (n : Int) 15 18 = false := inr_no (by omega)
  go_enter Tryz.func68, Tryz.ntmps68
  go_wp2_with fail
  refine (spec_cok b m e s k t l _).mono ?_
  rintro x w1 ⟨rfl, rfl⟩
  rw [Q.out]
  go_wp2_with fail
  refine (spec_form n _ hn).mono ?_
  rintro x w1 ⟨f, rfl, HF, hb1'⟩
  have hf := HF.out
  have c0 := (cell_kept hb1' (hr 0 _ rfl))
  have c1 := (cell_kept hb1' (hr 1 _ rfl))
  have c2 := (cell_kept hb1' (hr 2 _ rfl))
  have c5 := (cell_kept hb1' (hr 5 _ rfl))
  have HB1 : Hid _ := HB.out.trans (hb1'.mono HB.out.size)
  clear hr hb1'
  go_wp2_with fail
  refine (in_any n 15 18 _).mono ?_
  rintro x w2 ⟨rfl, rfl⟩
  rw [hq]
  go_wp2
  go_ret
  exact ⟨rfl, HB1.out⟩
set_option maxHeartbeats 1000000 in
theorem spec_op_none (b m e s k t l : Int) (n : Nat) (w : World) (hn : n < 33) (hok : costsOk b m e s k t l = true) (h9 : ¬ (n = 9 ∨ n = 10) ∧ ¬ (15 ≤ n ∧ n ≤ 18) ∧ ¬ 25 ≤ n) (hb0 : 0 ≤ b) (hb1 : b ≤ 50) (hv0 : 0 ≤ (0 : Int)) (hv1 : (0 : Int) ≤ 50) :
    Calls Tryz.prog 68 #[cst b m e s k t l, .int .i64 n] w fun r w' => r = .returned (.int .i64 (b)) ∧ Below w.heap.size w w' := by
  have Q : Hid _ := hok
  have hw1 : IntKind.i64.wrap (b + (0 : Int)) = b + (0 : Int) := by rw [IntKind.wrap_i64]; omega
  have HB : Hid (Below w.heap.size w ((w.alloc (crow 35 b m e s k t l)).alloc (crow 35 b m e s k t l))) := ((Below.refl _ _).alloc (Nat.le_refl _) _).alloc (by simp) _
  have hr : ∀ i v, (#[.int .i64 b, .int .i64 m, .int .i64 e, .int .i64 s, .int .i64 k, .int .i64 t, .int .i64 l] : Array Value)[i]? = some v → ((w.alloc (crow 35 b m e s k t l)).alloc (crow 35 b m e s k t l)).cell? ⟨w.heap.size, i, none⟩ = some v := fun i v h =>
    cell_alloc (new_cell w _ 35 i v h)
  clear hok
  have e9 : ((n : Int) == 9) = false := by simpa using (show (n : Int) ≠ 9 by omega)
  have e10 : ((n : Int) == 10) = false := by simpa using (show (n : Int) ≠ 10 by omega)
  have hq : inr (n : Int) 15 18 = false := inr_no (by omega)
  have e25 : ¬ (25 : Int) ≤ (n : Int) := by omega
  clear h9
  go_enter Tryz.func68, Tryz.ntmps68
  go_wp2_with fail
  refine (spec_cok b m e s k t l _).mono ?_
  rintro x w1 ⟨rfl, rfl⟩
  rw [Q.out]
  go_wp2_with fail
  refine (spec_form n _ hn).mono ?_
  rintro x w1 ⟨f, rfl, HF, hb1'⟩
  have hf := HF.out
  have c0 := (cell_kept hb1' (hr 0 _ rfl))
  have c1 := (cell_kept hb1' (hr 1 _ rfl))
  have c2 := (cell_kept hb1' (hr 2 _ rfl))
  have c5 := (cell_kept hb1' (hr 5 _ rfl))
  have HB1 : Hid _ := HB.out.trans (hb1'.mono HB.out.size)
  clear hr hb1'
  go_wp2_with fail
  refine (in_any n 15 18 _).mono ?_
  rintro x w2 ⟨rfl, rfl⟩
  rw [hq]
  go_wp2
  go_ret
  exact ⟨rfl, HB1.out⟩
set_option maxHeartbeats 1000000 in
theorem spec_op (b m e s k t l op : Int) (w : World) :
    Calls Tryz.prog 68 #[cst b m e s k t l, .int .i64 op] w fun r w' => r = .returned (.int .i64 (opCost b m e s k t l op)) ∧ Below w.heap.size w w' := by
  unfold opCost
  cases hok : costsOk b m e s k t l with
  | false =>
    have Q : Hid _ := hok
    clear hok
    have HB : Hid (Below w.heap.size w ((w.alloc (crow 35 b m e s k t l)).alloc (crow 35 b m e s k t l))) := ((Below.refl _ _).alloc (Nat.le_refl _) _).alloc (by simp) _
    rw [if_neg (by simp)]
    go_enter Tryz.func68, Tryz.ntmps68
    go_wp2_with fail
    refine (spec_cok b m e s k t l _).mono ?_
    rintro x w1 ⟨rfl, rfl⟩
    rw [Q.out]
    go_wp2
    go_ret
    exact ⟨rfl, HB.out⟩
  | true =>
    rw [if_pos rfl]
    by_cases h : 0 ≤ op ∧ op < 33
    · rw [if_pos h]
      obtain ⟨n, rfl⟩ := Int.eq_ofNat_of_zero_le h.1
      have hn : n < 33 := by omega
      rw [Int.toNat_natCast]
      unfold opC
      rw [kind_ext n hn]
      obtain ⟨h1, h2, h3, h4, h5, h6, h7⟩ := costsOk_parts hok
      unfold kind
      by_cases g1 : n = 9 ∨ n = 10
      · rw [if_pos g1]
        rcases g1 with g | g
        · exact spec_op_9 b m e s k t l n w hn hok g (by omega) (by omega) (by omega) (by omega)
        · exact spec_op_10 b m e s k t l n w hn hok g (by omega) (by omega) (by omega) (by omega)
      · rw [if_neg g1]
        by_cases g2 : 15 ≤ n ∧ n ≤ 18
        · rw [if_pos g2]
          exact spec_op_mem b m e s k t l n w hn hok g2 (by omega) (by omega) (by omega) (by omega)
        · rw [if_neg g2]
          by_cases g3 : 25 ≤ n
          · rw [if_pos g3]
            exact spec_op_trap b m e s k t l n w hn hok g3 (by omega) (by omega) (by omega) (by omega)
          · rw [if_neg g3]
            have := spec_op_none b m e s k t l n w hn hok ⟨g1, g2, g3⟩ (by omega) (by omega) (by omega) (by omega)
            simpa [opx] using this
    · rw [if_neg h]
      have Q : Hid _ := hok
      have HQ : Hid (inr op 0 32 = false) := inr_no (by omega)
      have HB : Hid (Below w.heap.size w ((w.alloc (crow 35 b m e s k t l)).alloc (crow 35 b m e s k t l))) := ((Below.refl _ _).alloc (Nat.le_refl _) _).alloc (by simp) _
      clear hok h
      go_enter Tryz.func68, Tryz.ntmps68
      go_wp2_with fail
      refine (spec_cok b m e s k t l _).mono ?_
      rintro x w1 ⟨rfl, rfl⟩
      rw [Q.out]
      go_wp2_with fail
      refine (spec_form_no op _ HQ.out).mono ?_
      rintro x w1 ⟨rfl, rfl⟩
      go_wp2
      go_ret
      exact ⟨rfl, HB.out⟩
end Go.Proofs.YtofibnmbgfggkaaGreatDoor
