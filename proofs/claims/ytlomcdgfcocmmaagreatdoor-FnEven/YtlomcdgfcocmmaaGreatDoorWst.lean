/-
  What an op costs: the specification's and the program's own functions answer alike. Condition: the program's table of extras lies in memory as the program's text lays it.
  The worst step: the specification's and the program's own functions answer alike. Condition: the program's table of extras lies in memory as the program's text lays it.
-/
import Derived.Test.YtlomcdgfcocmmaaGreatDoorBas
import Derived.Test.YtlomcdgfcocmmaaGreatDoorCost
import Derived.Deep.RegionHeld3
import Derived.Laws.EntriesVeiled
import Derived.Deep.DeepMust
namespace Go.Proofs.YtlomcdgfcocmmaaGreatDoor
open Go.ChangeShapes Go.WideShapes Go.ChangeAt Go.RowKit
set_option linter.unusedVariables false

def ext : List Int := [0, 0, 0, 0, 0, 0, 0, 0, 0, 1, 1, 0, 0, 0, 0, 2, 2, 2, 2, 0, 0, 0, 0, 0, 0, 3, 3, 3, 3, 3, 3, 3, 3]
/-- The table of extras, as the program lays it, lies in block 0. -/
def TabE (w : World) : Prop := ∀ i, i < 33 → w.cell? ⟨0, i, none⟩ = some (.int .i64 (ext.getD i 0))
theorem TabE.below {w w' : World} (h : TabE w) (hb : Below w.heap.size w w') : TabE w' := fun i hi =>
  (hb.cell (p := ⟨0, i, none⟩) (World.block_lt_of_cell? w _ (h i hi))).trans (h i hi)
def opx (m e t x : Int) : Int := if x = 1 then m else if x = 2 then e else if x = 3 then t else 0
theorem clo0 (b m e s k t l : Int) (w : World) : Calls Tryz.prog 198 #[cst b m e s k t l] w fun r w' => r = .returned (.int .i64 0) ∧ Below w.heap.size w w' := by
  go_enter Tryz.func198, Tryz.ntmps198
  go_wp2
  go_ret
  exact ⟨rfl, (Below.refl _ _).alloc (Nat.le_refl _) _⟩
theorem clo1 (b m e s k t l : Int) (w : World) : Calls Tryz.prog 199 #[cst b m e s k t l] w fun r w' => r = .returned (.int .i64 m) ∧ Below w.heap.size w w' := by
  go_enter Tryz.func199, Tryz.ntmps199
  go_wp2
  go_ret
  exact ⟨rfl, (Below.refl _ _).alloc (Nat.le_refl _) _⟩
theorem clo2 (b m e s k t l : Int) (w : World) : Calls Tryz.prog 200 #[cst b m e s k t l] w fun r w' => r = .returned (.int .i64 e) ∧ Below w.heap.size w w' := by
  go_enter Tryz.func200, Tryz.ntmps200
  go_wp2
  go_ret
  exact ⟨rfl, (Below.refl _ _).alloc (Nat.le_refl _) _⟩
theorem clo3 (b m e s k t l : Int) (w : World) : Calls Tryz.prog 201 #[cst b m e s k t l] w fun r w' => r = .returned (.int .i64 t) ∧ Below w.heap.size w w' := by
  go_enter Tryz.func201, Tryz.ntmps201
  go_wp2
  go_ret
  exact ⟨rfl, (Below.refl _ _).alloc (Nat.le_refl _) _⟩
theorem cell_kept {w w' : World} {p : Addr} {v : Value} (hb : Below w.heap.size w w') (h : w.cell? p = some v) : w'.cell? p = some v :=
  (hb.cell (World.block_lt_of_cell? w _ h)).trans h
set_option maxHeartbeats 1000000 in
theorem of_op0 (b m e s k t l : Int) (n : Nat) (w : World) (hn : n < 33) (hx : w.cell? ⟨0, n, none⟩ = some (.int .i64 0)) (hb0 : 0 ≤ b) (hb1 : b ≤ 50) (hv0 : 0 ≤ (0 : Int)) (hv1 : (0 : Int) ≤ 50) :
    Calls Tryz.prog 195 #[cst b m e s k t l, .int .i64 n] w fun r w' => r = .returned (.int .i64 (b + (0 : Int))) ∧ Below w.heap.size w w' := by
  obtain ⟨w0, HW⟩ : ∃ w0, Hid (w0 = (w.alloc (crow 27 b m e s k t l)).alloc (.cells #[.func (.func 198) #[] #[], .func (.func 199) #[] #[], .func (.func 200) #[] #[], .func (.func 201) #[] #[]] 168)) := ⟨_, rfl⟩
  have hb : Below w.heap.size w w0 := by rw [HW.out]; exact ((Below.refl _ _).alloc (Nat.le_refl _) _).alloc (by simp) _
  have hr : ∀ i v, (#[.int .i64 b, .int .i64 m, .int .i64 e, .int .i64 s, .int .i64 k, .int .i64 t, .int .i64 l] : Array Value)[i]? = some v → w0.cell? ⟨w.heap.size, i, none⟩ = some v := fun i v h => by
    rw [HW.out]; exact cell_alloc (new_cell w _ 27 i v h)
  have ha : ∀ i v, (#[.func (.func 198) #[] #[], .func (.func 199) #[] #[], .func (.func 200) #[] #[], .func (.func 201) #[] #[]] : Array Value)[i]? = some v → w0.cell? ⟨w.heap.size + 1, i, none⟩ = some v := fun i v h => by
    rw [HW.out]; have := new_cell (w.alloc (crow 27 b m e s k t l)) _ 168 i v h; simpa using this
  have c0 := hr 0 _ rfl
  have c1 := hr 1 _ rfl
  have c2 := hr 2 _ rfl
  have c3 := hr 3 _ rfl
  have c4 := hr 4 _ rfl
  have c5 := hr 5 _ rfl
  have c6 := hr 6 _ rfl
  have f0 := ha 0 _ rfl
  have f1 := ha 1 _ rfl
  have f2 := ha 2 _ rfl
  have f3 := ha 3 _ rfl
  replace hx := cell_kept hb hx
  clear hr ha
  have hw1 : IntKind.i64.wrap (b + (0 : Int)) = b + (0 : Int) := by rw [IntKind.wrap_i64]; omega
  have hw0 : IntKind.i64.wrap b = b := by rw [IntKind.wrap_i64]; omega
  have hn' : (n : Int) < 33 := by omega
  go_enter Tryz.func195, Tryz.ntmps195
  go_wp2
  rw [← HW.out]
  clear HW
  go_region_held3 (fun w' => w'.cell? ⟨w.heap.size, 0, none⟩ = some (.int .i64 b) ∧ w'.cell? ⟨w.heap.size, 1, none⟩ = some (.int .i64 m) ∧ w'.cell? ⟨w.heap.size, 2, none⟩ = some (.int .i64 e) ∧ w'.cell? ⟨w.heap.size, 3, none⟩ = some (.int .i64 s) ∧ w'.cell? ⟨w.heap.size, 4, none⟩ = some (.int .i64 k) ∧ w'.cell? ⟨w.heap.size, 5, none⟩ = some (.int .i64 t) ∧ w'.cell? ⟨w.heap.size, 6, none⟩ = some (.int .i64 l) ∧ w'.cell? ⟨w.heap.size + 1, 0, none⟩ = some (.func (.func 198) #[] #[]) ∧ w'.cell? ⟨w.heap.size + 1, 1, none⟩ = some (.func (.func 199) #[] #[]) ∧ w'.cell? ⟨w.heap.size + 1, 2, none⟩ = some (.func (.func 200) #[] #[]) ∧ w'.cell? ⟨w.heap.size + 1, 3, none⟩ = some (.func (.func 201) #[] #[]) ∧ w'.cell? ⟨0, n, none⟩ = some (.int .i64 0)) (first | exact ⟨c0, c1, c2, c3, c4, c5, c6, f0, f1, f2, f3, hx⟩) (first | (go_at_call 198; refine Calls.mono (clo0 b m e s k t l _) ?_; rintro x w9 ⟨rfl, hbb⟩; (first | replace hb := hb.trans (hbb.mono hb.size) | replace hb := hb.drew.trans (hbb.mono hb.drew.size)); replace c0 := cell_kept hbb c0; replace c1 := cell_kept hbb c1; replace c2 := cell_kept hbb c2; replace c3 := cell_kept hbb c3; replace c4 := cell_kept hbb c4; replace c5 := cell_kept hbb c5; replace c6 := cell_kept hbb c6; replace f0 := cell_kept hbb f0; replace f1 := cell_kept hbb f1; replace f2 := cell_kept hbb f2; replace f3 := cell_kept hbb f3; replace hx := cell_kept hbb hx; clear hbb))
  go_wp2
  go_ret
  exact ⟨ret_int (Int.add_zero b).symm, hb⟩
set_option maxHeartbeats 1000000 in
theorem of_op1 (b m e s k t l : Int) (n : Nat) (w : World) (hn : n < 33) (hx : w.cell? ⟨0, n, none⟩ = some (.int .i64 1)) (hb0 : 0 ≤ b) (hb1 : b ≤ 50) (hv0 : 0 ≤ m) (hv1 : m ≤ 50) :
    Calls Tryz.prog 195 #[cst b m e s k t l, .int .i64 n] w fun r w' => r = .returned (.int .i64 (b + m)) ∧ Below w.heap.size w w' := by
  obtain ⟨w0, HW⟩ : ∃ w0, Hid (w0 = (w.alloc (crow 27 b m e s k t l)).alloc (.cells #[.func (.func 198) #[] #[], .func (.func 199) #[] #[], .func (.func 200) #[] #[], .func (.func 201) #[] #[]] 168)) := ⟨_, rfl⟩
  have hb : Below w.heap.size w w0 := by rw [HW.out]; exact ((Below.refl _ _).alloc (Nat.le_refl _) _).alloc (by simp) _
  have hr : ∀ i v, (#[.int .i64 b, .int .i64 m, .int .i64 e, .int .i64 s, .int .i64 k, .int .i64 t, .int .i64 l] : Array Value)[i]? = some v → w0.cell? ⟨w.heap.size, i, none⟩ = some v := fun i v h => by
    rw [HW.out]; exact cell_alloc (new_cell w _ 27 i v h)
  have ha : ∀ i v, (#[.func (.func 198) #[] #[], .func (.func 199) #[] #[], .func (.func 200) #[] #[], .func (.func 201) #[] #[]] : Array Value)[i]? = some v → w0.cell? ⟨w.heap.size + 1, i, none⟩ = some v := fun i v h => by
    rw [HW.out]; have := new_cell (w.alloc (crow 27 b m e s k t l)) _ 168 i v h; simpa using this
  have c0 := hr 0 _ rfl
  have c1 := hr 1 _ rfl
  have c2 := hr 2 _ rfl
  have c3 := hr 3 _ rfl
  have c4 := hr 4 _ rfl
  have c5 := hr 5 _ rfl
  have c6 := hr 6 _ rfl
  have f0 := ha 0 _ rfl
  have f1 := ha 1 _ rfl
  have f2 := ha 2 _ rfl
  have f3 := ha 3 _ rfl
  replace hx := cell_kept hb hx
  clear hr ha
  have hw1 : IntKind.i64.wrap (b + m) = b + m := by rw [IntKind.wrap_i64]; omega
  have hn' : (n : Int) < 33 := by omega
  go_enter Tryz.func195, Tryz.ntmps195
  go_wp2
  rw [← HW.out]
  clear HW
  go_region_held3 (fun w' => w'.cell? ⟨w.heap.size, 0, none⟩ = some (.int .i64 b) ∧ w'.cell? ⟨w.heap.size, 1, none⟩ = some (.int .i64 m) ∧ w'.cell? ⟨w.heap.size, 2, none⟩ = some (.int .i64 e) ∧ w'.cell? ⟨w.heap.size, 3, none⟩ = some (.int .i64 s) ∧ w'.cell? ⟨w.heap.size, 4, none⟩ = some (.int .i64 k) ∧ w'.cell? ⟨w.heap.size, 5, none⟩ = some (.int .i64 t) ∧ w'.cell? ⟨w.heap.size, 6, none⟩ = some (.int .i64 l) ∧ w'.cell? ⟨w.heap.size + 1, 0, none⟩ = some (.func (.func 198) #[] #[]) ∧ w'.cell? ⟨w.heap.size + 1, 1, none⟩ = some (.func (.func 199) #[] #[]) ∧ w'.cell? ⟨w.heap.size + 1, 2, none⟩ = some (.func (.func 200) #[] #[]) ∧ w'.cell? ⟨w.heap.size + 1, 3, none⟩ = some (.func (.func 201) #[] #[]) ∧ w'.cell? ⟨0, n, none⟩ = some (.int .i64 1)) (first | exact ⟨c0, c1, c2, c3, c4, c5, c6, f0, f1, f2, f3, hx⟩) (first | (go_at_call 199; refine Calls.mono (clo1 b m e s k t l _) ?_; rintro x w9 ⟨rfl, hbb⟩; (first | replace hb := hb.trans (hbb.mono hb.size) | replace hb := hb.drew.trans (hbb.mono hb.drew.size)); replace c0 := cell_kept hbb c0; replace c1 := cell_kept hbb c1; replace c2 := cell_kept hbb c2; replace c3 := cell_kept hbb c3; replace c4 := cell_kept hbb c4; replace c5 := cell_kept hbb c5; replace c6 := cell_kept hbb c6; replace f0 := cell_kept hbb f0; replace f1 := cell_kept hbb f1; replace f2 := cell_kept hbb f2; replace f3 := cell_kept hbb f3; replace hx := cell_kept hbb hx; clear hbb))
  go_wp2
  go_ret
  exact ⟨rfl, hb⟩
set_option maxHeartbeats 1000000 in
theorem of_op2 (b m e s k t l : Int) (n : Nat) (w : World) (hn : n < 33) (hx : w.cell? ⟨0, n, none⟩ = some (.int .i64 2)) (hb0 : 0 ≤ b) (hb1 : b ≤ 50) (hv0 : 0 ≤ e) (hv1 : e ≤ 50) :
    Calls Tryz.prog 195 #[cst b m e s k t l, .int .i64 n] w fun r w' => r = .returned (.int .i64 (b + e)) ∧ Below w.heap.size w w' := by
  obtain ⟨w0, HW⟩ : ∃ w0, Hid (w0 = (w.alloc (crow 27 b m e s k t l)).alloc (.cells #[.func (.func 198) #[] #[], .func (.func 199) #[] #[], .func (.func 200) #[] #[], .func (.func 201) #[] #[]] 168)) := ⟨_, rfl⟩
  have hb : Below w.heap.size w w0 := by rw [HW.out]; exact ((Below.refl _ _).alloc (Nat.le_refl _) _).alloc (by simp) _
  have hr : ∀ i v, (#[.int .i64 b, .int .i64 m, .int .i64 e, .int .i64 s, .int .i64 k, .int .i64 t, .int .i64 l] : Array Value)[i]? = some v → w0.cell? ⟨w.heap.size, i, none⟩ = some v := fun i v h => by
    rw [HW.out]; exact cell_alloc (new_cell w _ 27 i v h)
  have ha : ∀ i v, (#[.func (.func 198) #[] #[], .func (.func 199) #[] #[], .func (.func 200) #[] #[], .func (.func 201) #[] #[]] : Array Value)[i]? = some v → w0.cell? ⟨w.heap.size + 1, i, none⟩ = some v := fun i v h => by
    rw [HW.out]; have := new_cell (w.alloc (crow 27 b m e s k t l)) _ 168 i v h; simpa using this
  have c0 := hr 0 _ rfl
  have c1 := hr 1 _ rfl
  have c2 := hr 2 _ rfl
  have c3 := hr 3 _ rfl
  have c4 := hr 4 _ rfl
  have c5 := hr 5 _ rfl
  have c6 := hr 6 _ rfl
  have f0 := ha 0 _ rfl
  have f1 := ha 1 _ rfl
  have f2 := ha 2 _ rfl
  have f3 := ha 3 _ rfl
  replace hx := cell_kept hb hx
  clear hr ha
  have hw1 : IntKind.i64.wrap (b + e) = b + e := by rw [IntKind.wrap_i64]; omega
  have hn' : (n : Int) < 33 := by omega
  go_enter Tryz.func195, Tryz.ntmps195
  go_wp2
  rw [← HW.out]
  clear HW
  go_region_held3 (fun w' => w'.cell? ⟨w.heap.size, 0, none⟩ = some (.int .i64 b) ∧ w'.cell? ⟨w.heap.size, 1, none⟩ = some (.int .i64 m) ∧ w'.cell? ⟨w.heap.size, 2, none⟩ = some (.int .i64 e) ∧ w'.cell? ⟨w.heap.size, 3, none⟩ = some (.int .i64 s) ∧ w'.cell? ⟨w.heap.size, 4, none⟩ = some (.int .i64 k) ∧ w'.cell? ⟨w.heap.size, 5, none⟩ = some (.int .i64 t) ∧ w'.cell? ⟨w.heap.size, 6, none⟩ = some (.int .i64 l) ∧ w'.cell? ⟨w.heap.size + 1, 0, none⟩ = some (.func (.func 198) #[] #[]) ∧ w'.cell? ⟨w.heap.size + 1, 1, none⟩ = some (.func (.func 199) #[] #[]) ∧ w'.cell? ⟨w.heap.size + 1, 2, none⟩ = some (.func (.func 200) #[] #[]) ∧ w'.cell? ⟨w.heap.size + 1, 3, none⟩ = some (.func (.func 201) #[] #[]) ∧ w'.cell? ⟨0, n, none⟩ = some (.int .i64 2)) (first | exact ⟨c0, c1, c2, c3, c4, c5, c6, f0, f1, f2, f3, hx⟩) (first | (go_at_call 200; refine Calls.mono (clo2 b m e s k t l _) ?_; rintro x w9 ⟨rfl, hbb⟩; (first | replace hb := hb.trans (hbb.mono hb.size) | replace hb := hb.drew.trans (hbb.mono hb.drew.size)); replace c0 := cell_kept hbb c0; replace c1 := cell_kept hbb c1; replace c2 := cell_kept hbb c2; replace c3 := cell_kept hbb c3; replace c4 := cell_kept hbb c4; replace c5 := cell_kept hbb c5; replace c6 := cell_kept hbb c6; replace f0 := cell_kept hbb f0; replace f1 := cell_kept hbb f1; replace f2 := cell_kept hbb f2; replace f3 := cell_kept hbb f3; replace hx := cell_kept hbb hx; clear hbb))
  go_wp2
  go_ret
  exact ⟨rfl, hb⟩
set_option maxHeartbeats 1000000 in
theorem of_op3 (b m e s k t l : Int) (n : Nat) (w : World) (hn : n < 33) (hx : w.cell? ⟨0, n, none⟩ = some (.int .i64 3)) (hb0 : 0 ≤ b) (hb1 : b ≤ 50) (hv0 : 0 ≤ t) (hv1 : t ≤ 50) :
    Calls Tryz.prog 195 #[cst b m e s k t l, .int .i64 n] w fun r w' => r = .returned (.int .i64 (b + t)) ∧ Below w.heap.size w w' := by
  obtain ⟨w0, HW⟩ : ∃ w0, Hid (w0 = (w.alloc (crow 27 b m e s k t l)).alloc (.cells #[.func (.func 198) #[] #[], .func (.func 199) #[] #[], .func (.func 200) #[] #[], .func (.func 201) #[] #[]] 168)) := ⟨_, rfl⟩
  have hb : Below w.heap.size w w0 := by rw [HW.out]; exact ((Below.refl _ _).alloc (Nat.le_refl _) _).alloc (by simp) _
  have hr : ∀ i v, (#[.int .i64 b, .int .i64 m, .int .i64 e, .int .i64 s, .int .i64 k, .int .i64 t, .int .i64 l] : Array Value)[i]? = some v → w0.cell? ⟨w.heap.size, i, none⟩ = some v := fun i v h => by
    rw [HW.out]; exact cell_alloc (new_cell w _ 27 i v h)
  have ha : ∀ i v, (#[.func (.func 198) #[] #[], .func (.func 199) #[] #[], .func (.func 200) #[] #[], .func (.func 201) #[] #[]] : Array Value)[i]? = some v → w0.cell? ⟨w.heap.size + 1, i, none⟩ = some v := fun i v h => by
    rw [HW.out]; have := new_cell (w.alloc (crow 27 b m e s k t l)) _ 168 i v h; simpa using this
  have c0 := hr 0 _ rfl
  have c1 := hr 1 _ rfl
  have c2 := hr 2 _ rfl
  have c3 := hr 3 _ rfl
  have c4 := hr 4 _ rfl
  have c5 := hr 5 _ rfl
  have c6 := hr 6 _ rfl
  have f0 := ha 0 _ rfl
  have f1 := ha 1 _ rfl
  have f2 := ha 2 _ rfl
  have f3 := ha 3 _ rfl
  replace hx := cell_kept hb hx
  clear hr ha
  have hw1 : IntKind.i64.wrap (b + t) = b + t := by rw [IntKind.wrap_i64]; omega
  have hn' : (n : Int) < 33 := by omega
  go_enter Tryz.func195, Tryz.ntmps195
  go_wp2
  rw [← HW.out]
  clear HW
  go_region_held3 (fun w' => w'.cell? ⟨w.heap.size, 0, none⟩ = some (.int .i64 b) ∧ w'.cell? ⟨w.heap.size, 1, none⟩ = some (.int .i64 m) ∧ w'.cell? ⟨w.heap.size, 2, none⟩ = some (.int .i64 e) ∧ w'.cell? ⟨w.heap.size, 3, none⟩ = some (.int .i64 s) ∧ w'.cell? ⟨w.heap.size, 4, none⟩ = some (.int .i64 k) ∧ w'.cell? ⟨w.heap.size, 5, none⟩ = some (.int .i64 t) ∧ w'.cell? ⟨w.heap.size, 6, none⟩ = some (.int .i64 l) ∧ w'.cell? ⟨w.heap.size + 1, 0, none⟩ = some (.func (.func 198) #[] #[]) ∧ w'.cell? ⟨w.heap.size + 1, 1, none⟩ = some (.func (.func 199) #[] #[]) ∧ w'.cell? ⟨w.heap.size + 1, 2, none⟩ = some (.func (.func 200) #[] #[]) ∧ w'.cell? ⟨w.heap.size + 1, 3, none⟩ = some (.func (.func 201) #[] #[]) ∧ w'.cell? ⟨0, n, none⟩ = some (.int .i64 3)) (first | exact ⟨c0, c1, c2, c3, c4, c5, c6, f0, f1, f2, f3, hx⟩) (first | (go_at_call 201; refine Calls.mono (clo3 b m e s k t l _) ?_; rintro x w9 ⟨rfl, hbb⟩; (first | replace hb := hb.trans (hbb.mono hb.size) | replace hb := hb.drew.trans (hbb.mono hb.drew.size)); replace c0 := cell_kept hbb c0; replace c1 := cell_kept hbb c1; replace c2 := cell_kept hbb c2; replace c3 := cell_kept hbb c3; replace c4 := cell_kept hbb c4; replace c5 := cell_kept hbb c5; replace c6 := cell_kept hbb c6; replace f0 := cell_kept hbb f0; replace f1 := cell_kept hbb f1; replace f2 := cell_kept hbb f2; replace f3 := cell_kept hbb f3; replace hx := cell_kept hbb hx; clear hbb))
  go_wp2
  go_ret
  exact ⟨rfl, hb⟩

def opC (b m e t : Int) (n : Nat) : Int := b + opx m e t (ext.getD n 0)
theorem ext_is : ∀ n, n < 33 → (ext.getD n 0 = 0 ∨ ext.getD n 0 = 1 ∨ ext.getD n 0 = 2 ∨ ext.getD n 0 = 3) := by decide
theorem of_op (b m e s k t l : Int) (n : Nat) (w : World) (hn : n < 33) (ht : TabE w) (hok : costsOk b m e s k t l = true) :
    Calls Tryz.prog 195 #[cst b m e s k t l, .int .i64 n] w fun r w' => r = .returned (.int .i64 (opC b m e t n)) ∧ Below w.heap.size w w' := by
  obtain ⟨h1, h2, h3, h4, h5, h6, h7⟩ := costsOk_parts hok
  have hx := ht n hn
  unfold opC
  rcases ext_is n hn with h | h | h | h <;> rw [h] at hx ⊢
  · exact of_op0 b m e s k t l n w hn hx (by omega) (by omega) (by omega) (by omega)
  · exact of_op1 b m e s k t l n w hn hx (by omega) (by omega) (by omega) (by omega)
  · exact of_op2 b m e s k t l n w hn hx (by omega) (by omega) (by omega) (by omega)
  · exact of_op3 b m e s k t l n w hn hx (by omega) (by omega) (by omega) (by omega)
def opCost (b m e s k t l op : Int) : Int := if costsOk b m e s k t l = true then (if 0 ≤ op ∧ op < 33 then opC b m e t op.toNat else -1) else -1
/-! ### The specification's -/
def forms : List Int := [0, 7, 7, 7, 7, 7, 7, 7, 7, 7, 7, 7, 7, 11, 9, 11, 11, 11, 11, 11, 11, 11, 9, 10, 1, 11, 11, 11, 9, 9, 0, 0, 8]
theorem cells_new (w : World) (cs : List Int) (T : TypeId) (i : Nat) (hi : i < cs.length) :
    (w.alloc (.cells (cs.map (Value.int .i64)).toArray T)).cell? ⟨w.heap.size, i, none⟩ = some (.int .i64 (cs.getD i 0)) := by
  simp [hi]
theorem spec_forms (w : World) : Calls Tryz.prog 187 #[] w fun e w' => e = .returned (.slice (some ⟨w.heap.size, 0, none⟩) 33 33) ∧ Below w.heap.size w w' ∧ ∀ i, i < 33 → w'.cell? ⟨w.heap.size, i, none⟩ = some (.int .i64 (forms.getD i 0)) := by
  go_enter Tryz.func187, Tryz.ntmps187
  go_wp2
  go_ret
  exact ⟨rfl, (Below.refl _ _).alloc (Nat.le_refl _) _, fun i hi => cells_new w forms 3 i hi⟩
theorem forms_pos : ∀ n, n < 33 → 0 ≤ forms.getD n 0 := by decide
theorem spec_form (n : Nat) (w : World) (hn : n < 33) :
    Calls Tryz.prog 169 #[.int .i64 n] w fun e w' => ∃ f : Int, e = .returned (.int .i64 f) ∧ Hid (0 ≤ f) ∧ Below w.heap.size w w' := by
  obtain ⟨f, HF⟩ : ∃ f, Hid (forms.getD n 0 = f) := ⟨_, rfl⟩
  have HP : Hid (0 ≤ f) := by rw [← HF.out]; exact forms_pos n hn
  have hq : inr (n : Int) 0 32 = true := inr_yes ⟨by omega, by omega⟩
  go_enter Tryz.func169, Tryz.ntmps169
  go_wp2_with fail
  refine (in_any _ _ _ _).mono ?_
  rintro e w1 ⟨rfl, rfl⟩
  rw [hq]
  go_wp2_with fail
  refine (spec_forms _).mono ?_
  rintro e w2 ⟨rfl, hb, hc⟩
  have hk' := hc n hn
  rw [HF.out] at hk'
  have HB : Hid _ := hb
  clear hc hb
  go_wp2
  go_ret
  exact ⟨f, rfl, HP, HB.out⟩
theorem spec_form_no (x : Int) (w : World) (h : inr x 0 32 = false) :
    Calls Tryz.prog 169 #[.int .i64 x] w fun e w' => e = .returned (.int .i64 (-1)) ∧ w' = w := by
  have H : Hid _ := h
  clear h
  go_enter Tryz.func169, Tryz.ntmps169
  go_wp2_with fail
  refine (in_any _ _ _ _).mono ?_
  rintro e w1 ⟨rfl, rfl⟩
  rw [H.out]
  go_wp2
  go_ret
  exact ⟨rfl, rfl⟩
def kind (n : Nat) : Nat := if n = 9 ∨ n = 10 then 1 else if 15 ≤ n ∧ n ≤ 18 then 2 else if 25 ≤ n then 3 else 0
theorem kind_ext : ∀ n, n < 33 → ext.getD n 0 = (kind n : Int) := by decide
set_option maxHeartbeats 1000000 in
theorem spec_op_9 (b m e s k t l : Int) (n : Nat) (w : World) (hn : n < 33) (hok : costsOk b m e s k t l = true) (h9 : n = 9) (hb0 : 0 ≤ b) (hb1 : b ≤ 50) (hv0 : 0 ≤ m) (hv1 : m ≤ 50) :
    Calls Tryz.prog 102 #[cst b m e s k t l, .int .i64 n] w fun r w' => r = .returned (.int .i64 (b + m)) ∧ Below w.heap.size w w' := by
  have Q : Hid _ := hok
  have hw1 : IntKind.i64.wrap (b + m) = b + m := by rw [IntKind.wrap_i64]; omega
  have HB : Hid (Below w.heap.size w ((w.alloc (crow 27 b m e s k t l)).alloc (crow 27 b m e s k t l))) := ((Below.refl _ _).alloc (Nat.le_refl _) _).alloc (by simp) _
  have hr : ∀ i v, (#[.int .i64 b, .int .i64 m, .int .i64 e, .int .i64 s, .int .i64 k, .int .i64 t, .int .i64 l] : Array Value)[i]? = some v → ((w.alloc (crow 27 b m e s k t l)).alloc (crow 27 b m e s k t l)).cell? ⟨w.heap.size, i, none⟩ = some v := fun i v h =>
    cell_alloc (new_cell w _ 27 i v h)
  clear hok
  have e9 : ((n : Int) == 9) = true := by rw [h9]; rfl
  clear h9
  go_enter Tryz.func102, Tryz.ntmps102
  go_wp2_with fail
  refine (spec_cok b m e s k t l _).mono ?_
  rintro x w1 ⟨rfl, rfl⟩
  rw [Q.out]
  go_wp2_with fail
  refine (spec_form n _ hn).mono ?_
  rintro x w1 ⟨f, rfl, HF, hb1'⟩
  have hf := HF.out
  have c0 := (cell_kept hb1' (hr 0 _ rfl))
  have c1 := (cell_kept hb1' (hr 1 _ rfl))
  have c2 := (cell_kept hb1' (hr 2 _ rfl))
  have c5 := (cell_kept hb1' (hr 5 _ rfl))
  have HB1 : Hid _ := HB.out.trans (hb1'.mono HB.out.size)
  clear hr hb1'
  go_wp2
  go_ret
  exact ⟨rfl, HB1.out⟩
set_option maxHeartbeats 1000000 in
theorem spec_op_10 (b m e s k t l : Int) (n : Nat) (w : World) (hn : n < 33) (hok : costsOk b m e s k t l = true) (h9 : n = 10) (hb0 : 0 ≤ b) (hb1 : b ≤ 50) (hv0 : 0 ≤ m) (hv1 : m ≤ 50) :
    Calls Tryz.prog 102 #[cst b m e s k t l, .int .i64 n] w fun r w' => r = .returned (.int .i64 (b + m)) ∧ Below w.heap.size w w' := by
  have Q : Hid _ := hok
  have hw1 : IntKind.i64.wrap (b + m) = b + m := by rw [IntKind.wrap_i64]; omega
  have HB : Hid (Below w.heap.size w ((w.alloc (crow 27 b m e s k t l)).alloc (crow 27 b m e s k t l))) := ((Below.refl _ _).alloc (Nat.le_refl _) _).alloc (by simp) _
  have hr : ∀ i v, (#[.int .i64 b, .int .i64 m, .int .i64 e, .int .i64 s, .int .i64 k, .int .i64 t, .int .i64 l] : Array Value)[i]? = some v → ((w.alloc (crow 27 b m e s k t l)).alloc (crow 27 b m e s k t l)).cell? ⟨w.heap.size, i, none⟩ = some v := fun i v h =>
    cell_alloc (new_cell w _ 27 i v h)
  clear hok
  have e9 : ((n : Int) == 9) = false := by rw [h9]; rfl
  have e10 : ((n : Int) == 10) = true := by rw [h9]; rfl
  clear h9
  go_enter Tryz.func102, Tryz.ntmps102
  go_wp2_with fail
  refine (spec_cok b m e s k t l _).mono ?_
  rintro x w1 ⟨rfl, rfl⟩
  rw [Q.out]
  go_wp2_with fail
  refine (spec_form n _ hn).mono ?_
  rintro x w1 ⟨f, rfl, HF, hb1'⟩
  have hf := HF.out
  have c0 := (cell_kept hb1' (hr 0 _ rfl))
  have c1 := (cell_kept hb1' (hr 1 _ rfl))
  have c2 := (cell_kept hb1' (hr 2 _ rfl))
  have c5 := (cell_kept hb1' (hr 5 _ rfl))
  have HB1 : Hid _ := HB.out.trans (hb1'.mono HB.out.size)
  clear hr hb1'
  go_wp2
  go_ret
  exact ⟨rfl, HB1.out⟩
set_option maxHeartbeats 1000000 in
theorem spec_op_mem (b m e s k t l : Int) (n : Nat) (w : World) (hn : n < 33) (hok : costsOk b m e s k t l = true) (h9 : 15 ≤ n ∧ n ≤ 18) (hb0 : 0 ≤ b) (hb1 : b ≤ 50) (hv0 : 0 ≤ e) (hv1 : e ≤ 50) :
    Calls Tryz.prog 102 #[cst b m e s k t l, .int .i64 n] w fun r w' => r = .returned (.int .i64 (b + e)) ∧ Below w.heap.size w w' := by
  have Q : Hid _ := hok
  have hw1 : IntKind.i64.wrap (b + e) = b + e := by rw [IntKind.wrap_i64]; omega
  have HB : Hid (Below w.heap.size w ((w.alloc (crow 27 b m e s k t l)).alloc (crow 27 b m e s k t l))) := ((Below.refl _ _).alloc (Nat.le_refl _) _).alloc (by simp) _
  have hr : ∀ i v, (#[.int .i64 b, .int .i64 m, .int .i64 e, .int .i64 s, .int .i64 k, .int .i64 t, .int .i64 l] : Array Value)[i]? = some v → ((w.alloc (crow 27 b m e s k t l)).alloc (crow 27 b m e s k t l)).cell? ⟨w.heap.size, i, none⟩ = some v := fun i v h =>
    cell_alloc (new_cell w _ 27 i v h)
  clear hok
  have e9 : ((n : Int) == 9) = false := by simpa using (show (n : Int) ≠ 9 by omega)
  have e10 : ((n : Int) == 10) = false := by simpa using (show (n : Int) ≠ 10 by omega)
  have hq : inr (n : Int) 15 18 = true := inr_yes ⟨by omega, by omega⟩
  go_enter Tryz.func102, Tryz.ntmps102
  go_wp2_with fail
  refine (spec_cok b m e s k t l _).mono ?_
  rintro x w1 ⟨rfl, rfl⟩
  rw [Q.out]
  go_wp2_with fail
  refine (spec_form n _ hn).mono ?_
  rintro x w1 ⟨f, rfl, HF, hb1'⟩
  have hf := HF.out
  have c0 := (cell_kept hb1' (hr 0 _ rfl))
  have c1 := (cell_kept hb1' (hr 1 _ rfl))
  have c2 := (cell_kept hb1' (hr 2 _ rfl))
  have c5 := (cell_kept hb1' (hr 5 _ rfl))
  have HB1 : Hid _ := HB.out.trans (hb1'.mono HB.out.size)
  clear hr hb1'
  go_wp2_with fail
  refine (in_any n 15 18 _).mono ?_
  rintro x w2 ⟨rfl, rfl⟩
  rw [hq]
  go_wp2
  go_ret
  exact ⟨rfl, HB1.out⟩
set_option maxHeartbeats 1000000 in
theorem spec_op_trap (b m e s k t l : Int) (n : Nat) (w : World) (hn : n < 33) (hok : costsOk b m e s k t l = true) (h9 : 25 ≤ n) (hb0 : 0 ≤ b) (hb1 : b ≤ 50) (hv0 : 0 ≤ t) (hv1 : t ≤ 50) :
    Calls Tryz.prog 102 #[cst b m e s k t l, .int .i64 n] w fun r w' => r = .returned (.int .i64 (b + t)) ∧ Below w.heap.size w w' := by
  have Q : Hid _ := hok
  have hw1 : IntKind.i64.wrap (b + t) = b + t := by rw [IntKind.wrap_i64]; omega
  have HB : Hid (Below w.heap.size w ((w.alloc (crow 27 b m e s k t l)).alloc (crow 27 b m e s k t l))) := ((Below.refl _ _).alloc (Nat.le_refl _) _).alloc (by simp) _
  have hr : ∀ i v, (#[.int .i64 b, .int .i64 m, .int .i64 e, .int .i64 s, .int .i64 k, .int .i64 t, .int .i64 l] : Array Value)[i]? = some v → ((w.alloc (crow 27 b m e s k t l)).alloc (crow 27 b m e s k t l)).cell? ⟨w.heap.size, i, none⟩ = some v := fun i v h =>
    cell_alloc (new_cell w _ 27 i v h)
  clear hok
  have e9 : ((n : Int) == 9) = false := by simpa using (show (n : Int) ≠ 9 by omega)
  have e10 : ((n : Int) == 10) = false := by simpa using (show (n : Int) ≠ 10 by omega)
  have hq : inr (n : Int) 15 18 = false := inr_no (by omega)
  go_enter Tryz.func102, Tryz.ntmps102
  go_wp2_with fail
  refine (spec_cok b m e s k t l _).mono ?_
  rintro x w1 ⟨rfl, rfl⟩
  rw [Q.out]
  go_wp2_with fail
  refine (spec_form n _ hn).mono ?_
  rintro x w1 ⟨f, rfl, HF, hb1'⟩
  have hf := HF.out
  have c0 := (cell_kept hb1' (hr 0 _ rfl))
  have c1 := (cell_kept hb1' (hr 1 _ rfl))
  have c2 := (cell_kept hb1' (hr 2 _ rfl))
  have c5 := (cell_kept hb1' (hr 5 _ rfl))
  have HB1 : Hid _ := HB.out.trans (hb1'.mono HB.out.size)
  clear hr hb1'
  go_wp2_with fail
  refine (in_any n 15 18 _).mono ?_
  rintro x w2 ⟨rfl, rfl⟩
  rw [hq]
  go_wp2
  go_ret
  exact ⟨rfl, HB1.out⟩
set_option maxHeartbeats 1000000 in
theorem spec_op_none (b m e s k t l : Int) (n : Nat) (w : World) (hn : n < 33) (hok : costsOk b m e s k t l = true) (h9 : ¬ (n = 9 ∨ n = 10) ∧ ¬ (15 ≤ n ∧ n ≤ 18) ∧ ¬ 25 ≤ n) (hb0 : 0 ≤ b) (hb1 : b ≤ 50) (hv0 : 0 ≤ (0 : Int)) (hv1 : (0 : Int) ≤ 50) :
    Calls Tryz.prog 102 #[cst b m e s k t l, .int .i64 n] w fun r w' => r = .returned (.int .i64 (b)) ∧ Below w.heap.size w w' := by
  have Q : Hid _ := hok
  have hw1 : IntKind.i64.wrap (b + (0 : Int)) = b + (0 : Int) := by rw [IntKind.wrap_i64]; omega
  have HB : Hid (Below w.heap.size w ((w.alloc (crow 27 b m e s k t l)).alloc (crow 27 b m e s k t l))) := ((Below.refl _ _).alloc (Nat.le_refl _) _).alloc (by simp) _
  have hr : ∀ i v, (#[.int .i64 b, .int .i64 m, .int .i64 e, .int .i64 s, .int .i64 k, .int .i64 t, .int .i64 l] : Array Value)[i]? = some v → ((w.alloc (crow 27 b m e s k t l)).alloc (crow 27 b m e s k t l)).cell? ⟨w.heap.size, i, none⟩ = some v := fun i v h =>
    cell_alloc (new_cell w _ 27 i v h)
  clear hok
  have e9 : ((n : Int) == 9) = false := by simpa using (show (n : Int) ≠ 9 by omega)
  have e10 : ((n : Int) == 10) = false := by simpa using (show (n : Int) ≠ 10 by omega)
  have hq : inr (n : Int) 15 18 = false := inr_no (by omega)
  have e25 : ¬ (25 : Int) ≤ (n : Int) := by omega
  clear h9
  go_enter Tryz.func102, Tryz.ntmps102
  go_wp2_with fail
  refine (spec_cok b m e s k t l _).mono ?_
  rintro x w1 ⟨rfl, rfl⟩
  rw [Q.out]
  go_wp2_with fail
  refine (spec_form n _ hn).mono ?_
  rintro x w1 ⟨f, rfl, HF, hb1'⟩
  have hf := HF.out
  have c0 := (cell_kept hb1' (hr 0 _ rfl))
  have c1 := (cell_kept hb1' (hr 1 _ rfl))
  have c2 := (cell_kept hb1' (hr 2 _ rfl))
  have c5 := (cell_kept hb1' (hr 5 _ rfl))
  have HB1 : Hid _ := HB.out.trans (hb1'.mono HB.out.size)
  clear hr hb1'
  go_wp2_with fail
  refine (in_any n 15 18 _).mono ?_
  rintro x w2 ⟨rfl, rfl⟩
  rw [hq]
  go_wp2
  go_ret
  exact ⟨rfl, HB1.out⟩
set_option maxHeartbeats 1000000 in
theorem spec_op (b m e s k t l op : Int) (w : World) :
    Calls Tryz.prog 102 #[cst b m e s k t l, .int .i64 op] w fun r w' => r = .returned (.int .i64 (opCost b m e s k t l op)) ∧ Below w.heap.size w w' := by
  unfold opCost
  cases hok : costsOk b m e s k t l with
  | false =>
    have Q : Hid _ := hok
    clear hok
    have HB : Hid (Below w.heap.size w ((w.alloc (crow 27 b m e s k t l)).alloc (crow 27 b m e s k t l))) := ((Below.refl _ _).alloc (Nat.le_refl _) _).alloc (by simp) _
    rw [if_neg (by simp)]
    go_enter Tryz.func102, Tryz.ntmps102
    go_wp2_with fail
    refine (spec_cok b m e s k t l _).mono ?_
    rintro x w1 ⟨rfl, rfl⟩
    rw [Q.out]
    go_wp2
    go_ret
    exact ⟨rfl, HB.out⟩
  | true =>
    rw [if_pos rfl]
    by_cases h : 0 ≤ op ∧ op < 33
    · rw [if_pos h]
      obtain ⟨n, rfl⟩ := Int.eq_ofNat_of_zero_le h.1
      have hn : n < 33 := by omega
      rw [Int.toNat_natCast]
      unfold opC
      rw [kind_ext n hn]
      obtain ⟨h1, h2, h3, h4, h5, h6, h7⟩ := costsOk_parts hok
      unfold kind
      by_cases g1 : n = 9 ∨ n = 10
      · rw [if_pos g1]
        rcases g1 with g | g
        · exact spec_op_9 b m e s k t l n w hn hok g (by omega) (by omega) (by omega) (by omega)
        · exact spec_op_10 b m e s k t l n w hn hok g (by omega) (by omega) (by omega) (by omega)
      · rw [if_neg g1]
        by_cases g2 : 15 ≤ n ∧ n ≤ 18
        · rw [if_pos g2]
          exact spec_op_mem b m e s k t l n w hn hok g2 (by omega) (by omega) (by omega) (by omega)
        · rw [if_neg g2]
          by_cases g3 : 25 ≤ n
          · rw [if_pos g3]
            exact spec_op_trap b m e s k t l n w hn hok g3 (by omega) (by omega) (by omega) (by omega)
          · rw [if_neg g3]
            have := spec_op_none b m e s k t l n w hn hok ⟨g1, g2, g3⟩ (by omega) (by omega) (by omega) (by omega)
            simpa [opx] using this
    · rw [if_neg h]
      have Q : Hid _ := hok
      have HQ : Hid (inr op 0 32 = false) := inr_no (by omega)
      have HB : Hid (Below w.heap.size w ((w.alloc (crow 27 b m e s k t l)).alloc (crow 27 b m e s k t l))) := ((Below.refl _ _).alloc (Nat.le_refl _) _).alloc (by simp) _
      clear hok h
      go_enter Tryz.func102, Tryz.ntmps102
      go_wp2_with fail
      refine (spec_cok b m e s k t l _).mono ?_
      rintro x w1 ⟨rfl, rfl⟩
      rw [Q.out]
      go_wp2_with fail
      refine (spec_form_no op _ HQ.out).mono ?_
      rintro x w1 ⟨rfl, rfl⟩
      go_wp2
      go_ret
      exact ⟨rfl, HB.out⟩
end Go.Proofs.YtlomcdgfcocmmaaGreatDoor
namespace Go.Proofs.YtlomcdgfcocmmaaGreatDoor
open Go.ChangeShapes Go.WideShapes Go.ChangeAt Go.RowKit
set_option linter.unusedVariables false

theorem tabE_kept {w w' : World} (hb : Below w.heap.size w w') (h : TabE w) : TabE w' := TabE.below h hb
theorem seg_kept {k : IntKind} {w w' : World} {a : Option Addr} {zs : List Int} (hb : Below w.heap.size w w') (h : Seg k w a zs) : Seg k w' a zs := Seg.below h hb
def ocs (b m e t : Int) (n : Nat) : List Int := (List.range n).map (opC b m e t)
theorem ocs_len (b m e t : Int) (n : Nat) : (ocs b m e t n).length = n := by simp [ocs]
theorem ocs_succ (b m e t : Int) (n : Nat) : ocs b m e t (n + 1) = ocs b m e t n ++ [opC b m e t n] := by
  unfold ocs
  rw [List.range_succ, List.map_append]
  rfl
theorem ocs_take (b m e t : Int) (n j : Nat) (h : j ≤ n) : (ocs b m e t n).take j = ocs b m e t j := by
  unfold ocs
  rw [← List.map_take, List.take_range, Nat.min_eq_left h]
theorem opC_range {b m e s k t l : Int} (hok : costsOk b m e s k t l = true) (n : Nat) : 1 ≤ opC b m e t n ∧ opC b m e t n ≤ 70 := by
  obtain ⟨h1, h2, h3, h4, h5, h6, h7⟩ := costsOk_parts hok
  unfold opC opx
  split
  · omega
  · split
    · omega
    · split <;> omega
theorem most_ge (zs : List Int) : ∀ z, z ≤ most z zs := by
  induction zs with
  | nil => intro z; exact Int.le_refl _
  | cons x xs ih =>
    intro z
    have := ih (if z < x then x else z)
    unfold most
    split at this <;> split <;> omega
theorem most_le (M : Int) (zs : List Int) : ∀ z, z ≤ M → (∀ x ∈ zs, x ≤ M) → most z zs ≤ M := by
  induction zs with
  | nil => intro z h _; exact h
  | cons x xs ih =>
    intro z h1 h2
    have hx := h2 x (by simp)
    unfold most
    exact ih _ (by split <;> omega) (fun y hy => h2 y (by simp [hy]))
theorem most_mem (zs : List Int) : ∀ z x, x ∈ zs → x ≤ most z zs := by
  induction zs with
  | nil => intro z x h; cases h
  | cons y ys ih =>
    intro z x h
    unfold most
    rcases List.mem_cons.1 h with rfl | h
    · have := most_ge ys (if z < x then x else z)
      split at this <;> split <;> omega
    · exact ih _ x h
theorem most_is_in (zs : List Int) : ∀ z, most z zs = z ∨ most z zs ∈ zs := by
  induction zs with
  | nil => intro z; exact .inl rfl
  | cons y ys ih =>
    intro z
    unfold most
    rcases ih (if z < y then y else z) with h | h
    · rw [h]
      split
      · exact .inr (by simp)
      · exact .inl rfl
    · exact .inr (by simp [h])
def mostOp (b m e t : Int) : Int := most 0 (ocs b m e t 33)
theorem mostOp_range {b m e s k t l : Int} (hok : costsOk b m e s k t l = true) : 0 ≤ mostOp b m e t ∧ mostOp b m e t ≤ 70 := by
  refine ⟨most_ge _ 0, most_le 70 _ 0 (by omega) (fun x hx => ?_)⟩
  unfold ocs at hx
  obtain ⟨i, _, rfl⟩ := List.mem_map.1 hx
  exact (opC_range hok i).2
def worstStep (b m e s k t l : Int) : Int := if costsOk b m e s k t l then mostOp b m e t + 2 * (s + k + l) + t else -1
set_option maxHeartbeats 1000000 in
theorem all_ops (b m e s k t l : Int) (w : World) (ht : TabE w) (hok : costsOk b m e s k t l = true) :
    Calls Tryz.prog 190 #[cst b m e s k t l] w fun r w' => r = .returned (.slice (some ⟨w.heap.size + 1, 0, none⟩) 33 33) ∧ Seg .i64 w' (some ⟨w.heap.size + 1, 0, none⟩) (ocs b m e t 33) ∧ Below w.heap.size w w' := by
  have hmk : ∀ w : World, (Instr.makeSlice 29 (.int .i64 33) (.int .i64 33)).run Tryz.prog w = .ok (.slice (some ⟨w.heap.size, 0, none⟩) 33 33) (w.alloc (.cells (madeCells #[.int .i64 0] 33) 3)) := fun _ => by kernel_rfl
  obtain ⟨w0, HW⟩ : ∃ w0, Hid (w0 = (w.alloc (crow 27 b m e s k t l)).alloc (.cells (madeCells #[.int .i64 0] 33) 3)) := ⟨_, rfl⟩
  have HB : Hid (Below w.heap.size w w0) := by show Below _ _ _; rw [HW.out]; exact ((Below.refl _ _).alloc (Nat.le_refl _) _).alloc (by simp) _
  have HO : Hid (Own .i64 w0 (w.heap.size + 1) (List.replicate 33 0)) := by
    show Own _ _ _ _
    rw [HW.out]
    have := Own.made .i64 (w.alloc (crow 27 b m e s k t l)) 33 3 0
    simpa using this
  have HR : Hid (∀ i v, (#[.int .i64 b, .int .i64 m, .int .i64 e, .int .i64 s, .int .i64 k, .int .i64 t, .int .i64 l] : Array Value)[i]? = some v → w0.cell? ⟨w.heap.size, i, none⟩ = some v) := fun i v h => by
    rw [HW.out]; exact cell_alloc (new_cell w _ 27 i v h)
  have hsz : w.heap.size + 2 ≤ w0.heap.size := by rw [HW.out]; simp
  have HT : Hid _ := ht
  have HK : Hid _ := hok
  clear ht hok
  go_enter Tryz.func190, Tryz.ntmps190
  go_wp2
  rw [← HW.out]
  clear HW
  go_loopw [8] (fun i wr => ∃ n : Nat, n ≤ 33 ∧ i = .int .i64 n ∧ w.heap.size + 2 ≤ wr.heap.size ∧ Hid (Below w.heap.size w wr ∧ Own .i64 wr (w.heap.size + 1) (ocs b m e t n ++ List.replicate (33 - n) 0) ∧ ∀ i v, (#[.int .i64 b, .int .i64 m, .int .i64 e, .int .i64 s, .int .i64 k, .int .i64 t, .int .i64 l] : Array Value)[i]? = some v → wr.cell? ⟨w.heap.size, i, none⟩ = some v)) (fun i _ => 33 - (intOf i).toNat)
  case atStart => exact ⟨0, by omega, rfl, hsz, HB.out, by simpa [ocs] using HO.out, HR.out⟩
  case round =>
    obtain ⟨n, hn, rfl, hs, HC⟩ := hrel
    by_cases hnt : n < 33
    · have hrow := HC.out.2.2
      have d0 := hrow 0 _ rfl
      have d1 := hrow 1 _ rfl
      have d2 := hrow 2 _ rfl
      have d3 := hrow 3 _ rfl
      have d4 := hrow 4 _ rfl
      have d5 := hrow 5 _ rfl
      have d6 := hrow 6 _ rfl
      clear hrow
      have hnt' : (n : Int) < 33 := by omega
      have HS : Hid _ := ocs_succ b m e t n
      have HZ : Hid (∀ X, TabE X → Calls Tryz.prog 195 #[cst b m e s k t l, .int .i64 n] X fun r w' => r = .returned (.int .i64 (opC b m e t n)) ∧ Below X.heap.size X w') := fun X hX => of_op b m e s k t l n X hnt hX HK.out
      generalize opC b m e t n = z at HS HZ
      go_wp2_with fail
      refine (HZ.out _ (TabE.below HT.out HC.out.1)).mono ?_
      rintro r w1 ⟨rfl, hb1⟩
      have HC1 : Hid _ := And.intro (HC.out.1.trans (hb1.mono HC.out.1.size)) (And.intro (HC.out.2.1.below hb1) (fun (i : Nat) (v : Value) (h : (#[.int .i64 b, .int .i64 m, .int .i64 e, .int .i64 s, .int .i64 k, .int .i64 t, .int .i64 l] : Array Value)[i]? = some v) => cell_kept hb1 (HC.out.2.2 i v h)))
      have hs1 : w.heap.size + 2 ≤ w1.heap.size := Nat.le_trans hs hb1.size
      clear hb1 HC d0 d1 d2 d3 d4 d5 d6
      have hl : n < (ocs b m e t n ++ List.replicate (33 - n) (0 : Int)).length := by simp [ocs_len]; omega
      have hfz := HC1.out.2.1.free n
      have hcl := HC1.out.2.1.cell n hl
      have HP : Hid ((ocs b m e t n ++ List.replicate (33 - n) (0 : Int)).set n z = ocs b m e t (n + 1) ++ List.replicate (33 - (n + 1)) 0) := by
        show _ = _
        rw [HS.out, List.set_append_right _ _ (by rw [ocs_len]; exact Nat.le_refl _), ocs_len, Nat.sub_self, show 33 - n = (33 - (n + 1)) + 1 by omega, List.replicate_succ, List.set_cons_zero, List.append_assoc]
        rfl
      generalize (ocs b m e t n ++ List.replicate (33 - n) (0 : Int)).getD n 0 = old at hcl
      have HL : Hid _ := hl
      clear hl
      go_wp2
      go_roundw
      case rel =>
        refine ⟨n + 1, by omega, by go_num, by simpa using hs1, HC1.out.1.setCell (by dsimp only; omega) _, ?_, fun i v h => ?_⟩
        · have := HC1.out.2.1.set n z HL.out
          rw [HP.out] at this
          exact this
        · rw [World.cell?_setCell_other (h := by simp)]
          exact HC1.out.2.2 i v h
      case measure => simp [intOf]; omega
    · obtain rfl : n = 33 := by omega
      have HSG : Hid (Seg .i64 wr (some ⟨w.heap.size + 1, 0, none⟩) (ocs b m e t 33)) := by
        have := HC.out.2.1.seg
        show Seg _ _ _ _
        simpa using this
      go_wp2
      go_ret
      exact ⟨rfl, HSG.out, HC.out.1⟩
set_option maxHeartbeats 2000000 in
theorem impl_worstS (b m e s k t l : Int) (w : World) (ht : TabE w) :
    Calls Tryz.prog 176 #[cst b m e s k t l] w fun r w' => r = .returned (.int .i64 (worstStep b m e s k t l)) ∧ Below w.heap.size w w' := by
  obtain ⟨q, Q⟩ : ∃ q, Hid (costsOk b m e s k t l = q) := ⟨_, rfl⟩
  obtain ⟨w0, HW⟩ : ∃ w0, Hid (w0 = (w.alloc (crow 27 b m e s k t l)).alloc (crow 27 b m e s k t l)) := ⟨_, rfl⟩
  have hb : Below w.heap.size w w0 := by rw [HW.out]; exact ((Below.refl _ _).alloc (Nat.le_refl _) _).alloc (by simp) _
  have hr : ∀ i v, (#[.int .i64 b, .int .i64 m, .int .i64 e, .int .i64 s, .int .i64 k, .int .i64 t, .int .i64 l] : Array Value)[i]? = some v → w0.cell? ⟨w.heap.size, i, none⟩ = some v := fun i v h => by
    rw [HW.out]; exact cell_alloc (new_cell w _ 27 i v h)
  have HT : Hid _ := ht
  clear ht
  cases q with
  | false =>
    have HE : Hid (worstStep b m e s k t l = -1) := by show _ = _; unfold worstStep; rw [Q.out]; rfl
    rw [HE.out]
    have HB : Hid _ := hb
    clear hb hr
    go_enter Tryz.func176, Tryz.ntmps176
    go_wp2_with fail
    refine (impl_cok b m e s k t l _).mono ?_
    rintro r w1 ⟨rfl, rfl⟩
    rw [Q.out]
    rw [← HW.out]
    go_wp2
    go_ret
    exact ⟨rfl, HB.out⟩
  | true =>
    have HE : Hid (worstStep b m e s k t l = mostOp b m e t + 2 * (s + k + l) + t) := by show _ = _; unfold worstStep; rw [Q.out]; rfl
    have HA : Hid (worstAccess b m e s k t l = s + k + l) := by show _ = _; unfold worstAccess; rw [Q.out]; rfl
    rw [HE.out]
    have hM := mostOp_range Q.out
    have hparts := costsOk_parts Q.out
    have HG : Hid (∀ X a cap, Seg .i64 X a (ocs b m e t 33) → Calls Tryz.prog 189 #[.int .i64 0, .slice a 33 cap] X fun r w' => r = .returned (.int .i64 (mostOp b m e t)) ∧ w' = X) := fun X a cap h => by
      have := greatest 0 a cap (ocs b m e t 33) X h (by rw [ocs_len]; omega)
      rw [ocs_len] at this
      exact this
    have HO : Hid (∀ X, TabE X → Calls Tryz.prog 190 #[cst b m e s k t l] X fun r w' => r = .returned (.slice (some ⟨X.heap.size + 1, 0, none⟩) 33 33) ∧ Seg .i64 w' (some ⟨X.heap.size + 1, 0, none⟩) (ocs b m e t 33) ∧ Below X.heap.size X w') := fun X hX => all_ops b m e s k t l X hX Q.out
    have HAA : Hid (∀ X, Calls Tryz.prog 191 #[cst b m e s k t l] X fun r w' => r = .returned (.int .i64 (s + k + l)) ∧ Below X.heap.size X w') := fun X => by rw [← HA.out]; exact impl_worstA b m e s k t l X
    generalize mostOp b m e t = M at hM HG
    generalize ocs b m e t 33 = zs at HG HO
    obtain ⟨A, hA⟩ : ∃ A, A = s + k + l := ⟨_, rfl⟩
    have hA0 : 0 ≤ A ∧ A ≤ 150 := by omega
    have ht5 : 0 ≤ t ∧ t ≤ 50 := hparts.2.2.2.2.2.1
    rw [← hA] at HAA ⊢
    clear hA hparts HE HA
    have hw1 : IntKind.i64.wrap (2 * A) = 2 * A := by rw [IntKind.wrap_i64]; omega
    have hw2 : IntKind.i64.wrap (M + 2 * A) = M + 2 * A := by rw [IntKind.wrap_i64]; omega
    have hw3 : IntKind.i64.wrap (M + 2 * A + t) = M + 2 * A + t := by rw [IntKind.wrap_i64]; omega
    have c0 := hr 0 _ rfl
    have c1 := hr 1 _ rfl
    have c2 := hr 2 _ rfl
    have c3 := hr 3 _ rfl
    have c4 := hr 4 _ rfl
    have c5 := hr 5 _ rfl
    have c6 := hr 6 _ rfl
    have hT : TabE w0 := TabE.below HT.out hb
    clear hr
    go_enter Tryz.func176, Tryz.ntmps176
    go_wp2_with fail
    refine (impl_cok b m e s k t l _).mono ?_
    rintro r w1 ⟨rfl, rfl⟩
    rw [Q.out]
    rw [← HW.out]
    clear HW
    go_wp2_with fail
    go_region_held3 (fun w' => w'.cell? ⟨w.heap.size, 0, none⟩ = some (.int .i64 b) ∧ w'.cell? ⟨w.heap.size, 1, none⟩ = some (.int .i64 m) ∧ w'.cell? ⟨w.heap.size, 2, none⟩ = some (.int .i64 e) ∧ w'.cell? ⟨w.heap.size, 3, none⟩ = some (.int .i64 s) ∧ w'.cell? ⟨w.heap.size, 4, none⟩ = some (.int .i64 k) ∧ w'.cell? ⟨w.heap.size, 5, none⟩ = some (.int .i64 t) ∧ w'.cell? ⟨w.heap.size, 6, none⟩ = some (.int .i64 l)) (first | exact ⟨c0, c1, c2, c3, c4, c5, c6⟩) (first | (go_at_call 190; go_must (refine Calls.mono (HO.out _ (fun i hi => hT i hi)) ?_; rintro x w9 ⟨rfl, hseg, hbb⟩; (first | replace hb := hb.trans (hbb.mono hb.size) | replace hb := hb.drew.trans (hbb.mono hb.drew.size)); replace c0 := cell_kept hbb c0; replace c1 := cell_kept hbb c1; replace c2 := cell_kept hbb c2; replace c3 := cell_kept hbb c3; replace c4 := cell_kept hbb c4; replace c5 := cell_kept hbb c5; replace c6 := cell_kept hbb c6; replace hT := tabE_kept hbb (fun i hi => hT i hi); clear hbb)) | (go_at_call 189; go_must (refine Calls.mono (HG.out _ _ _ (fun h => hseg h)) ?_; rintro x w9 ⟨rfl, rfl⟩)) | (go_at_call 191; go_must (refine Calls.mono (HAA.out _) ?_; rintro x w9 ⟨rfl, hbb⟩; (first | replace hb := hb.trans (hbb.mono hb.size) | replace hb := hb.drew.trans (hbb.mono hb.drew.size)); replace c0 := cell_kept hbb c0; replace c1 := cell_kept hbb c1; replace c2 := cell_kept hbb c2; replace c3 := cell_kept hbb c3; replace c4 := cell_kept hbb c4; replace c5 := cell_kept hbb c5; replace c6 := cell_kept hbb c6; replace hT := tabE_kept hbb (fun i hi => hT i hi); (try replace hseg := seg_kept hbb (fun h => hseg h)); clear hbb)))
    all_goals go_wp2
    all_goals go_ret
    all_goals exact ⟨rfl, hb⟩
/-! ### The specification's -/
set_option maxHeartbeats 2000000 in
theorem spec_worstS (b m e s k t l : Int) (w : World) :
    Calls Tryz.prog 76 #[cst b m e s k t l] w fun r w' => r = .returned (.int .i64 (worstStep b m e s k t l)) ∧ Below w.heap.size w w' := by
  obtain ⟨q, Q⟩ : ∃ q, Hid (costsOk b m e s k t l = q) := ⟨_, rfl⟩
  obtain ⟨w0, HW⟩ : ∃ w0, Hid (w0 = (w.alloc (crow 27 b m e s k t l)).alloc (crow 27 b m e s k t l)) := ⟨_, rfl⟩
  have HB0 : Hid (Below w.heap.size w w0) := by show Below _ _ _; rw [HW.out]; exact ((Below.refl _ _).alloc (Nat.le_refl _) _).alloc (by simp) _
  have HR0 : Hid (∀ i v, (#[.int .i64 b, .int .i64 m, .int .i64 e, .int .i64 s, .int .i64 k, .int .i64 t, .int .i64 l] : Array Value)[i]? = some v → w0.cell? ⟨w.heap.size, i, none⟩ = some v) := fun i v h => by
    rw [HW.out]; exact cell_alloc (new_cell w _ 27 i v h)
  cases q with
  | false =>
    have HE : Hid (worstStep b m e s k t l = -1) := by show _ = _; unfold worstStep; rw [Q.out]; rfl
    rw [HE.out]
    go_enter Tryz.func76, Tryz.ntmps76
    go_wp2_with fail
    refine (spec_cok b m e s k t l _).mono ?_
    rintro r w1 ⟨rfl, rfl⟩
    rw [Q.out]
    rw [← HW.out]
    go_wp2
    go_ret
    exact ⟨rfl, HB0.out⟩
  | true =>
    have HE : Hid (worstStep b m e s k t l = mostOp b m e t + 2 * (s + k + l) + t) := by show _ = _; unfold worstStep; rw [Q.out]; rfl
    have HA : Hid (worstAccess b m e s k t l = s + k + l) := by show _ = _; unfold worstAccess; rw [Q.out]; rfl
    rw [HE.out]
    have hM := mostOp_range Q.out
    have hparts := costsOk_parts Q.out
    have HAA : Hid (∀ X, Calls Tryz.prog 103 #[cst b m e s k t l] X fun r w' => r = .returned (.int .i64 (s + k + l)) ∧ Below X.heap.size X w') := fun X => by rw [← HA.out]; exact spec_worstA b m e s k t l X
    have HOP : Hid (∀ (n : Nat) X, n < 33 → Calls Tryz.prog 102 #[cst b m e s k t l, .int .i64 n] X fun r w' => r = .returned (.int .i64 (opC b m e t n)) ∧ Below X.heap.size X w') := fun n X hn => by
      have := spec_op b m e s k t l n X
      unfold opCost at this
      rw [if_pos Q.out, if_pos ⟨by omega, by omega⟩, Int.toNat_natCast] at this
      exact this
    have HMD : Hid (mostOp b m e t = most 0 (ocs b m e t 33)) := rfl
    generalize mostOp b m e t = M at hM HMD
    obtain ⟨A, hA⟩ : ∃ A, A = s + k + l := ⟨_, rfl⟩
    have hA0 : 0 ≤ A ∧ A ≤ 150 := by omega
    have ht5 : 0 ≤ t ∧ t ≤ 50 := hparts.2.2.2.2.2.1
    rw [← hA] at HAA ⊢
    clear hA hparts HE HA
    have hw1 : IntKind.i64.wrap (2 * A) = 2 * A := by rw [IntKind.wrap_i64]; omega
    have hw2 : IntKind.i64.wrap (M + 2 * A) = M + 2 * A := by rw [IntKind.wrap_i64]; omega
    have hw3 : IntKind.i64.wrap (M + 2 * A + t) = M + 2 * A + t := by rw [IntKind.wrap_i64]; omega
    go_enter Tryz.func76, Tryz.ntmps76
    go_wp2_with fail
    refine (spec_cok b m e s k t l _).mono ?_
    rintro r w1 ⟨rfl, rfl⟩
    rw [Q.out]
    rw [← HW.out]
    clear HW
    go_wp2_with fail
    go_loopw [3, 4] (fun v i wr => ∃ n : Nat, n ≤ 33 ∧ i = .int .i64 n ∧ ∃ q, v = .int .i64 q ∧ Hid (most 0 (ocs b m e t n) = q) ∧ Hid (Below w.heap.size w wr ∧ ∀ i v, (#[.int .i64 b, .int .i64 m, .int .i64 e, .int .i64 s, .int .i64 k, .int .i64 t, .int .i64 l] : Array Value)[i]? = some v → wr.cell? ⟨w.heap.size, i, none⟩ = some v)) (fun _ i _ => 33 - (intOf i).toNat)
    case atStart => exact ⟨0, by omega, rfl, 0, rfl, rfl, HB0.out, HR0.out⟩
    case round =>
      obtain ⟨n, hn, rfl, q, rfl, HM, HR⟩ := hrel
      have hb := HR.out.1
      have c0 := HR.out.2 0 _ rfl
      have c1 := HR.out.2 1 _ rfl
      have c2 := HR.out.2 2 _ rfl
      have c3 := HR.out.2 3 _ rfl
      have c4 := HR.out.2 4 _ rfl
      have c5 := HR.out.2 5 _ rfl
      have c6 := HR.out.2 6 _ rfl
      by_cases hnt : n < 33
      · have hnt' : (n : Int) < 33 := by omega
        clear hb
        have HS : Hid _ := ocs_succ b m e t n
        have HZ : Hid (∀ X, Calls Tryz.prog 102 #[cst b m e s k t l, .int .i64 n] X fun r w' => r = .returned (.int .i64 (opC b m e t n)) ∧ Below X.heap.size X w') := fun X => HOP.out n X hnt
        generalize opC b m e t n = z at HS HZ
        go_wp2_with fail
        refine (HZ.out _).mono ?_
        rintro r w2 ⟨rfl, hbb⟩
        have HR2 : Hid _ := And.intro (HR.out.1.trans (hbb.mono HR.out.1.size)) (fun (i : Nat) (v : Value) (h : (#[.int .i64 b, .int .i64 m, .int .i64 e, .int .i64 s, .int .i64 k, .int .i64 t, .int .i64 l] : Array Value)[i]? = some v) => cell_kept hbb (HR.out.2 i v h))
        replace c0 := cell_kept hbb c0; replace c1 := cell_kept hbb c1; replace c2 := cell_kept hbb c2; replace c3 := cell_kept hbb c3; replace c4 := cell_kept hbb c4; replace c5 := cell_kept hbb c5; replace c6 := cell_kept hbb c6
        clear hbb HR
        by_cases hz : q < z
        · go_wp2_with fail
          refine (HZ.out _).mono ?_
          rintro r w3 ⟨rfl, hbb⟩
          have HR3 : Hid _ := And.intro (HR2.out.1.trans (hbb.mono HR2.out.1.size)) (fun (i : Nat) (v : Value) (h : (#[.int .i64 b, .int .i64 m, .int .i64 e, .int .i64 s, .int .i64 k, .int .i64 t, .int .i64 l] : Array Value)[i]? = some v) => cell_kept hbb (HR2.out.2 i v h))
          clear hbb
          go_wp2
          go_roundw
          case rel => exact ⟨n + 1, by omega, by go_num, z, rfl, by show _ = _; rw [HS.out, most_snoc, HM.out, if_pos hz], HR3.out⟩
          case measure => simp [intOf]; omega
        · go_wp2
          go_roundw
          case rel => exact ⟨n + 1, by omega, by go_num, q, rfl, by show _ = _; rw [HS.out, most_snoc, HM.out, if_neg (by omega)], HR2.out⟩
          case measure => simp [intOf]; omega
      · obtain rfl : n = 33 := by omega
        obtain rfl : q = M := by rw [← HM.out, HMD.out]
        clear HM HMD HR HB0 HR0
        go_wp2_with fail
        go_region_held3 (fun w' => w'.cell? ⟨w.heap.size, 0, none⟩ = some (.int .i64 b) ∧ w'.cell? ⟨w.heap.size, 1, none⟩ = some (.int .i64 m) ∧ w'.cell? ⟨w.heap.size, 2, none⟩ = some (.int .i64 e) ∧ w'.cell? ⟨w.heap.size, 3, none⟩ = some (.int .i64 s) ∧ w'.cell? ⟨w.heap.size, 4, none⟩ = some (.int .i64 k) ∧ w'.cell? ⟨w.heap.size, 5, none⟩ = some (.int .i64 t) ∧ w'.cell? ⟨w.heap.size, 6, none⟩ = some (.int .i64 l)) (first | exact ⟨c0, c1, c2, c3, c4, c5, c6⟩) (first | (go_at_call 103; go_must (refine Calls.mono (HAA.out _) ?_; rintro x w9 ⟨rfl, hbb⟩; (first | replace hb := hb.trans (hbb.mono hb.size) | replace hb := hb.drew.trans (hbb.mono hb.drew.size)); replace c0 := cell_kept hbb c0; replace c1 := cell_kept hbb c1; replace c2 := cell_kept hbb c2; replace c3 := cell_kept hbb c3; replace c4 := cell_kept hbb c4; replace c5 := cell_kept hbb c5; replace c6 := cell_kept hbb c6; clear hbb)))
        all_goals go_wp2
        all_goals go_ret
        all_goals exact ⟨rfl, hb⟩
end Go.Proofs.YtlomcdgfcocmmaaGreatDoor
