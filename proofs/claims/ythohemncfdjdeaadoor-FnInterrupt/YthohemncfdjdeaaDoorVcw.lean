
/-
  Writing one virtual register, the program's own. No conditions but that the arguments are values of their types.
-/
import Derived.Test.YthohemncfdjdeaaDoorVcs
namespace Go.Proofs.YthohemncfdjdeaaDoor
open Go.ChangeShapes Go.WideShapes Go.ChangeAt Go.RowKit
set_option linter.unusedVariables false

theorem kept_free {w w' : World} {p : Addr} {v : Value} (hb : Below w.heap.size w w') (hc : w.cell? p = some v) (h : w.frozen? p = false) : w'.frozen? p = false :=
  (hb.frozen (World.block_lt_of_cell? w _ hc)).trans h
theorem new_free (w : World) (cs : Array Value) (t : TypeId) (i : Nat) : (w.alloc (.cells cs t)).frozen? ⟨w.heap.size, i, none⟩ = false := by simp
theorem same_cell {w : World} {p : Addr} {v u : Value} (h : w.cell? p = some u) : (w.setCell p v).cell? p = some v := World.cell?_setCell_same _ _ _ h
theorem other_cell {w : World} {R i j : Nat} {v u : Value} (h : w.cell? ⟨R, i, none⟩ = some u) (hij : j ≠ i) : (w.setCell ⟨R, j, none⟩ v).cell? ⟨R, i, none⟩ = some u := by
  rw [World.cell?_setCell_other _ _ _ _ (by intro c; injection c with c1 c2 c3; exact hij c2)]; exact h
theorem set8 {w : World} {R : Nat} {o' : Bool} {v' s' c' k' : Int} {t' n' : Bool} {p' : Int} (h : VC w R o' v' s' c' k' t' n' p') (o : Bool) (v s c k : Int) (t n : Bool) (p : Int) :
    VC ((((((((w.setCell ⟨R, 0, none⟩ (.bool o)).setCell ⟨R, 1, none⟩ (.int .u32 v)).setCell ⟨R, 2, none⟩ (.int .u32 s)).setCell ⟨R, 3, none⟩ (.int .u32 c)).setCell ⟨R, 4, none⟩ (.int .u32 k)).setCell ⟨R, 5, none⟩ (.bool t)).setCell ⟨R, 6, none⟩ (.bool n)).setCell ⟨R, 7, none⟩ (.int .u32 p)) R o v s c k t n p := by
  obtain ⟨h0, h1, h2, h3, h4, h5, h6, h7⟩ := h
  exact ⟨(other_cell (other_cell (other_cell (other_cell (other_cell (other_cell (other_cell (same_cell h0) (by decide)) (by decide)) (by decide)) (by decide)) (by decide)) (by decide)) (by decide)),
    (other_cell (other_cell (other_cell (other_cell (other_cell (other_cell (same_cell (other_cell h1 (by decide))) (by decide)) (by decide)) (by decide)) (by decide)) (by decide)) (by decide)),
    (other_cell (other_cell (other_cell (other_cell (other_cell (same_cell (other_cell (other_cell h2 (by decide)) (by decide))) (by decide)) (by decide)) (by decide)) (by decide)) (by decide)),
    (other_cell (other_cell (other_cell (other_cell (same_cell (other_cell (other_cell (other_cell h3 (by decide)) (by decide)) (by decide))) (by decide)) (by decide)) (by decide)) (by decide)),
    (other_cell (other_cell (other_cell (same_cell (other_cell (other_cell (other_cell (other_cell h4 (by decide)) (by decide)) (by decide)) (by decide))) (by decide)) (by decide)) (by decide)),
    (other_cell (other_cell (same_cell (other_cell (other_cell (other_cell (other_cell (other_cell h5 (by decide)) (by decide)) (by decide)) (by decide)) (by decide))) (by decide)) (by decide)),
    (other_cell (same_cell (other_cell (other_cell (other_cell (other_cell (other_cell (other_cell h6 (by decide)) (by decide)) (by decide)) (by decide)) (by decide)) (by decide))) (by decide)),
    (same_cell (other_cell (other_cell (other_cell (other_cell (other_cell (other_cell (other_cell h7 (by decide)) (by decide)) (by decide)) (by decide)) (by decide)) (by decide)) (by decide)))⟩
theorem below8 {m : Nat} {w0 w : World} {R : Nat} (h : Below m w0 w) (hR : m ≤ R) (a0 a1 a2 a3 a4 a5 a6 a7 : Value) :
    Below m w0 ((((((((w.setCell ⟨R, 0, none⟩ a0).setCell ⟨R, 1, none⟩ a1).setCell ⟨R, 2, none⟩ a2).setCell ⟨R, 3, none⟩ a3).setCell ⟨R, 4, none⟩ a4).setCell ⟨R, 5, none⟩ a5).setCell ⟨R, 6, none⟩ a6).setCell ⟨R, 7, none⟩ a7) := by
  have g0 := Below.setCell h (p := ⟨R, 0, none⟩) hR a0
  have g1 := Below.setCell g0 (p := ⟨R, 1, none⟩) hR a1
  have g2 := Below.setCell g1 (p := ⟨R, 2, none⟩) hR a2
  have g3 := Below.setCell g2 (p := ⟨R, 3, none⟩) hR a3
  have g4 := Below.setCell g3 (p := ⟨R, 4, none⟩) hR a4
  have g5 := Below.setCell g4 (p := ⟨R, 5, none⟩) hR a5
  have g6 := Below.setCell g5 (p := ⟨R, 6, none⟩) hR a6
  exact Below.setCell g6 (p := ⟨R, 7, none⟩) hR a7
theorem vc_alloc {w : World} {B : Nat} {o : Bool} {v s c k : Int} {t n : Bool} {p : Int} (h : VC w B o v s c k t n p) (x : Obj) : VC (w.alloc x) B o v s c k t n p :=
  h.kept ((Below.refl _ w).alloc (Nat.le_refl _) x) h.lt
set_option maxHeartbeats 1000000 in
theorem impl_write0 (o : Bool) (v s c k : Int) (t n : Bool) (p : Int) (x : Int) (b : Bool) (w : World) (h1 : 0 ≤ x) (h2 : x ≤ 4294967295) (hb : Hid (decide (x % 2 = 1) = b)) : Calls Tryd.prog 12 #[vrt o v s c k t n p, .int .i64 0, .int .u32 x] w fun e w' => e = .returned (.tuple #[vrt b v s c k t n p, .bool true]) ∧ Below w.heap.size w w' := by
  have HI : inr 0 0 7 = true := inr_yes (by omega)
  have RD : Hid (∀ w, Calls Tryd.prog 30 #[vrt o v s c k t n p, .int .u32 x] w fun e w' => e = .returned (.tuple #[vrt b v s c k t n p, .bool true]) ∧ Below w.heap.size w w') := fun w => wr0 o v s c k t n p x b w h1 h2 hb
  have hf : ∀ w, (Instr.field 51 (.agg #[.func (.func 29) #[] #[], .func (.func 30) #[] #[]]) 1).run Tryd.prog w = .ok (.func (.func 30) #[] #[]) w := fun w => by kernel_rfl
  have hx : ∀ w, (Instr.index 52 tblV (.int .i64 0)).run Tryd.prog w = .ok (.agg #[.func (.func 29) #[] #[], .func (.func 30) #[] #[]]) w := fun w => by kernel_rfl
  have TB : Hid (∀ w, Calls Tryd.prog 23 #[] w fun e w' => e = .returned tblV ∧ Below w.heap.size w w') := csr_table
  clear h1 h2 hb
  obtain ⟨w0, HW⟩ : ∃ w0, Hid (w0 = (w.alloc (.cells (vrow o v s c k t n p) 26)).alloc (.cells (vrow false 0 0 0 0 false false 0) 26)) := ⟨_, rfl⟩
  have hb : Below w.heap.size w w0 := by rw [HW.out]; exact ((Below.refl _ _).alloc (Nat.le_refl _) _).alloc (by simp) _
  obtain ⟨c0, c1, c2, c3, c4, c5, c6, c7⟩ : VC w0 w.heap.size o v s c k t n p := by rw [HW.out]; exact vc_alloc (VC.new _ _ _ _ _ _ _ _ _ _) _
  obtain ⟨r0, r1, r2, r3, r4, r5, r6, r7⟩ : VC w0 (w.heap.size + 1) false 0 0 0 0 false false 0 := by rw [HW.out]; have := VC.new (w.alloc (.cells (vrow o v s c k t n p) 26)) 26 false 0 0 0 0 false false 0; simpa using this
  have z0 : w0.frozen? ⟨w.heap.size + 1, 0, none⟩ = false := by rw [HW.out]; simp
  have z1 : w0.frozen? ⟨w.heap.size + 1, 1, none⟩ = false := by rw [HW.out]; simp
  have z2 : w0.frozen? ⟨w.heap.size + 1, 2, none⟩ = false := by rw [HW.out]; simp
  have z3 : w0.frozen? ⟨w.heap.size + 1, 3, none⟩ = false := by rw [HW.out]; simp
  have z4 : w0.frozen? ⟨w.heap.size + 1, 4, none⟩ = false := by rw [HW.out]; simp
  have z5 : w0.frozen? ⟨w.heap.size + 1, 5, none⟩ = false := by rw [HW.out]; simp
  have z6 : w0.frozen? ⟨w.heap.size + 1, 6, none⟩ = false := by rw [HW.out]; simp
  have z7 : w0.frozen? ⟨w.heap.size + 1, 7, none⟩ = false := by rw [HW.out]; simp
  go_enter Tryd.func12, Tryd.ntmps12
  go_wp2_with (first | (go_at_call 22; refine (is_csr _ _).mono ?_; rintro e w' ⟨rfl, rfl⟩; rw [HI]))
  rw [← HW.out]
  clear HW
  go_region_with (first | (go_at_call 23; refine Calls.mono (TB.out _) ?_; rintro x9 w9 ⟨rfl, hbb⟩; (first | replace hb := hb.trans (hbb.mono hb.size) | replace hb := hb.drew.trans (hbb.mono hb.drew.size)); replace z0 := kept_free hbb r0 z0; replace z1 := kept_free hbb r1 z1; replace z2 := kept_free hbb r2 z2; replace z3 := kept_free hbb r3 z3; replace z4 := kept_free hbb r4 z4; replace z5 := kept_free hbb r5 z5; replace z6 := kept_free hbb r6 z6; replace z7 := kept_free hbb r7 z7; replace c0 := kept_cell hbb c0; replace r0 := kept_cell hbb r0; replace c1 := kept_cell hbb c1; replace r1 := kept_cell hbb r1; replace c2 := kept_cell hbb c2; replace r2 := kept_cell hbb r2; replace c3 := kept_cell hbb c3; replace r3 := kept_cell hbb r3; replace c4 := kept_cell hbb c4; replace r4 := kept_cell hbb r4; replace c5 := kept_cell hbb c5; replace r5 := kept_cell hbb r5; replace c6 := kept_cell hbb c6; replace r6 := kept_cell hbb r6; replace c7 := kept_cell hbb c7; replace r7 := kept_cell hbb r7; clear hbb) | (go_at_call 30; refine Calls.mono (RD.out _) ?_; rintro x9 w9 ⟨rfl, hbb⟩; (first | replace hb := hb.trans (hbb.mono hb.size) | replace hb := hb.drew.trans (hbb.mono hb.drew.size)); replace z0 := kept_free hbb r0 z0; replace z1 := kept_free hbb r1 z1; replace z2 := kept_free hbb r2 z2; replace z3 := kept_free hbb r3 z3; replace z4 := kept_free hbb r4 z4; replace z5 := kept_free hbb r5 z5; replace z6 := kept_free hbb r6 z6; replace z7 := kept_free hbb r7 z7; replace c0 := kept_cell hbb c0; replace r0 := kept_cell hbb r0; replace c1 := kept_cell hbb c1; replace r1 := kept_cell hbb r1; replace c2 := kept_cell hbb c2; replace r2 := kept_cell hbb r2; replace c3 := kept_cell hbb c3; replace r3 := kept_cell hbb r3; replace c4 := kept_cell hbb c4; replace r4 := kept_cell hbb r4; replace c5 := kept_cell hbb c5; replace r5 := kept_cell hbb r5; replace c6 := kept_cell hbb c6; replace r6 := kept_cell hbb r6; replace c7 := kept_cell hbb c7; replace r7 := kept_cell hbb r7; clear hbb))
  all_goals go_wp2
  all_goals
    have hs := set8 ⟨r0, r1, r2, r3, r4, r5, r6, r7⟩ b v s c k t n p
    have hB := below8 hb (Nat.le_succ _) (.bool b) (.int .u32 v) (.int .u32 s) (.int .u32 c) (.int .u32 k) (.bool t) (.bool n) (.int .u32 p)
    clear c0 c1 c2 c3 c4 c5 c6 c7 r0 r1 r2 r3 r4 r5 r6 r7 z0 z1 z2 z3 z4 z5 z6 z7 hb
    revert hs hB
    generalize ((((((((w9).setCell ⟨w.heap.size + 1, 0, none⟩ (.bool b)).setCell ⟨w.heap.size + 1, 1, none⟩ (.int .u32 v)).setCell ⟨w.heap.size + 1, 2, none⟩ (.int .u32 s)).setCell ⟨w.heap.size + 1, 3, none⟩ (.int .u32 c)).setCell ⟨w.heap.size + 1, 4, none⟩ (.int .u32 k)).setCell ⟨w.heap.size + 1, 5, none⟩ (.bool t)).setCell ⟨w.heap.size + 1, 6, none⟩ (.bool n)).setCell ⟨w.heap.size + 1, 7, none⟩ (.int .u32 p) = W
    intro hs hB
    obtain ⟨c0, c1, c2, c3, c4, c5, c6, c7⟩ := hs
    exact bodyPost_ret (v := .tuple #[vrt b v s c k t n p, .bool true]) (by simp [results, Tryd.results12, go_sem, c0, c1, c2, c3, c4, c5, c6, c7]) rfl ⟨rfl, hB⟩
set_option maxHeartbeats 1000000 in
theorem impl_write3 (o : Bool) (v s c k : Int) (t n : Bool) (p : Int) (x : Int) (b : Bool) (w : World) : Calls Tryd.prog 12 #[vrt o v s c k t n p, .int .i64 3, .int .u32 x] w fun e w' => e = .returned (.tuple #[vrt o v s c k t n p, .bool false]) ∧ Below w.heap.size w w' := by
  have HI : inr 3 0 7 = true := inr_yes (by omega)
  have RD : Hid (∀ w, Calls Tryd.prog 36 #[vrt o v s c k t n p, .int .u32 x] w fun e w' => e = .returned (.tuple #[vrt o v s c k t n p, .bool false]) ∧ Below w.heap.size w w') := fun w => wr3 o v s c k t n p x b w 
  have hf : ∀ w, (Instr.field 51 (.agg #[.func (.func 35) #[] #[], .func (.func 36) #[] #[]]) 1).run Tryd.prog w = .ok (.func (.func 36) #[] #[]) w := fun w => by kernel_rfl
  have hx : ∀ w, (Instr.index 52 tblV (.int .i64 3)).run Tryd.prog w = .ok (.agg #[.func (.func 35) #[] #[], .func (.func 36) #[] #[]]) w := fun w => by kernel_rfl
  have TB : Hid (∀ w, Calls Tryd.prog 23 #[] w fun e w' => e = .returned tblV ∧ Below w.heap.size w w') := csr_table
  obtain ⟨w0, HW⟩ : ∃ w0, Hid (w0 = (w.alloc (.cells (vrow o v s c k t n p) 26)).alloc (.cells (vrow false 0 0 0 0 false false 0) 26)) := ⟨_, rfl⟩
  have hb : Below w.heap.size w w0 := by rw [HW.out]; exact ((Below.refl _ _).alloc (Nat.le_refl _) _).alloc (by simp) _
  obtain ⟨c0, c1, c2, c3, c4, c5, c6, c7⟩ : VC w0 w.heap.size o v s c k t n p := by rw [HW.out]; exact vc_alloc (VC.new _ _ _ _ _ _ _ _ _ _) _
  obtain ⟨r0, r1, r2, r3, r4, r5, r6, r7⟩ : VC w0 (w.heap.size + 1) false 0 0 0 0 false false 0 := by rw [HW.out]; have := VC.new (w.alloc (.cells (vrow o v s c k t n p) 26)) 26 false 0 0 0 0 false false 0; simpa using this
  have z0 : w0.frozen? ⟨w.heap.size + 1, 0, none⟩ = false := by rw [HW.out]; simp
  have z1 : w0.frozen? ⟨w.heap.size + 1, 1, none⟩ = false := by rw [HW.out]; simp
  have z2 : w0.frozen? ⟨w.heap.size + 1, 2, none⟩ = false := by rw [HW.out]; simp
  have z3 : w0.frozen? ⟨w.heap.size + 1, 3, none⟩ = false := by rw [HW.out]; simp
  have z4 : w0.frozen? ⟨w.heap.size + 1, 4, none⟩ = false := by rw [HW.out]; simp
  have z5 : w0.frozen? ⟨w.heap.size + 1, 5, none⟩ = false := by rw [HW.out]; simp
  have z6 : w0.frozen? ⟨w.heap.size + 1, 6, none⟩ = false := by rw [HW.out]; simp
  have z7 : w0.frozen? ⟨w.heap.size + 1, 7, none⟩ = false := by rw [HW.out]; simp
  go_enter Tryd.func12, Tryd.ntmps12
  go_wp2_with (first | (go_at_call 22; refine (is_csr _ _).mono ?_; rintro e w' ⟨rfl, rfl⟩; rw [HI]))
  rw [← HW.out]
  clear HW
  go_region_with (first | (go_at_call 23; refine Calls.mono (TB.out _) ?_; rintro x9 w9 ⟨rfl, hbb⟩; (first | replace hb := hb.trans (hbb.mono hb.size) | replace hb := hb.drew.trans (hbb.mono hb.drew.size)); replace z0 := kept_free hbb r0 z0; replace z1 := kept_free hbb r1 z1; replace z2 := kept_free hbb r2 z2; replace z3 := kept_free hbb r3 z3; replace z4 := kept_free hbb r4 z4; replace z5 := kept_free hbb r5 z5; replace z6 := kept_free hbb r6 z6; replace z7 := kept_free hbb r7 z7; replace c0 := kept_cell hbb c0; replace r0 := kept_cell hbb r0; replace c1 := kept_cell hbb c1; replace r1 := kept_cell hbb r1; replace c2 := kept_cell hbb c2; replace r2 := kept_cell hbb r2; replace c3 := kept_cell hbb c3; replace r3 := kept_cell hbb r3; replace c4 := kept_cell hbb c4; replace r4 := kept_cell hbb r4; replace c5 := kept_cell hbb c5; replace r5 := kept_cell hbb r5; replace c6 := kept_cell hbb c6; replace r6 := kept_cell hbb r6; replace c7 := kept_cell hbb c7; replace r7 := kept_cell hbb r7; clear hbb) | (go_at_call 36; refine Calls.mono (RD.out _) ?_; rintro x9 w9 ⟨rfl, hbb⟩; (first | replace hb := hb.trans (hbb.mono hb.size) | replace hb := hb.drew.trans (hbb.mono hb.drew.size)); replace z0 := kept_free hbb r0 z0; replace z1 := kept_free hbb r1 z1; replace z2 := kept_free hbb r2 z2; replace z3 := kept_free hbb r3 z3; replace z4 := kept_free hbb r4 z4; replace z5 := kept_free hbb r5 z5; replace z6 := kept_free hbb r6 z6; replace z7 := kept_free hbb r7 z7; replace c0 := kept_cell hbb c0; replace r0 := kept_cell hbb r0; replace c1 := kept_cell hbb c1; replace r1 := kept_cell hbb r1; replace c2 := kept_cell hbb c2; replace r2 := kept_cell hbb r2; replace c3 := kept_cell hbb c3; replace r3 := kept_cell hbb r3; replace c4 := kept_cell hbb c4; replace r4 := kept_cell hbb r4; replace c5 := kept_cell hbb c5; replace r5 := kept_cell hbb r5; replace c6 := kept_cell hbb c6; replace r6 := kept_cell hbb r6; replace c7 := kept_cell hbb c7; replace r7 := kept_cell hbb r7; clear hbb))
  all_goals go_wp2
  all_goals
    have hs := set8 ⟨r0, r1, r2, r3, r4, r5, r6, r7⟩ o v s c k t n p
    have hB := below8 hb (Nat.le_succ _) (.bool o) (.int .u32 v) (.int .u32 s) (.int .u32 c) (.int .u32 k) (.bool t) (.bool n) (.int .u32 p)
    clear c0 c1 c2 c3 c4 c5 c6 c7 r0 r1 r2 r3 r4 r5 r6 r7 z0 z1 z2 z3 z4 z5 z6 z7 hb
    revert hs hB
    generalize ((((((((w9).setCell ⟨w.heap.size + 1, 0, none⟩ (.bool o)).setCell ⟨w.heap.size + 1, 1, none⟩ (.int .u32 v)).setCell ⟨w.heap.size + 1, 2, none⟩ (.int .u32 s)).setCell ⟨w.heap.size + 1, 3, none⟩ (.int .u32 c)).setCell ⟨w.heap.size + 1, 4, none⟩ (.int .u32 k)).setCell ⟨w.heap.size + 1, 5, none⟩ (.bool t)).setCell ⟨w.heap.size + 1, 6, none⟩ (.bool n)).setCell ⟨w.heap.size + 1, 7, none⟩ (.int .u32 p) = W
    intro hs hB
    obtain ⟨c0, c1, c2, c3, c4, c5, c6, c7⟩ := hs
    exact bodyPost_ret (v := .tuple #[vrt o v s c k t n p, .bool false]) (by simp [results, Tryd.results12, go_sem, c0, c1, c2, c3, c4, c5, c6, c7]) rfl ⟨rfl, hB⟩
set_option maxHeartbeats 1000000 in
theorem impl_write4 (o : Bool) (v s c k : Int) (t n : Bool) (p : Int) (x : Int) (b : Bool) (w : World) : Calls Tryd.prog 12 #[vrt o v s c k t n p, .int .i64 4, .int .u32 x] w fun e w' => e = .returned (.tuple #[vrt o v s c x t n p, .bool true]) ∧ Below w.heap.size w w' := by
  have HI : inr 4 0 7 = true := inr_yes (by omega)
  have RD : Hid (∀ w, Calls Tryd.prog 38 #[vrt o v s c k t n p, .int .u32 x] w fun e w' => e = .returned (.tuple #[vrt o v s c x t n p, .bool true]) ∧ Below w.heap.size w w') := fun w => wr4 o v s c k t n p x b w 
  have hf : ∀ w, (Instr.field 51 (.agg #[.func (.func 37) #[] #[], .func (.func 38) #[] #[]]) 1).run Tryd.prog w = .ok (.func (.func 38) #[] #[]) w := fun w => by kernel_rfl
  have hx : ∀ w, (Instr.index 52 tblV (.int .i64 4)).run Tryd.prog w = .ok (.agg #[.func (.func 37) #[] #[], .func (.func 38) #[] #[]]) w := fun w => by kernel_rfl
  have TB : Hid (∀ w, Calls Tryd.prog 23 #[] w fun e w' => e = .returned tblV ∧ Below w.heap.size w w') := csr_table
  obtain ⟨w0, HW⟩ : ∃ w0, Hid (w0 = (w.alloc (.cells (vrow o v s c k t n p) 26)).alloc (.cells (vrow false 0 0 0 0 false false 0) 26)) := ⟨_, rfl⟩
  have hb : Below w.heap.size w w0 := by rw [HW.out]; exact ((Below.refl _ _).alloc (Nat.le_refl _) _).alloc (by simp) _
  obtain ⟨c0, c1, c2, c3, c4, c5, c6, c7⟩ : VC w0 w.heap.size o v s c k t n p := by rw [HW.out]; exact vc_alloc (VC.new _ _ _ _ _ _ _ _ _ _) _
  obtain ⟨r0, r1, r2, r3, r4, r5, r6, r7⟩ : VC w0 (w.heap.size + 1) false 0 0 0 0 false false 0 := by rw [HW.out]; have := VC.new (w.alloc (.cells (vrow o v s c k t n p) 26)) 26 false 0 0 0 0 false false 0; simpa using this
  have z0 : w0.frozen? ⟨w.heap.size + 1, 0, none⟩ = false := by rw [HW.out]; simp
  have z1 : w0.frozen? ⟨w.heap.size + 1, 1, none⟩ = false := by rw [HW.out]; simp
  have z2 : w0.frozen? ⟨w.heap.size + 1, 2, none⟩ = false := by rw [HW.out]; simp
  have z3 : w0.frozen? ⟨w.heap.size + 1, 3, none⟩ = false := by rw [HW.out]; simp
  have z4 : w0.frozen? ⟨w.heap.size + 1, 4, none⟩ = false := by rw [HW.out]; simp
  have z5 : w0.frozen? ⟨w.heap.size + 1, 5, none⟩ = false := by rw [HW.out]; simp
  have z6 : w0.frozen? ⟨w.heap.size + 1, 6, none⟩ = false := by rw [HW.out]; simp
  have z7 : w0.frozen? ⟨w.heap.size + 1, 7, none⟩ = false := by rw [HW.out]; simp
  go_enter Tryd.func12, Tryd.ntmps12
  go_wp2_with (first | (go_at_call 22; refine (is_csr _ _).mono ?_; rintro e w' ⟨rfl, rfl⟩; rw [HI]))
  rw [← HW.out]
  clear HW
  go_region_with (first | (go_at_call 23; refine Calls.mono (TB.out _) ?_; rintro x9 w9 ⟨rfl, hbb⟩; (first | replace hb := hb.trans (hbb.mono hb.size) | replace hb := hb.drew.trans (hbb.mono hb.drew.size)); replace z0 := kept_free hbb r0 z0; replace z1 := kept_free hbb r1 z1; replace z2 := kept_free hbb r2 z2; replace z3 := kept_free hbb r3 z3; replace z4 := kept_free hbb r4 z4; replace z5 := kept_free hbb r5 z5; replace z6 := kept_free hbb r6 z6; replace z7 := kept_free hbb r7 z7; replace c0 := kept_cell hbb c0; replace r0 := kept_cell hbb r0; replace c1 := kept_cell hbb c1; replace r1 := kept_cell hbb r1; replace c2 := kept_cell hbb c2; replace r2 := kept_cell hbb r2; replace c3 := kept_cell hbb c3; replace r3 := kept_cell hbb r3; replace c4 := kept_cell hbb c4; replace r4 := kept_cell hbb r4; replace c5 := kept_cell hbb c5; replace r5 := kept_cell hbb r5; replace c6 := kept_cell hbb c6; replace r6 := kept_cell hbb r6; replace c7 := kept_cell hbb c7; replace r7 := kept_cell hbb r7; clear hbb) | (go_at_call 38; refine Calls.mono (RD.out _) ?_; rintro x9 w9 ⟨rfl, hbb⟩; (first | replace hb := hb.trans (hbb.mono hb.size) | replace hb := hb.drew.trans (hbb.mono hb.drew.size)); replace z0 := kept_free hbb r0 z0; replace z1 := kept_free hbb r1 z1; replace z2 := kept_free hbb r2 z2; replace z3 := kept_free hbb r3 z3; replace z4 := kept_free hbb r4 z4; replace z5 := kept_free hbb r5 z5; replace z6 := kept_free hbb r6 z6; replace z7 := kept_free hbb r7 z7; replace c0 := kept_cell hbb c0; replace r0 := kept_cell hbb r0; replace c1 := kept_cell hbb c1; replace r1 := kept_cell hbb r1; replace c2 := kept_cell hbb c2; replace r2 := kept_cell hbb r2; replace c3 := kept_cell hbb c3; replace r3 := kept_cell hbb r3; replace c4 := kept_cell hbb c4; replace r4 := kept_cell hbb r4; replace c5 := kept_cell hbb c5; replace r5 := kept_cell hbb r5; replace c6 := kept_cell hbb c6; replace r6 := kept_cell hbb r6; replace c7 := kept_cell hbb c7; replace r7 := kept_cell hbb r7; clear hbb))
  all_goals go_wp2
  all_goals
    have hs := set8 ⟨r0, r1, r2, r3, r4, r5, r6, r7⟩ o v s c x t n p
    have hB := below8 hb (Nat.le_succ _) (.bool o) (.int .u32 v) (.int .u32 s) (.int .u32 c) (.int .u32 x) (.bool t) (.bool n) (.int .u32 p)
    clear c0 c1 c2 c3 c4 c5 c6 c7 r0 r1 r2 r3 r4 r5 r6 r7 z0 z1 z2 z3 z4 z5 z6 z7 hb
    revert hs hB
    generalize ((((((((w9).setCell ⟨w.heap.size + 1, 0, none⟩ (.bool o)).setCell ⟨w.heap.size + 1, 1, none⟩ (.int .u32 v)).setCell ⟨w.heap.size + 1, 2, none⟩ (.int .u32 s)).setCell ⟨w.heap.size + 1, 3, none⟩ (.int .u32 c)).setCell ⟨w.heap.size + 1, 4, none⟩ (.int .u32 x)).setCell ⟨w.heap.size + 1, 5, none⟩ (.bool t)).setCell ⟨w.heap.size + 1, 6, none⟩ (.bool n)).setCell ⟨w.heap.size + 1, 7, none⟩ (.int .u32 p) = W
    intro hs hB
    obtain ⟨c0, c1, c2, c3, c4, c5, c6, c7⟩ := hs
    exact bodyPost_ret (v := .tuple #[vrt o v s c x t n p, .bool true]) (by simp [results, Tryd.results12, go_sem, c0, c1, c2, c3, c4, c5, c6, c7]) rfl ⟨rfl, hB⟩
set_option maxHeartbeats 1000000 in
theorem impl_write5 (o : Bool) (v s c k : Int) (t n : Bool) (p : Int) (x : Int) (b : Bool) (w : World) (h1 : 0 ≤ x) (h2 : x ≤ 4294967295) (hb : Hid (decide (x % 2 = 1) = b)) : Calls Tryd.prog 12 #[vrt o v s c k t n p, .int .i64 5, .int .u32 x] w fun e w' => e = .returned (.tuple #[vrt o v s c k b n p, .bool true]) ∧ Below w.heap.size w w' := by
  have HI : inr 5 0 7 = true := inr_yes (by omega)
  have RD : Hid (∀ w, Calls Tryd.prog 40 #[vrt o v s c k t n p, .int .u32 x] w fun e w' => e = .returned (.tuple #[vrt o v s c k b n p, .bool true]) ∧ Below w.heap.size w w') := fun w => wr5 o v s c k t n p x b w h1 h2 hb
  have hf : ∀ w, (Instr.field 51 (.agg #[.func (.func 39) #[] #[], .func (.func 40) #[] #[]]) 1).run Tryd.prog w = .ok (.func (.func 40) #[] #[]) w := fun w => by kernel_rfl
  have hx : ∀ w, (Instr.index 52 tblV (.int .i64 5)).run Tryd.prog w = .ok (.agg #[.func (.func 39) #[] #[], .func (.func 40) #[] #[]]) w := fun w => by kernel_rfl
  have TB : Hid (∀ w, Calls Tryd.prog 23 #[] w fun e w' => e = .returned tblV ∧ Below w.heap.size w w') := csr_table
  clear h1 h2 hb
  obtain ⟨w0, HW⟩ : ∃ w0, Hid (w0 = (w.alloc (.cells (vrow o v s c k t n p) 26)).alloc (.cells (vrow false 0 0 0 0 false false 0) 26)) := ⟨_, rfl⟩
  have hb : Below w.heap.size w w0 := by rw [HW.out]; exact ((Below.refl _ _).alloc (Nat.le_refl _) _).alloc (by simp) _
  obtain ⟨c0, c1, c2, c3, c4, c5, c6, c7⟩ : VC w0 w.heap.size o v s c k t n p := by rw [HW.out]; exact vc_alloc (VC.new _ _ _ _ _ _ _ _ _ _) _
  obtain ⟨r0, r1, r2, r3, r4, r5, r6, r7⟩ : VC w0 (w.heap.size + 1) false 0 0 0 0 false false 0 := by rw [HW.out]; have := VC.new (w.alloc (.cells (vrow o v s c k t n p) 26)) 26 false 0 0 0 0 false false 0; simpa using this
  have z0 : w0.frozen? ⟨w.heap.size + 1, 0, none⟩ = false := by rw [HW.out]; simp
  have z1 : w0.frozen? ⟨w.heap.size + 1, 1, none⟩ = false := by rw [HW.out]; simp
  have z2 : w0.frozen? ⟨w.heap.size + 1, 2, none⟩ = false := by rw [HW.out]; simp
  have z3 : w0.frozen? ⟨w.heap.size + 1, 3, none⟩ = false := by rw [HW.out]; simp
  have z4 : w0.frozen? ⟨w.heap.size + 1, 4, none⟩ = false := by rw [HW.out]; simp
  have z5 : w0.frozen? ⟨w.heap.size + 1, 5, none⟩ = false := by rw [HW.out]; simp
  have z6 : w0.frozen? ⟨w.heap.size + 1, 6, none⟩ = false := by rw [HW.out]; simp
  have z7 : w0.frozen? ⟨w.heap.size + 1, 7, none⟩ = false := by rw [HW.out]; simp
  go_enter Tryd.func12, Tryd.ntmps12
  go_wp2_with (first | (go_at_call 22; refine (is_csr _ _).mono ?_; rintro e w' ⟨rfl, rfl⟩; rw [HI]))
  rw [← HW.out]
  clear HW
  go_region_with (first | (go_at_call 23; refine Calls.mono (TB.out _) ?_; rintro x9 w9 ⟨rfl, hbb⟩; (first | replace hb := hb.trans (hbb.mono hb.size) | replace hb := hb.drew.trans (hbb.mono hb.drew.size)); replace z0 := kept_free hbb r0 z0; replace z1 := kept_free hbb r1 z1; replace z2 := kept_free hbb r2 z2; replace z3 := kept_free hbb r3 z3; replace z4 := kept_free hbb r4 z4; replace z5 := kept_free hbb r5 z5; replace z6 := kept_free hbb r6 z6; replace z7 := kept_free hbb r7 z7; replace c0 := kept_cell hbb c0; replace r0 := kept_cell hbb r0; replace c1 := kept_cell hbb c1; replace r1 := kept_cell hbb r1; replace c2 := kept_cell hbb c2; replace r2 := kept_cell hbb r2; replace c3 := kept_cell hbb c3; replace r3 := kept_cell hbb r3; replace c4 := kept_cell hbb c4; replace r4 := kept_cell hbb r4; replace c5 := kept_cell hbb c5; replace r5 := kept_cell hbb r5; replace c6 := kept_cell hbb c6; replace r6 := kept_cell hbb r6; replace c7 := kept_cell hbb c7; replace r7 := kept_cell hbb r7; clear hbb) | (go_at_call 40; refine Calls.mono (RD.out _) ?_; rintro x9 w9 ⟨rfl, hbb⟩; (first | replace hb := hb.trans (hbb.mono hb.size) | replace hb := hb.drew.trans (hbb.mono hb.drew.size)); replace z0 := kept_free hbb r0 z0; replace z1 := kept_free hbb r1 z1; replace z2 := kept_free hbb r2 z2; replace z3 := kept_free hbb r3 z3; replace z4 := kept_free hbb r4 z4; replace z5 := kept_free hbb r5 z5; replace z6 := kept_free hbb r6 z6; replace z7 := kept_free hbb r7 z7; replace c0 := kept_cell hbb c0; replace r0 := kept_cell hbb r0; replace c1 := kept_cell hbb c1; replace r1 := kept_cell hbb r1; replace c2 := kept_cell hbb c2; replace r2 := kept_cell hbb r2; replace c3 := kept_cell hbb c3; replace r3 := kept_cell hbb r3; replace c4 := kept_cell hbb c4; replace r4 := kept_cell hbb r4; replace c5 := kept_cell hbb c5; replace r5 := kept_cell hbb r5; replace c6 := kept_cell hbb c6; replace r6 := kept_cell hbb r6; replace c7 := kept_cell hbb c7; replace r7 := kept_cell hbb r7; clear hbb))
  all_goals go_wp2
  all_goals
    have hs := set8 ⟨r0, r1, r2, r3, r4, r5, r6, r7⟩ o v s c k b n p
    have hB := below8 hb (Nat.le_succ _) (.bool o) (.int .u32 v) (.int .u32 s) (.int .u32 c) (.int .u32 k) (.bool b) (.bool n) (.int .u32 p)
    clear c0 c1 c2 c3 c4 c5 c6 c7 r0 r1 r2 r3 r4 r5 r6 r7 z0 z1 z2 z3 z4 z5 z6 z7 hb
    revert hs hB
    generalize ((((((((w9).setCell ⟨w.heap.size + 1, 0, none⟩ (.bool o)).setCell ⟨w.heap.size + 1, 1, none⟩ (.int .u32 v)).setCell ⟨w.heap.size + 1, 2, none⟩ (.int .u32 s)).setCell ⟨w.heap.size + 1, 3, none⟩ (.int .u32 c)).setCell ⟨w.heap.size + 1, 4, none⟩ (.int .u32 k)).setCell ⟨w.heap.size + 1, 5, none⟩ (.bool b)).setCell ⟨w.heap.size + 1, 6, none⟩ (.bool n)).setCell ⟨w.heap.size + 1, 7, none⟩ (.int .u32 p) = W
    intro hs hB
    obtain ⟨c0, c1, c2, c3, c4, c5, c6, c7⟩ := hs
    exact bodyPost_ret (v := .tuple #[vrt o v s c k b n p, .bool true]) (by simp [results, Tryd.results12, go_sem, c0, c1, c2, c3, c4, c5, c6, c7]) rfl ⟨rfl, hB⟩
end Go.Proofs.YthohemncfdjdeaaDoor
