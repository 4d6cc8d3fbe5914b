/-
  At all costs and every access AccessCost answers as its model: the law FnExactAccessCost returns true and its arguments read as before. No conditions.
  Built over the program of the commit that COMMIT names.
-/
import Derived.Test.YtikaekmnclgflaaRows
import Derived.WalkKit
import Derived.ProofKit
import Derived.OpenShut
import Derived.Below
import Derived.Test.YtikaekmnclgflaaAcc
import Derived.Test.YtikaekmnclgflaaCop
import Derived.ShutString
import Derived.Deep.RegionHeld3
namespace Go.Proofs.Ytikaekmnclgflaa.fnExactAccessCost
open Go.ChangeShapes Go.WideShapes Go.ChangeAt Go.RowKit
set_option linter.unusedVariables false

theorem own : ownKnob Try.prog.godebug = none := by kernel_rfl

/-! ### The walk -/
theorem cell_alloc {w : World} {a : Addr} {v : Value} {o : Obj} (h : w.cell? a = some v) : (w.alloc o).cell? a = some v :=
  (((Below.refl _ w).alloc (Nat.le_refl _) o).cell (World.block_lt_of_cell? w _ h)).trans h
theorem cell_kept {w w' : World} {p : Addr} {v : Value} (hb : Below w.heap.size w w') (h : w.cell? p = some v) : w'.cell? p = some v :=
  (hb.cell (World.block_lt_of_cell? w _ h)).trans h
theorem to_access (x y z : Bool) (w : World) : Calls Try.prog 10 #[acc x y z] w fun r w' => r = .returned (acc x y z) ∧ Below w.heap.size w w' := by
  go_enter Try.func10, Try.ntmps10
  go_wp2
  exact bodyPost_ret (v := acc x y z) (by simp [results, Try.results10, go_sem]) rfl ⟨rfl, (((Below.refl _ _).alloc (Nat.le_refl _) _).alloc (by simp) _).alloc (by simp; omega) _⟩
set_option maxHeartbeats 1000000 in
theorem walk (b m e s k t l : Int) (x y z : Bool) (w : World) :
    Calls Try.prog 4 #[cst b m e s k t l, acc x y z] w fun e w' => e = .returned (.bool true) ∧ Below w.heap.size w w' := by
  obtain ⟨q, HQ⟩ : ∃ q : Int, Hid (accessCost b m e s k t l x y z = q) := ⟨_, rfl⟩
  have SP : Hid (∀ w, Calls Try.prog 9 #[cst b m e s k t l, acc x y z] w fun r w' => r = .returned (.int .i64 q) ∧ Below w.heap.size w w') := fun w => by rw [← HQ.out]; exact spec_access b m e s k t l x y z w
  have IM : Hid (∀ w, Calls Try.prog 11 #[cst b m e s k t l, acc x y z] w fun r w' => r = .returned (.int .i64 q) ∧ Below w.heap.size w w') := fun w => by rw [← HQ.out]; exact impl_access b m e s k t l x y z w
  obtain ⟨w0, HW⟩ : ∃ w0, Hid (w0 = (w.alloc (crow 23 b m e s k t l)).alloc (.cells #[.bool x, .bool y, .bool z] 29)) := ⟨_, rfl⟩
  have hb : Below w.heap.size w w0 := by rw [HW.out]; exact ((Below.refl _ _).alloc (Nat.le_refl _) _).alloc (by simp) _
  have hr : ∀ i v, (#[.int .i64 b, .int .i64 m, .int .i64 e, .int .i64 s, .int .i64 k, .int .i64 t, .int .i64 l] : Array Value)[i]? = some v → w0.cell? ⟨w.heap.size, i, none⟩ = some v := fun i v h => by
    rw [HW.out]; exact cell_alloc (new_cell w _ 23 i v h)
  have ha : ∀ i v, (#[.bool x, .bool y, .bool z] : Array Value)[i]? = some v → w0.cell? ⟨w.heap.size + 1, i, none⟩ = some v := fun i v h => by
    rw [HW.out]; have := new_cell (w.alloc (crow 23 b m e s k t l)) _ 29 i v h; simpa using this
  have c0 := hr 0 _ rfl
  have c1 := hr 1 _ rfl
  have c2 := hr 2 _ rfl
  have c3 := hr 3 _ rfl
  have c4 := hr 4 _ rfl
  have c5 := hr 5 _ rfl
  have c6 := hr 6 _ rfl
  have a0 := ha 0 _ rfl
  have a1 := ha 1 _ rfl
  have a2 := ha 2 _ rfl
  clear hr ha
  go_enter Try.func4, Try.ntmps4
  go_wp2
  rw [← HW.out]
  clear HW
  go_region_held3 (fun w' => w'.cell? ⟨w.heap.size, 0, none⟩ = some (.int .i64 b) ∧ w'.cell? ⟨w.heap.size, 1, none⟩ = some (.int .i64 m) ∧ w'.cell? ⟨w.heap.size, 2, none⟩ = some (.int .i64 e) ∧ w'.cell? ⟨w.heap.size, 3, none⟩ = some (.int .i64 s) ∧ w'.cell? ⟨w.heap.size, 4, none⟩ = some (.int .i64 k) ∧ w'.cell? ⟨w.heap.size, 5, none⟩ = some (.int .i64 t) ∧ w'.cell? ⟨w.heap.size, 6, none⟩ = some (.int .i64 l) ∧ w'.cell? ⟨w.heap.size + 1, 0, none⟩ = some (.bool x) ∧ w'.cell? ⟨w.heap.size + 1, 1, none⟩ = some (.bool y) ∧ w'.cell? ⟨w.heap.size + 1, 2, none⟩ = some (.bool z)) (first | exact ⟨c0, c1, c2, c3, c4, c5, c6, a0, a1, a2⟩) (first | (go_at_call 7; refine Calls.mono (to_costs b m e s k t l _) ?_; rintro x w9 ⟨rfl, hbb⟩; (first | replace hb := hb.trans (hbb.mono hb.size) | replace hb := hb.drew.trans (hbb.mono hb.drew.size)); replace c0 := cell_kept hbb c0; replace c1 := cell_kept hbb c1; replace c2 := cell_kept hbb c2; replace c3 := cell_kept hbb c3; replace c4 := cell_kept hbb c4; replace c5 := cell_kept hbb c5; replace c6 := cell_kept hbb c6; replace a0 := cell_kept hbb a0; replace a1 := cell_kept hbb a1; replace a2 := cell_kept hbb a2; clear hbb) | (go_at_call 10; refine Calls.mono (to_access x y z _) ?_; rintro x w9 ⟨rfl, hbb⟩; (first | replace hb := hb.trans (hbb.mono hb.size) | replace hb := hb.drew.trans (hbb.mono hb.drew.size)); replace c0 := cell_kept hbb c0; replace c1 := cell_kept hbb c1; replace c2 := cell_kept hbb c2; replace c3 := cell_kept hbb c3; replace c4 := cell_kept hbb c4; replace c5 := cell_kept hbb c5; replace c6 := cell_kept hbb c6; replace a0 := cell_kept hbb a0; replace a1 := cell_kept hbb a1; replace a2 := cell_kept hbb a2; clear hbb) | (go_at_call 9; refine Calls.mono (SP.out _) ?_; rintro x w9 ⟨rfl, hbb⟩; (first | replace hb := hb.trans (hbb.mono hb.size) | replace hb := hb.drew.trans (hbb.mono hb.drew.size)); replace c0 := cell_kept hbb c0; replace c1 := cell_kept hbb c1; replace c2 := cell_kept hbb c2; replace c3 := cell_kept hbb c3; replace c4 := cell_kept hbb c4; replace c5 := cell_kept hbb c5; replace c6 := cell_kept hbb c6; replace a0 := cell_kept hbb a0; replace a1 := cell_kept hbb a1; replace a2 := cell_kept hbb a2; clear hbb))
  all_goals go_wp2
  all_goals go_region_held3 (fun w' => w'.cell? ⟨w.heap.size, 0, none⟩ = some (.int .i64 b) ∧ w'.cell? ⟨w.heap.size, 1, none⟩ = some (.int .i64 m) ∧ w'.cell? ⟨w.heap.size, 2, none⟩ = some (.int .i64 e) ∧ w'.cell? ⟨w.heap.size, 3, none⟩ = some (.int .i64 s) ∧ w'.cell? ⟨w.heap.size, 4, none⟩ = some (.int .i64 k) ∧ w'.cell? ⟨w.heap.size, 5, none⟩ = some (.int .i64 t) ∧ w'.cell? ⟨w.heap.size, 6, none⟩ = some (.int .i64 l) ∧ w'.cell? ⟨w.heap.size + 1, 0, none⟩ = some (.bool x) ∧ w'.cell? ⟨w.heap.size + 1, 1, none⟩ = some (.bool y) ∧ w'.cell? ⟨w.heap.size + 1, 2, none⟩ = some (.bool z)) (first | exact ⟨c0, c1, c2, c3, c4, c5, c6, a0, a1, a2⟩) (first | (go_at_call 7; refine Calls.mono (to_costs b m e s k t l _) ?_; rintro x w9 ⟨rfl, hbb⟩; (first | replace hb := hb.trans (hbb.mono hb.size) | replace hb := hb.drew.trans (hbb.mono hb.drew.size)); replace c0 := cell_kept hbb c0; replace c1 := cell_kept hbb c1; replace c2 := cell_kept hbb c2; replace c3 := cell_kept hbb c3; replace c4 := cell_kept hbb c4; replace c5 := cell_kept hbb c5; replace c6 := cell_kept hbb c6; replace a0 := cell_kept hbb a0; replace a1 := cell_kept hbb a1; replace a2 := cell_kept hbb a2; clear hbb) | (go_at_call 10; refine Calls.mono (to_access x y z _) ?_; rintro x w9 ⟨rfl, hbb⟩; (first | replace hb := hb.trans (hbb.mono hb.size) | replace hb := hb.drew.trans (hbb.mono hb.drew.size)); replace c0 := cell_kept hbb c0; replace c1 := cell_kept hbb c1; replace c2 := cell_kept hbb c2; replace c3 := cell_kept hbb c3; replace c4 := cell_kept hbb c4; replace c5 := cell_kept hbb c5; replace c6 := cell_kept hbb c6; replace a0 := cell_kept hbb a0; replace a1 := cell_kept hbb a1; replace a2 := cell_kept hbb a2; clear hbb) | (go_at_call 11; refine Calls.mono (IM.out _) ?_; rintro x w9 ⟨rfl, hbb⟩; (first | replace hb := hb.trans (hbb.mono hb.size) | replace hb := hb.drew.trans (hbb.mono hb.drew.size)); replace c0 := cell_kept hbb c0; replace c1 := cell_kept hbb c1; replace c2 := cell_kept hbb c2; replace c3 := cell_kept hbb c3; replace c4 := cell_kept hbb c4; replace c5 := cell_kept hbb c5; replace c6 := cell_kept hbb c6; replace a0 := cell_kept hbb a0; replace a1 := cell_kept hbb a1; replace a2 := cell_kept hbb a2; clear hbb))
  all_goals go_wp2
  all_goals go_ret
  all_goals exact ⟨rfl, hb⟩

/-! ### The row -/
set_option maxRecDepth 100000 in
theorem lifted (os : Os) (started : os.Started) (H : Type) (enc : TypeId × Value → H) :
    ReturnsInHanded {} Try.checked os 4 .any (Rows.fnExactAccessCostSpec.pre6 enc Try.prog Try.f4 Rows.fnExactAccessCostRow.domain false) (Rows.fnExactAccessCostSpec.post enc Try.prog Try.f4 false true false false) := by
  refine returnsInHanded_of_change (C := Try.checked) own started (by kernel_rfl) Try.func4
    (ChangeSpec.witness6 (enc := enc) (C := Try.checked) false ⟨#[], #[cst 0 0 0 0 0 0 0, acc false false false], []⟩ 8 (by kernel_rfl) (by kernel_rfl) (by kernel_rfl) (by kernel_rfl)) ?_
  intro W base args ds gs before hval0 hW hcnd _
  have hval : ∀ (j : Nat) t v, Try.f4.params[j]? = some t → args[j]? = some v → Value.okWide Try.prog W .any base t v := hval0
  have hW' := hW
  obtain ⟨p, q, hA0, hV, rfl, hfz, hnd⟩ := hW
  have hA : DataW.TrodAll enc Try.prog W 0 (fun _ => true) true Try.f4.params.toList args.toList ds p := hA0
  rw [Try.params4] at hA hval
  obtain ⟨v0, vs0, d0, ds0, p0, q0, hargs, rfl, rfl, h0, r0⟩ := trodAll_cons hA
  obtain ⟨v1, vs1, d1, ds1, p1, q1, rfl, rfl, rfl, h1, r1⟩ := trodAll_cons r0
  obtain ⟨rfl, rfl, rfl⟩ := trodAll_nil r1
  obtain rfl : args = #[v0, v1] := by cases args; simp_all
  obtain ⟨rfl, rfl⟩ := trodVars_none hV
  obtain ⟨b, m, e, s, k, t, l, rfl, rfl, rfl, w0⟩ := cst_open (hval 0 23 v0 rfl rfl) h0
  obtain ⟨x, y, z, rfl, rfl, rfl⟩ := acc_open (hval 1 29 v1 rfl rfl) h1
  clear hA0 hval0
  simp only [List.append_nil] at hW'
  refine (walk b m e s k t l x y z W).mono fun e W' ⟨he, bel⟩ => ?_
  subst he
  exact ⟨_, rfl, _, _, _, [], [], [], hW', (trodAll_cons_mk (shut_bool Try.underlying4 _) trodAll_mk0), (trodAll_cons_mk (cst_reads w0) (trodAll_cons_mk acc_reads trodAll_mk0)), rfl, bel.frame _, fun h => by cases h⟩

theorem over : Rows.fnExactAccessCostRow.holds Try.pinned (OpenSpec.ofChange Rows.fnExactAccessCostSpec) :=
  OpenClaim.holds_of_wide 4 Try.f4 rfl rfl rfl rfl rfl rfl rfl ⟨rfl, rfl, rfl, rfl, rfl⟩ rfl rfl rfl rfl rfl (by kernel_rfl) Try.func4 (by kernel_rfl)
    (of_decide_eq_true (by kernel_rfl)) (by unfold Func.isWrapper; first | (rw [if_pos (by decide +kernel)]; kernel_rfl) | (rw [if_neg (by decide +kernel)]; exact ⟨rfl, rfl⟩))
    (fun os started H enc _ => lifted os started H enc)

end Go.Proofs.Ytikaekmnclgflaa.fnExactAccessCost
namespace Go.Proofs.Ytikaekmnclgflaa
theorem FnExactAccessCost_holds : Rows.FnExactAccessCostSaid := fnExactAccessCost.over
end Go.Proofs.Ytikaekmnclgflaa
