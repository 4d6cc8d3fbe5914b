/-
  At all costs WorstStep answers as its model: the law FnExactWorstStep returns true and its argument reads as before; the tied card. Condition: the program's table of extras holds what the program's text lays (the card ties it to it).
-/
import Derived.Test.YtikaekmnclgflaaDoorRows
import Derived.Test.YtikaekmnclgflaaDoorTie
import Derived.Test.YtikaekmnclgflaaDoorCards
import Derived.Test.YtikaekmnclgflaaDoorVars
import Derived.Test.YtikaekmnclgflaaDoorWst
namespace Go.Proofs.YtikaekmnclgflaaDoor.WorstStep
open Go.ChangeShapes Go.WideShapes Go.ChangeAt Go.WideMaps Go.WideElems Go.RowKit
open Go.ChangeMaps (open_string shut_string)
set_option linter.unusedVariables false

set_option maxHeartbeats 1000000 in
theorem walk (b m e s k t l : Int) (w : World) (ht : TabE w) : Calls Tryd.prog 5 #[cst b m e s k t l] w fun e w' => e = .returned (.bool true) ∧ Below w.heap.size w w' := by
  obtain ⟨q, HQ⟩ : ∃ q : Int, Hid (worstStep b m e s k t l = q) := ⟨_, rfl⟩
  have SP : Hid (∀ w, Calls Tryd.prog 15 #[cst b m e s k t l] w fun r w' => r = .returned (.int .i64 q) ∧ Below w.heap.size w w') := fun w => by rw [← HQ.out]; exact spec_worstS b m e s k t l w
  have IM : Hid (∀ w, TabE w → Calls Tryd.prog 9 #[cst b m e s k t l] w fun r w' => r = .returned (.int .i64 q) ∧ Below w.heap.size w w') := fun w ht => by rw [← HQ.out]; exact impl_worstS b m e s k t l w ht
  have HT : Hid _ := ht
  clear ht
  go_enter Tryd.func5, Tryd.ntmps5
  go_wp2_with fail
  refine (to_costs b m e s k t l _).mono ?_
  rintro x w1 ⟨rfl, hb1⟩
  go_wp2_with fail
  refine (SP.out _).mono ?_
  rintro x w2 ⟨rfl, hb2⟩
  have hb := ((Below.refl _ w).alloc (Nat.le_refl _) (crow 34 b m e s k t l)).trans ((hb1.trans (hb2.mono hb1.size)).mono (by simp))
  have hr : ∀ i v, (#[.int .i64 b, .int .i64 m, .int .i64 e, .int .i64 s, .int .i64 k, .int .i64 t, .int .i64 l] : Array Value)[i]? = some v → w2.cell? ⟨w.heap.size, i, none⟩ = some v := fun i v h =>
    ((hb1.trans (hb2.mono hb1.size)).cell (p := ⟨w.heap.size, i, none⟩) (by simp)).trans (new_cell w _ 34 i v h)
  have c0 := hr 0 _ rfl
  have c1 := hr 1 _ rfl
  have c2 := hr 2 _ rfl
  have c3 := hr 3 _ rfl
  have c4 := hr 4 _ rfl
  have c5 := hr 5 _ rfl
  have c6 := hr 6 _ rfl
  have HB : Hid _ := hb
  clear hr hb1 hb2 hb
  go_wp2_with fail
  refine (to_costs b m e s k t l _).mono ?_
  rintro x w3 ⟨rfl, hb3⟩
  have HB3 : Hid _ := HB.out.trans (hb3.mono HB.out.size)
  clear hb3
  go_wp2_with fail
  refine (IM.out _ (TabE.below HT.out HB3.out)).mono ?_
  rintro x w4 ⟨rfl, hb4⟩
  have HB4 : Hid _ := HB3.out.trans (hb4.mono HB3.out.size)
  clear hb4
  go_wp2
  go_ret
  exact ⟨rfl, HB4.out⟩

set_option maxRecDepth 100000 in
theorem lifted (os : Os) (started : os.Started) (H : Type) (enc : TypeId × Value → H) :
    ReturnsInHanded {} Tryd.checked os 5 .any (fun w args => (Rows.fnExactWorstStepSpec.pre enc Tryd.prog Tryd.f5 [] false w args ∧ laidMetH Tryd.prog laidF w) ∧ sizedMet enc Tryd.prog Tryd.f5 (OpenSpec.ofChange Rows.fnExactWorstStepSpec) false w args)
      (Rows.fnExactWorstStepSpec.post enc Tryd.prog Tryd.f5 false true false false) := by
  refine returnsInHanded_of_change_and (C := Tryd.checked) (X := fun w _ => laidMetH Tryd.prog laidF w) (fun _ _ _ hh h => h.of_heap hh) own started (by kernel_rfl) Tryd.func5
    (ChangeSpec.witness_shaped (enc := enc) (C := Tryd.checked) (os := os) (X := fun w _ => laidMetH Tryd.prog laidF w) false (World.doorLaid Tryd.prog 40 os) #[cst 0 0 0 0 0 0 0] 8 rfl (World.shaped_of_RefB (by kernel_rfl) (by kernel_rfl)) (by kernel_rfl) (by kernel_rfl) (by kernel_rfl) (forms_met os _)) ?_
  intro W base args ds gs before hval0 hW _ _ hL _
  have hval : ∀ (j : Nat) t v, Tryd.f5.params[j]? = some t → args[j]? = some v → Value.okWide Tryd.prog W .any base t v := hval0
  have hW' := hW
  obtain ⟨p, q, hA0, hV, rfl, hfz, hnd⟩ := hW
  have hA : DataW.TrodAll enc Tryd.prog W 0 (fun _ => true) true Tryd.f5.params.toList args.toList ds p := hA0
  rw [Tryd.params5] at hA hval
  obtain ⟨v0, vs0, d0, ds0, p0, q0, hargs, rfl, rfl, h0, r0⟩ := trodAll_cons hA
  obtain ⟨rfl, rfl, rfl⟩ := trodAll_nil r0
  obtain rfl : args = #[v0] := by cases args; simp_all
  have htab := forms_of_laid hL
  obtain ⟨rfl, hvars⟩ := vars_forms htab hV
  obtain ⟨b, m, e, s, k, t, l, rfl, rfl, rfl, w0⟩ := cst_open (hval 0 34 v0 rfl rfl) h0
  clear hA0 hval0
  refine (walk b m e s k t l W (tab_of htab)).mono fun e W' ⟨he, bel⟩ => ?_
  subst he
  exact ⟨_, rfl, _, _, _, [], [], _, hW', (trodAll_cons_mk (shut_bool Tryd.underlying4 _) trodAll_mk0), (trodAll_cons_mk (cst_reads w0) trodAll_mk0), hvars W' _ bel, bel.frame _, fun h => by cases h⟩
theorem row_holds : Rows.FnExactWorstStepSaid :=
  OpenClaim.holds_of_wide 5 Tryd.f5 rfl rfl rfl rfl rfl rfl rfl ⟨rfl, rfl, rfl, rfl, rfl⟩ rfl rfl rfl rfl rfl (by kernel_rfl) Tryd.func5 (by kernel_rfl)
    (of_decide_eq_true (by kernel_rfl)) (by unfold Func.isWrapper; first | (rw [if_pos (by decide +kernel)]; kernel_rfl) | (rw [if_neg (by decide +kernel)]; exact ⟨rfl, rfl⟩))
    (fun os started H enc _ => lifted os started H enc)
end Go.Proofs.YtikaekmnclgflaaDoor.WorstStep
namespace Go.Proofs.YtikaekmnclgflaaDoor
theorem FnExactWorstStep_holds : Rows.FnExactWorstStepCardSaid :=
  Claim7.holds_tied_plain_at .later [] [.data] true (true, "c57d8eb2b20057bad587b1be2e0142e5089ad9809218a346eb4f5d4d0774c6fc") false
    WorstStep.row_holds (fun _ h => by cases h) (by kernel_rfl) (fun _ h => by cases h) fnExactWorstStep_row_tie rfl ⟨rfl, rfl⟩ (by kernel_rfl) rfl
    (fun f fn hf hfn => by
      obtain rfl : f = 5 := Option.some.inj ((show Tryd.prog.funcNamed "loop.example/g00076/laws.FnExactWorstStep" = some 5 by kernel_rfl).symm.trans hf) |>.symm
      obtain rfl : fn = Tryd.f5 := (Option.some.inj (Tryd.func5.symm.trans hfn)).symm
      exact ⟨by kernel_rfl, fun j t ht => by
        rw [Tryd.params5] at ht
        have hm : t ∈ [34] := by simpa using Array.mem_of_getElem? ht
        have hall : ([34].all fun u => !Tryd.prog.wantsStandIn u) = true := by kernel_rfl
        exact (show Tryd.prog.wantsStandIn t = false by simpa using List.all_eq_true.1 hall t hm)⟩)
    (by kernel_rfl)

end Go.Proofs.YtikaekmnclgflaaDoor
