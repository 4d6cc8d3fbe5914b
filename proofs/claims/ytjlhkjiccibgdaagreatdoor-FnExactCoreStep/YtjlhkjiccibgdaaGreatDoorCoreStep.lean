/-
  What the laid table of forms gives a walk, and that it reads as before behind one: plain facts on the program's variable. Condition: the variable reads as the program's text lays it.
  At every list of windows, every guest and every cycle CoreStep answers as its model, in memory of its own, and leaves its arguments as they were: the law FnExactCoreStep returns true and its arguments read as before; the tied card. Condition: the program's table of forms holds what the program's text lays there.
  Built over the program of the commit that COMMIT names.
-/
import Derived.Test.YtjlhkjiccibgdaaGreatDoorRows
import Derived.Test.YtjlhkjiccibgdaaGreatDoorIsa
import Derived.ProofKit
import Derived.LaidMore
import Derived.OpenShut
import Derived.Stop.Joined
import Derived.Stop.LaidErr
import Derived.SevenTiedAt
import Derived.Lib.LaidTab
import Derived.ChangeVars
import Derived.Test.YtjlhkjiccibgdaaGreatDoorTie
import Derived.Test.YtjlhkjiccibgdaaGreatDoorCards
import Derived.Test.YtjlhkjiccibgdaaGreatDoorClw
import Derived.Carry
import Derived.ShutString
namespace Go.Proofs.YtjlhkjiccibgdaaGreatDoor
open Go.ChangeShapes Go.WideShapes Go.ChangeAt Go.WideMaps Go.WideElems Go.RowKit
set_option linter.unusedVariables false

theorem ownK : ownKnob Tryz.prog.godebug = none := by kernel_rfl
abbrev laidF : List (String × DataW Unit) := Rows.fnExactCoreStepRow.laid
theorem gForms : Tryz.prog.globalNamed "loop.example/g00076/impl.opForms" = some 0 := by kernel_rfl
theorem tForms : (Tryz.prog.globals[0]?).map (·.type) = some 111 := by kernel_rfl
theorem forms_met (os : Os) (args : Array Value) : laidMetH Tryz.prog laidF ((World.doorLaid Tryz.prog 40 os).forCall (fun _ _ => 0) ⟨#[], args, []⟩).memory :=
  laidMetH_of_parts3 (fuel := 8) (laidMet_of_run' 8 (by kernel_rfl) (by kernel_rfl)) (by kernel_rfl) (by kernel_rfl)
theorem forms_of_laid {W : World} (h : laidMetH Tryz.prog laidF W) : Lib.TabIs Tryz.prog W "loop.example/g00076/impl.opForms" .i64 Is.forms := by
  rw [MakeChecks.laidMetH_plain _ _ _ (by kernel_rfl)] at h
  have h2 : laidMet Tryz.prog (("loop.example/g00076/impl.opForms", Lib.tabData .i64 Is.forms) :: []) W := h
  exact Lib.tabIs_of_head (g := 0) (t := 111) (e := 3) (n := 33) (by kernel_rfl) (by kernel_rfl) Tryz.underlying111 Tryz.underlying3 (by kernel_rfl) (by kernel_rfl) h2
theorem tab_of {W : World} (h : Lib.TabIs Tryz.prog W "loop.example/g00076/impl.opForms" .i64 Is.forms) : Is.Tab W := fun i hi => by
  have := World.var?_cell gForms h i
  rw [this]
  have hl : i < Is.forms.length := hi
  simp [hl]
abbrev cellsF : Array Value := (Is.forms.map fun z => Value.int .i64 z).toArray
theorem reads_forms {H : Type} (enc : TypeId × Value → H) (W : World) (sp : Nat → Bool) : DataW.trod enc Tryz.prog W 0 sp true 3 111 cellsF.toList = some (Rows.laid_loop_example_g00076_impl_opForms, []) := by kernel_rfl
theorem var_below {P : Program} {W W' : World} {n : String} {g : Nat} {cs : Array Value} (hg : P.globalNamed n = some g) (h : W.var? P n = some cs) (hlt : g < W.heap.size) (hb : Below W.heap.size W W') : W'.var? P n = some cs := by
  simp only [World.var?, hg, Option.bind_some] at h ⊢
  rw [hb.block g hlt]
  exact h
/-- The variable's reading, opened; and shut again behind a walk that leaves the blocks that were there alone. -/
theorem vars_forms {H : Type} {enc : TypeId × Value → H} {W : World} {gs : List (DataW H)} {q : List MemPlace} (h : Lib.TabIs Tryz.prog W "loop.example/g00076/impl.opForms" .i64 Is.forms)
    (hV : DataW.TrodVars enc Tryz.prog W (fun _ => true) ["loop.example/g00076/impl.opForms"] gs q) :
    gs = [Rows.laid_loop_example_g00076_impl_opForms] ∧ ∀ W' sp, Below W.heap.size W W' → DataW.TrodVars enc Tryz.prog W' sp ["loop.example/g00076/impl.opForms"] [Rows.laid_loop_example_g00076_impl_opForms] (MemPlace.row ⟨0, 0, none⟩ cellsF.size ++ [] ++ []) := by
  obtain ⟨g, t, cs, fuel, d, p', rfl, hg, ht, hvar, hd, rfl⟩ := trodVars_one hV
  obtain rfl := Option.some.inj (gForms.symm.trans hg)
  obtain rfl := Option.some.inj (tForms.symm.trans ht)
  obtain rfl : cs = cellsF := Option.some.inj (hvar.symm.trans h)
  obtain ⟨rfl, rfl⟩ := DataW.Trod.unique (v := .agg cellsF) ⟨fuel, hd⟩ ⟨3, reads_forms enc W _⟩
  refine ⟨rfl, fun W' sp hb => ⟨0, 111, cellsF, 3, [], [], hg, ht, ?_, reads_forms enc W' sp, rfl, rfl⟩⟩
  exact var_below hg hvar (World.block_lt_of_cell? W _ (tab_of h 0 (by omega))) hb
end Go.Proofs.YtjlhkjiccibgdaaGreatDoor
namespace Go.Proofs.YtjlhkjiccibgdaaGreatDoor.CoreStep
open Go.ChangeShapes Go.WideShapes Go.ChangeAt Go.WideMaps Go.WideElems Go.RowKit
set_option linter.unusedVariables false

set_option maxRecDepth 100000 in
theorem lifted (os : Os) (started : os.Started) (H : Type) (enc : TypeId × Value → H) :
    ReturnsInHanded {} Tryz.checked os 3 .any (fun w args => (Rows.fnExactCoreStepSpec.pre enc Tryz.prog Tryz.f3 [] false w args ∧ laidMetH Tryz.prog laidF w) ∧ sizedMet enc Tryz.prog Tryz.f3 (OpenSpec.ofChange Rows.fnExactCoreStepSpec) false w args)
      (Rows.fnExactCoreStepSpec.post enc Tryz.prog Tryz.f3 false true false false) := by
  refine returnsInHanded_of_change_and (C := Tryz.checked) (X := fun w _ => laidMetH Tryz.prog laidF w) (fun _ _ _ hh h => h.of_heap hh) ownK started (by kernel_rfl) Tryz.func3
    (ChangeSpec.witness_shaped (enc := enc) (C := Tryz.checked) (os := os) (X := fun w _ => laidMetH Tryz.prog laidF w) false (World.doorLaid Tryz.prog 40 os) #[.slice none 0 0, gst none 0 0 0 none 0 0, .int .i64 0] 8 rfl (World.shaped_of_RefB (by kernel_rfl) (by kernel_rfl)) (by kernel_rfl) (by kernel_rfl) (by kernel_rfl) (forms_met os _)) ?_
  intro W base args ds gs before hval0 hW _ _ hL _
  have hval : ∀ (j : Nat) t v, Tryz.f3.params[j]? = some t → args[j]? = some v → Value.okWide Tryz.prog W .any base t v := hval0
  have hW' := hW
  obtain ⟨p, q, hA0, hV, rfl, hfz, hnd⟩ := hW
  have hA : DataW.TrodAll enc Tryz.prog W 0 (fun _ => true) true Tryz.f3.params.toList args.toList ds p := hA0
  rw [Tryz.params3] at hA hval
  obtain ⟨v0, vs0, d0, ds0, p0, q0, hargs, rfl, rfl, h0, r0⟩ := trodAll_cons hA
  obtain ⟨v1, vs1, d1, ds1, p1, q1, rfl, rfl, rfl, h1, r1⟩ := trodAll_cons r0
  obtain ⟨v2, vs2, d2, ds2, p2, q2, rfl, rfl, rfl, h2, r2⟩ := trodAll_cons r1
  obtain ⟨rfl, rfl, rfl⟩ := trodAll_nil r2
  obtain rfl : args = #[v0, v1, v2] := by cases args; simp_all
  have htab := forms_of_laid hL
  obtain ⟨rfl, hvars⟩ := vars_forms htab hV
  have k0 := h0
  have lt0 : ∀ x ∈ p0, x.block < W.heap.size := by obtain ⟨m, hm⟩ := k0; exact DataW.trod_lt m _ _ _ hm
  have k1 := h1
  have lt1 : ∀ x ∈ p1, x.block < W.heap.size := by obtain ⟨m, hm⟩ := k1; exact DataW.trod_lt m _ _ _ hm
  have k2 := h2
  have lt2 : ∀ x ∈ p2, x.block < W.heap.size := by obtain ⟨m, hm⟩ := k2; exact DataW.trod_lt m _ _ _ hm
  obtain ⟨a1, xs, c1, rfl, hs1, hn1, hf1⟩ := wins_arg (hval 0 22 v0 rfl rfl) h0
  obtain ⟨ra, rs, rc, pc, ma, n, mc, D, rfl, hg⟩ := guest_arg (hval 1 27 v1 rfl rfl) h1
  obtain ⟨aCycle, rfl, rfl, rfl, w2⟩ := open_int Tryz.underlying3 (hval 2 3 v2 rfl rfl) h2
  clear hA0 hval0
  refine (core_law a1 ra ma c1 xs.length rs.length rc n mc pc aCycle xs rs D W (tab_of htab) hs1 hf1 rfl hn1 hg rfl).mono fun e W' ⟨he, bel⟩ => ?_
  subst he
  exact ⟨_, rfl, _, _, _, [], _, _, hW', (trodAll_cons_mk (shut_bool Tryz.underlying4 _) trodAll_mk0), (trodAll_cons_mk (Below.trod laidOut (by kernel_rfl) (of_decide_eq_true (by kernel_rfl)) k0 bel lt0) (trodAll_cons_mk (Below.trod laidOut (by kernel_rfl) (of_decide_eq_true (by kernel_rfl)) k1 bel lt1) (trodAll_cons_mk (Below.trod laidOut (by kernel_rfl) (of_decide_eq_true (by kernel_rfl)) k2 bel lt2) trodAll_mk0))), hvars W' _ bel, bel.frame _, fun h => by cases h⟩
theorem row_holds : Rows.FnExactCoreStepSaid :=
  OpenClaim.holds_of_wide 3 Tryz.f3 rfl rfl rfl rfl rfl rfl rfl ⟨rfl, rfl, rfl, rfl, rfl⟩ rfl rfl rfl rfl rfl (by kernel_rfl) Tryz.func3 (by kernel_rfl)
    (of_decide_eq_true (by kernel_rfl)) (by unfold Func.isWrapper; first | (rw [if_pos (by decide +kernel)]; kernel_rfl) | (rw [if_neg (by decide +kernel)]; exact ⟨rfl, rfl⟩))
    (fun os started H enc _ => lifted os started H enc)
end Go.Proofs.YtjlhkjiccibgdaaGreatDoor.CoreStep
namespace Go.Proofs.YtjlhkjiccibgdaaGreatDoor
theorem FnExactCoreStep_holds : Rows.FnExactCoreStepCardSaid :=
  Claim7.holds_tied_plain_at .later [] [.data] true (true, "d0dbb3fd7c800ea6a3750b9d05cd97da7b0f3e079901c59e1272567748d5fe23") true
    CoreStep.row_holds (fun _ h => by cases h) (by kernel_rfl) (fun _ h => by cases h) fnExactCoreStep_row_tie rfl ⟨rfl, rfl⟩ (by kernel_rfl) rfl
    (fun f fn hf hfn => by
      obtain rfl : f = 3 := Option.some.inj ((show Tryz.prog.funcNamed "loop.example/g00076/laws.FnExactCoreStep" = some 3 by kernel_rfl).symm.trans hf) |>.symm
      obtain rfl : fn = Tryz.f3 := (Option.some.inj (Tryz.func3.symm.trans hfn)).symm
      exact ⟨by kernel_rfl, fun j t ht => by
        rw [Tryz.params3] at ht
        have hm : t ∈ [22, 27, 3] := by simpa using Array.mem_of_getElem? ht
        have hall : ([22, 27, 3].all fun u => !Tryz.prog.wantsStandIn u) = true := by kernel_rfl
        exact (show Tryz.prog.wantsStandIn t = false by simpa using List.all_eq_true.1 hall t hm)⟩)
    (by kernel_rfl)
end Go.Proofs.YtjlhkjiccibgdaaGreatDoor
