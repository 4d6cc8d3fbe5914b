/-
  At every instruction ShowInstr answers as its model: the law FnExactShowInstr returns true and its argument reads as before; the tied card. Condition: the tables hold what the text lays (the card ties them to it).
  Built over the program of the commit that COMMIT names.
-/
import Derived.Test.YtplbjpeejmgdaaaDoorRows
import Derived.Test.YtplbjpeejmgdaaaDoorTie
import Derived.Test.YtplbjpeejmgdaaaDoorCards
import Derived.Test.YtplbjpeejmgdaaaDoorVars
import Derived.Test.YtplbjpeejmgdaaaDoorWord
namespace Go.Proofs.YtplbjpeejmgdaaaDoor.ShowInstr
open Go.ChangeShapes Go.WideShapes Go.ChangeAt Go.WideMaps Go.WideElems Go.RowKit
open Go.ChangeMaps (open_string shut_string)
set_option linter.unusedVariables false

theorem walk_at (op a b c m : Int) (T : ByteArray) (w : World) (hT : Tabs w)
    (HS : Hid (∀ w, Calls Tryd.prog 27 #[ins op a b c m] w fun e w' => e = .returned (.string T) ∧ Below w.heap.size w w'))
    (HI : Hid (∀ w, Tabs w → Calls Tryd.prog 17 #[ins op a b c m] w fun e w' => e = .returned (.string T) ∧ Below w.heap.size w w')) :
    Calls Tryd.prog 6 #[ins op a b c m] w fun e w' => e = .returned (.bool true) ∧ Below w.heap.size w w' := by
  have HT : Hid _ := hT
  clear hT
  go_enter Tryd.func6, Tryd.ntmps6
  go_wp2_with fail
  refine (to_instr op a b c m _).mono ?_
  rintro e w1 ⟨rfl, hb1⟩
  go_wp2_with fail
  refine (HS.out _).mono ?_
  rintro e w2 ⟨rfl, hb2⟩
  have hb := ((Below.refl _ w).alloc (Nat.le_refl _) (.cells #[.int .i64 op, .int .i64 a, .int .i64 b, .int .i64 c, .int .i64 m] 48)).trans ((hb1.trans (hb2.mono hb1.size)).mono (by simp))
  have hr : ∀ i v, (#[Value.int .i64 op, .int .i64 a, .int .i64 b, .int .i64 c, .int .i64 m] : Array Value)[i]? = some v → w2.cell? ⟨w.heap.size, i, none⟩ = some v := fun i v h =>
    ((hb1.trans (hb2.mono hb1.size)).cell (p := ⟨w.heap.size, i, none⟩) (by simp)).trans (new_cell w _ 48 i v h)
  have c0 := hr 0 _ rfl
  have c1 := hr 1 _ rfl
  have c2 := hr 2 _ rfl
  have c3 := hr 3 _ rfl
  have c4 := hr 4 _ rfl
  clear hr hb1 hb2
  go_wp2_with fail
  refine (to_instr op a b c m _).mono ?_
  rintro e w3 ⟨rfl, hb3⟩
  go_wp2_with fail
  refine (HI.out _ (Tabs.below HT.out (hb.trans (hb3.mono hb.size)))).mono ?_
  rintro e w4 ⟨rfl, hb4⟩
  have hb' := (hb.trans (hb3.mono hb.size)).trans (hb4.mono (hb.trans (hb3.mono hb.size)).size)
  go_wp2
  go_ret
  exact ⟨rfl, hb'⟩
theorem walk (op a b c m : Int) (w : World) (hT : Tabs w) : Calls Tryd.prog 6 #[ins op a b c m] w fun e w' => e = .returned (.bool true) ∧ Below w.heap.size w w' := by
  cases h : instrOk op a b c m with
  | true => exact walk_at op a b c m _ w hT (fun w => spec_show op a b c m w h) (fun w hT => impl_show op a b c m w hT.1 hT.2.1 hT.2.2 h)
  | false => exact walk_at op a b c m _ w hT (fun w => spec_show_no op a b c m w h) (fun w hT => impl_show_no op a b c m w hT.1 h)

set_option maxRecDepth 100000 in
theorem lifted (os : Os) (started : os.Started) (H : Type) (enc : TypeId × Value → H) :
    ReturnsInHanded {} Tryd.checked os 6 .any (fun w args => (Rows.fnExactShowInstrSpec.pre enc Tryd.prog Tryd.f6 [] false w args ∧ laidMetH Tryd.prog laidS w) ∧ sizedMet enc Tryd.prog Tryd.f6 (OpenSpec.ofChange Rows.fnExactShowInstrSpec) false w args)
      (Rows.fnExactShowInstrSpec.post enc Tryd.prog Tryd.f6 false true false false) := by
  refine returnsInHanded_of_change_and (C := Tryd.checked) (X := fun w _ => laidMetH Tryd.prog laidS w) (fun _ _ _ hh h => h.of_heap hh) own started (by kernel_rfl) Tryd.func6
    (ChangeSpec.witness_shaped (enc := enc) (C := Tryd.checked) (os := os) (X := fun w _ => laidMetH Tryd.prog laidS w) false (World.doorLaid Tryd.prog 80 os) #[ins 0 0 0 0 0] 8 rfl (World.shaped_of_RefB (by kernel_rfl) (by kernel_rfl)) (by kernel_rfl) (by kernel_rfl) (by kernel_rfl) (show_met os _)) ?_
  intro W base args ds gs before hval0 hW _ _ hL _
  have hval : ∀ (j : Nat) t v, Tryd.f6.params[j]? = some t → args[j]? = some v → Value.okWide Tryd.prog W .any base t v := hval0
  have hW' := hW
  obtain ⟨p, q, hA0, hV, rfl, hfz, hnd⟩ := hW
  have hA : DataW.TrodAll enc Tryd.prog W 0 (fun _ => true) true Tryd.f6.params.toList args.toList ds p := hA0
  rw [Tryd.params6] at hA hval
  obtain ⟨v0, d0, rfl, rfl, h0⟩ := trodAll_one hA
  have htab := show_of_laid hL
  obtain ⟨rfl, hvars⟩ := vars_show htab hV
  obtain ⟨op, a, b, c, m, rfl, rfl, rfl, w0⟩ := ins_open (hval 0 48 v0 rfl rfl) h0
  clear hA0 hval0
  refine (walk op a b c m W (tab_of_show htab)).mono fun e W' ⟨he, bel⟩ => ?_
  subst he
  exact ⟨_, rfl, _, _, _, [], [], _, hW', (trodAll_mk1 (shut_bool Tryd.underlying4 _)), (trodAll_mk1 (ins_reads w0)), hvars W' _ bel, bel.frame _, fun h => by cases h⟩
theorem row_holds : Rows.FnExactShowInstrSaid :=
  OpenClaim.holds_of_wide 6 Tryd.f6 rfl rfl rfl rfl rfl rfl rfl ⟨rfl, rfl, rfl, rfl, rfl⟩ rfl rfl rfl rfl rfl (by kernel_rfl) Tryd.func6 (by kernel_rfl)
    (of_decide_eq_true (by kernel_rfl)) (by unfold Func.isWrapper; first | (rw [if_pos (by decide +kernel)]; kernel_rfl) | (rw [if_neg (by decide +kernel)]; exact ⟨rfl, rfl⟩))
    (fun os started H enc _ => lifted os started H enc)
end Go.Proofs.YtplbjpeejmgdaaaDoor.ShowInstr
namespace Go.Proofs.YtplbjpeejmgdaaaDoor
theorem FnExactShowInstr_holds : Rows.FnExactShowInstrCardSaid :=
  Claim7.holds_tied_plain_at .later [] [.data, .data, .data, .data, .data] true (true, "0e9a5867fcfba9d3e7e5da597f9d221a76d5b1c8bce492a4ebc560dd9f53807d") true
    ShowInstr.row_holds (fun _ h => by cases h) (by kernel_rfl) (fun _ h => by cases h) fnExactShowInstr_row_tie rfl ⟨rfl, rfl⟩ (by kernel_rfl) rfl
    (fun f fn hf hfn => by
      obtain rfl : f = 6 := Option.some.inj ((show Tryd.prog.funcNamed "loop.example/g00076/laws.FnExactShowInstr" = some 6 by kernel_rfl).symm.trans hf) |>.symm
      obtain rfl : fn = Tryd.f6 := (Option.some.inj (Tryd.func6.symm.trans hfn)).symm
      exact ⟨by kernel_rfl, fun j t ht => by
        rw [Tryd.params6] at ht
        have hm : t ∈ [48] := by simpa using Array.mem_of_getElem? ht
        have hall : ([48].all fun u => !Tryd.prog.wantsStandIn u) = true := by kernel_rfl
        exact (show Tryd.prog.wantsStandIn t = false by simpa using List.all_eq_true.1 hall t hm)⟩)
    (by kernel_rfl)

end Go.Proofs.YtplbjpeejmgdaaaDoor
