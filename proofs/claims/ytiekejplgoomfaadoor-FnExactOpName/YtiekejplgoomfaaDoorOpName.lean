/-
  At every integer OpName answers as its model: the law FnExactOpName returns true and its argument reads as before; the tied card. Condition: the program's table of names holds what the program's text lays (the card ties it to it).
-/
import Derived.Test.YtiekejplgoomfaaDoorRows
import Derived.Test.YtiekejplgoomfaaDoorTie
import Derived.Test.YtiekejplgoomfaaDoorCards
import Derived.Test.YtiekejplgoomfaaDoorNames
namespace Go.Proofs.YtiekejplgoomfaaDoor.OpName
open Go.ChangeShapes Go.WideShapes Go.ChangeAt Go.WideMaps Go.WideElems Go.RowKit
open Go.ChangeMaps (open_string shut_string)
set_option linter.unusedVariables false

theorem walk (x : Int) (w : World) (ht : TabN w) : Calls Tryd.prog 7 #[.int .i64 x] w fun e w' => e = .returned (.bool true) ∧ Below w.heap.size w w' := by
  by_cases h : 0 ≤ x ∧ x < 33
  · obtain ⟨k, rfl⟩ := Int.eq_ofNat_of_zero_le h.1
    have hk : k < 33 := by omega
    have HT : Hid _ := ht
    obtain ⟨s, HF⟩ : ∃ s, Hid (nm k = s) := ⟨_, rfl⟩
    clear h ht
    go_enter Tryd.func7, Tryd.ntmps7
    go_wp2_with fail
    refine (spec_name k s _ hk HF.out).mono ?_
    rintro e w1 ⟨rfl, hb⟩
    have hc := TabN.below HT.out hb k hk
    rw [HF.out] at hc
    go_wp2_with fail
    refine (impl_name k s _ hk hc).mono ?_
    rintro e w2 ⟨rfl, rfl⟩
    go_wp2
    go_ret
    exact ⟨rfl, hb⟩
  · have H1 : Hid _ := h
    have H2 : Hid (¬ (0 ≤ x ∧ x ≤ 32)) := fun g => h ⟨g.1, by omega⟩
    clear h ht
    go_enter Tryd.func7, Tryd.ntmps7
    go_wp2_with fail
    refine (spec_name_no x _ H2.out).mono ?_
    rintro e w1 ⟨rfl, rfl⟩
    go_wp2_with fail
    refine (impl_name_no x _ H1.out).mono ?_
    rintro e w2 ⟨rfl, rfl⟩
    go_wp2
    go_ret
    exact ⟨rfl, Below.refl _ _⟩
set_option maxRecDepth 100000 in
theorem lifted (os : Os) (started : os.Started) (H : Type) (enc : TypeId × Value → H) :
    ReturnsInHanded {} Tryd.checked os 7 .any (fun w args => (Rows.fnExactOpNameSpec.pre enc Tryd.prog Tryd.f7 [] false w args ∧ laidMetH Tryd.prog laidN w) ∧ sizedMet enc Tryd.prog Tryd.f7 (OpenSpec.ofChange Rows.fnExactOpNameSpec) false w args)
      (Rows.fnExactOpNameSpec.post enc Tryd.prog Tryd.f7 false true false false) := by
  refine returnsInHanded_of_change_and (C := Tryd.checked) (X := fun w _ => laidMetH Tryd.prog laidN w) (fun _ _ _ hh h => h.of_heap hh) ownN started (by kernel_rfl) Tryd.func7
    (ChangeSpec.witness_shaped (enc := enc) (C := Tryd.checked) (os := os) (X := fun w _ => laidMetH Tryd.prog laidN w) false (World.doorLaid Tryd.prog 40 os) #[.int .i64 0] 8 rfl (World.shaped_of_RefB (by kernel_rfl) (by kernel_rfl)) (by kernel_rfl) (by kernel_rfl) (by kernel_rfl) (names_met os _)) ?_
  intro W base args ds gs before hval0 hW _ _ hL _
  have hval : ∀ (j : Nat) t v, Tryd.f7.params[j]? = some t → args[j]? = some v → Value.okWide Tryd.prog W .any base t v := hval0
  have hW' := hW
  obtain ⟨p, q, hA0, hV, rfl, hfz, hnd⟩ := hW
  have hA : DataW.TrodAll enc Tryd.prog W 0 (fun _ => true) true Tryd.f7.params.toList args.toList ds p := hA0
  rw [Tryd.params7] at hA hval
  obtain ⟨v0, d0, rfl, rfl, h0⟩ := trodAll_one hA
  have htab := names_of_laid hL
  obtain ⟨rfl, hvars⟩ := vars_names htab hV
  obtain ⟨a0, rfl, rfl, rfl, w0⟩ := open_int Tryd.underlying3 (hval 0 3 v0 rfl rfl) h0
  clear hA0 hval0
  refine (walk a0 W (tab_of_names htab)).mono fun e W' ⟨he, bel⟩ => ?_
  subst he
  exact ⟨_, rfl, _, _, _, [], [], _, hW', (trodAll_mk1 (shut_bool Tryd.underlying4 _)), (trodAll_mk1 (shut_int Tryd.underlying3 w0)), hvars W' _ bel, bel.frame _, fun h => by cases h⟩
theorem row_holds : Rows.FnExactOpNameSaid :=
  OpenClaim.holds_of_wide 7 Tryd.f7 rfl rfl rfl rfl rfl rfl rfl ⟨rfl, rfl, rfl, rfl, rfl⟩ rfl rfl rfl rfl rfl (by kernel_rfl) Tryd.func7 (by kernel_rfl)
    (of_decide_eq_true (by kernel_rfl)) (by unfold Func.isWrapper; first | (rw [if_pos (by decide +kernel)]; kernel_rfl) | (rw [if_neg (by decide +kernel)]; exact ⟨rfl, rfl⟩))
    (fun os started H enc _ => lifted os started H enc)
end Go.Proofs.YtiekejplgoomfaaDoor.OpName
namespace Go.Proofs.YtiekejplgoomfaaDoor
theorem FnExactOpName_holds : Rows.FnExactOpNameCardSaid :=
  Claim7.holds_tied_plain_at .later [] [.data] true (true, "94c7ed5bde66df8b3f6272aea37d0f0177b8ed2dd29bebc01012d24a2e41d2d3") false
    OpName.row_holds (fun _ h => by cases h) (by kernel_rfl) (fun _ h => by cases h) fnExactOpName_row_tie rfl ⟨rfl, rfl⟩ (by kernel_rfl) rfl
    (fun f fn hf hfn => by
      obtain rfl : f = 7 := Option.some.inj ((show Tryd.prog.funcNamed "loop.example/g00076/laws.FnExactOpName" = some 7 by kernel_rfl).symm.trans hf) |>.symm
      obtain rfl : fn = Tryd.f7 := (Option.some.inj (Tryd.func7.symm.trans hfn)).symm
      exact ⟨by kernel_rfl, fun j t ht => by
        rw [Tryd.params7] at ht
        have hm : t ∈ [3] := by simpa using Array.mem_of_getElem? ht
        have hall : ([3].all fun u => !Tryd.prog.wantsStandIn u) = true := by kernel_rfl
        exact (show Tryd.prog.wantsStandIn t = false by simpa using List.all_eq_true.1 hall t hm)⟩)
    (by kernel_rfl)

end Go.Proofs.YtiekejplgoomfaaDoor
