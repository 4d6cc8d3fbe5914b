/-
  At every text OpOf answers as its model: the law FnExactOpOf returns true and its argument reads as before; the tied card. Condition: the program's table of names holds what the program's text lays (the card ties it to it).
-/
import Derived.Test.YtiekejplgoomfaaDoorRows
import Derived.Test.YtiekejplgoomfaaDoorTie
import Derived.Test.YtiekejplgoomfaaDoorCards
import Derived.Test.YtiekejplgoomfaaDoorOf
namespace Go.Proofs.YtiekejplgoomfaaDoor.OpOf
open Go.ChangeShapes Go.WideShapes Go.ChangeAt Go.WideMaps Go.WideElems Go.RowKit
open Go.ChangeMaps (open_string shut_string)
set_option linter.unusedVariables false

theorem walk_any (s : ByteArray) (r : Int) (w : World) (hl : s.size ≤ 1048576)
    (HS : Hid (∀ w, Calls Tryd.prog 21 #[.string s] w fun e w' => e = .returned (.int .i64 r) ∧ Below w.heap.size w w'))
    (HI : Hid (∀ w, TabN w → Calls Tryd.prog 22 #[.string s] w fun e w' => e = .returned (.int .i64 r) ∧ w' = w)) (ht : TabN w) :
    Calls Tryd.prog 8 #[.string s] w fun e w' => e = .returned (.bool true) ∧ Below w.heap.size w w' := by
  have HT : Hid _ := ht
  clear ht
  go_enter Tryd.func8, Tryd.ntmps8
  go_wp2_with fail
  refine (HS.out _).mono ?_
  rintro e w1 ⟨rfl, hb⟩
  go_wp2_with fail
  refine (HI.out _ (TabN.below HT.out hb)).mono ?_
  rintro e w2 ⟨rfl, rfl⟩
  go_wp2
  go_ret
  exact ⟨rfl, hb⟩
theorem walk (s : ByteArray) (w0 : s.size ≤ maxLen) (w : World) (ht : TabN w) : Calls Tryd.prog 8 #[.string s] w fun e w' => e = .returned (.bool true) ∧ Below w.heap.size w w' := by
  by_cases hl : s.size ≤ 1048576
  · rcases up_or s 33 with hn | ⟨t, hk, he, hn⟩
    · exact walk_any s (-1) w hl (fun w => spec_of_miss s w hn) (fun w hT => impl_of_miss s w hT hn) ht
    · exact walk_any s t w hl (fun w => spec_of_hit s t w hk he hn) (fun w hT => impl_of_hit s t w hT hk he hn) ht
  · have hl' : 1048576 < s.size := by omega
    clear hl ht
    go_enter Tryd.func8, Tryd.ntmps8
    go_wp2
    go_ret
    exact ⟨rfl, Below.refl _ _⟩
set_option maxRecDepth 100000 in
theorem lifted (os : Os) (started : os.Started) (H : Type) (enc : TypeId × Value → H) :
    ReturnsInHanded {} Tryd.checked os 8 .any (fun w args => (Rows.fnExactOpOfSpec.pre enc Tryd.prog Tryd.f8 [] false w args ∧ laidMetH Tryd.prog laidN w) ∧ sizedMet enc Tryd.prog Tryd.f8 (OpenSpec.ofChange Rows.fnExactOpOfSpec) false w args)
      (Rows.fnExactOpOfSpec.post enc Tryd.prog Tryd.f8 false true false false) := by
  refine returnsInHanded_of_change_and (C := Tryd.checked) (X := fun w _ => laidMetH Tryd.prog laidN w) (fun _ _ _ hh h => h.of_heap hh) ownN started (by kernel_rfl) Tryd.func8
    (ChangeSpec.witness_shaped (enc := enc) (C := Tryd.checked) (os := os) (X := fun w _ => laidMetH Tryd.prog laidN w) false (World.doorLaid Tryd.prog 40 os) #[.string ⟨#[]⟩] 8 rfl (World.shaped_of_RefB (by kernel_rfl) (by kernel_rfl)) (by kernel_rfl) (by kernel_rfl) (by kernel_rfl) (names_met os _)) ?_
  intro W base args ds gs before hval0 hW _ _ hL _
  have hval : ∀ (j : Nat) t v, Tryd.f8.params[j]? = some t → args[j]? = some v → Value.okWide Tryd.prog W .any base t v := hval0
  have hW' := hW
  obtain ⟨p, q, hA0, hV, rfl, hfz, hnd⟩ := hW
  have hA : DataW.TrodAll enc Tryd.prog W 0 (fun _ => true) true Tryd.f8.params.toList args.toList ds p := hA0
  rw [Tryd.params8] at hA hval
  obtain ⟨v0, d0, rfl, rfl, h0⟩ := trodAll_one hA
  have htab := names_of_laid hL
  obtain ⟨rfl, hvars⟩ := vars_names htab hV
  obtain ⟨s, rfl, rfl, rfl, w0⟩ := open_string Tryd.underlying9 (hval 0 9 v0 rfl rfl) h0
  clear hA0 hval0
  refine (walk s w0 W (tab_of_names htab)).mono fun e W' ⟨he, bel⟩ => ?_
  subst he
  exact ⟨_, rfl, _, _, _, [], [], _, hW', (trodAll_mk1 (shut_bool Tryd.underlying4 _)), (trodAll_mk1 (shut_string Tryd.underlying9 w0)), hvars W' _ bel, bel.frame _, fun h => by cases h⟩
theorem row_holds : Rows.FnExactOpOfSaid :=
  OpenClaim.holds_of_wide 8 Tryd.f8 rfl rfl rfl rfl rfl rfl rfl ⟨rfl, rfl, rfl, rfl, rfl⟩ rfl rfl rfl rfl rfl (by kernel_rfl) Tryd.func8 (by kernel_rfl)
    (of_decide_eq_true (by kernel_rfl)) (by unfold Func.isWrapper; first | (rw [if_pos (by decide +kernel)]; kernel_rfl) | (rw [if_neg (by decide +kernel)]; exact ⟨rfl, rfl⟩))
    (fun os started H enc _ => lifted os started H enc)
end Go.Proofs.YtiekejplgoomfaaDoor.OpOf
namespace Go.Proofs.YtiekejplgoomfaaDoor
theorem FnExactOpOf_holds : Rows.FnExactOpOfCardSaid :=
  Claim7.holds_tied_plain_at .later [] [.data] true (true, "94c7ed5bde66df8b3f6272aea37d0f0177b8ed2dd29bebc01012d24a2e41d2d3") false
    OpOf.row_holds (fun _ h => by cases h) (by kernel_rfl) (fun _ h => by cases h) fnExactOpOf_row_tie rfl ⟨rfl, rfl⟩ (by kernel_rfl) rfl
    (fun f fn hf hfn => by
      obtain rfl : f = 8 := Option.some.inj ((show Tryd.prog.funcNamed "loop.example/g00076/laws.FnExactOpOf" = some 8 by kernel_rfl).symm.trans hf) |>.symm
      obtain rfl : fn = Tryd.f8 := (Option.some.inj (Tryd.func8.symm.trans hfn)).symm
      exact ⟨by kernel_rfl, fun j t ht => by
        rw [Tryd.params8] at ht
        have hm : t ∈ [9] := by simpa using Array.mem_of_getElem? ht
        have hall : ([9].all fun u => !Tryd.prog.wantsStandIn u) = true := by kernel_rfl
        exact (show Tryd.prog.wantsStandIn t = false by simpa using List.all_eq_true.1 hall t hm)⟩)
    (by kernel_rfl)

end Go.Proofs.YtiekejplgoomfaaDoor
