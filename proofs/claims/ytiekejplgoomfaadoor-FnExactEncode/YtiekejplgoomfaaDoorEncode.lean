/-
  At every instruction Encode answers as its model: the law FnExactEncode returns true and its argument reads as before; the tied card. Condition: the program's table of forms holds what the program's text lays (the card ties it to it).
-/
import Derived.Test.YtiekejplgoomfaaDoorRows
import Derived.Test.YtiekejplgoomfaaDoorTie
import Derived.Test.YtiekejplgoomfaaDoorCards
import Derived.Test.YtiekejplgoomfaaDoorVars
import Derived.Test.YtiekejplgoomfaaDoorEnc
namespace Go.Proofs.YtiekejplgoomfaaDoor.Encode
open Go.ChangeShapes Go.WideShapes Go.ChangeAt Go.WideMaps Go.WideElems Go.RowKit
open Go.ChangeMaps (open_string shut_string)
set_option linter.unusedVariables false

set_option maxHeartbeats 400000 in
theorem walk_any (X : Int) (q : Bool) (op a b c m : Int) (w : World)
    (HS : Hid (∀ w, Calls Tryd.prog 14 #[ins op a b c m] w fun e w' => e = .returned (.tuple #[.int .u32 X, .bool q]) ∧ Below w.heap.size w w'))
    (HI : Hid (∀ w, Tab w → Calls Tryd.prog 15 #[ins op a b c m] w fun e w' => e = .returned (.tuple #[.int .u32 X, .bool q]) ∧ Below w.heap.size w w')) (ht : Tab w) :
    Calls Tryd.prog 5 #[ins op a b c m] w fun e w' => e = .returned (.bool true) ∧ Below w.heap.size w w' := by
  have HT : Hid _ := ht
  clear ht
  go_enter Tryd.func5, Tryd.ntmps5
  go_wp2_with fail
  refine (to_instr op a b c m _).mono ?_
  rintro e w1 ⟨rfl, hb1⟩
  go_wp2_with fail
  refine (HS.out _).mono ?_
  rintro e w2 ⟨rfl, hb2⟩
  have hb := ((Below.refl _ w).alloc (Nat.le_refl _) (.cells #[.int .i64 op, .int .i64 a, .int .i64 b, .int .i64 c, .int .i64 m] 25)).trans ((hb1.trans (hb2.mono hb1.size)).mono (by simp))
  have hr : ∀ i v, (#[Value.int .i64 op, .int .i64 a, .int .i64 b, .int .i64 c, .int .i64 m] : Array Value)[i]? = some v → w2.cell? ⟨w.heap.size, i, none⟩ = some v := fun i v h =>
    ((hb1.trans (hb2.mono hb1.size)).cell (p := ⟨w.heap.size, i, none⟩) (by simp)).trans (new_cell w _ 25 i v h)
  have c0 := hr 0 (.int .i64 op) rfl
  have c1 := hr 1 (.int .i64 a) rfl
  have c2 := hr 2 (.int .i64 b) rfl
  have c3 := hr 3 (.int .i64 c) rfl
  have c4 := hr 4 (.int .i64 m) rfl
  clear hr hb1 hb2
  go_wp2_with fail
  refine (to_instr op a b c m _).mono ?_
  rintro e w3 ⟨rfl, hb3⟩
  go_wp2_with fail
  refine (HI.out _ (Tab.below HT.out (hb.trans (hb3.mono hb.size)))).mono ?_
  rintro e w4 ⟨rfl, hb4⟩
  have hb' := (hb.trans (hb3.mono hb.size)).trans (hb4.mono (hb.trans (hb3.mono hb.size)).size)
  cases q <;> (go_wp2; go_ret; exact ⟨rfl, hb'⟩)
theorem walk (op a b c m : Int) (w : World) (ht : Tab w) : Calls Tryd.prog 5 #[ins op a b c m] w fun e w' => e = .returned (.bool true) ∧ Below w.heap.size w w' := by
  cases h : instrOk op a b c m
  · exact walk_any 0 false op a b c m w (fun w => spec_enc_no op a b c m w h) (fun w ht => impl_enc_no op a b c m w ht h) ht
  · exact walk_any (code op a b c m) true op a b c m w (fun w => spec_enc op a b c m w h) (fun w ht => impl_enc op a b c m w ht h) ht
set_option maxRecDepth 100000 in
theorem lifted (os : Os) (started : os.Started) (H : Type) (enc : TypeId × Value → H) :
    ReturnsInHanded {} Tryd.checked os 5 .any (fun w args => (Rows.fnExactEncodeSpec.pre enc Tryd.prog Tryd.f5 [] false w args ∧ laidMetH Tryd.prog laidF w) ∧ sizedMet enc Tryd.prog Tryd.f5 (OpenSpec.ofChange Rows.fnExactEncodeSpec) false w args)
      (Rows.fnExactEncodeSpec.post enc Tryd.prog Tryd.f5 false true false false) := by
  refine returnsInHanded_of_change_and (C := Tryd.checked) (X := fun w _ => laidMetH Tryd.prog laidF w) (fun _ _ _ hh h => h.of_heap hh) own started (by kernel_rfl) Tryd.func5
    (ChangeSpec.witness_shaped (enc := enc) (C := Tryd.checked) (os := os) (X := fun w _ => laidMetH Tryd.prog laidF w) false (World.doorLaid Tryd.prog 40 os) #[ins 0 0 0 0 0] 8 rfl (World.shaped_of_RefB (by kernel_rfl) (by kernel_rfl)) (by kernel_rfl) (by kernel_rfl) (by kernel_rfl) (forms_met os _)) ?_
  intro W base args ds gs before hval0 hW _ _ hL _
  have hval : ∀ (j : Nat) t v, Tryd.f5.params[j]? = some t → args[j]? = some v → Value.okWide Tryd.prog W .any base t v := hval0
  have hW' := hW
  obtain ⟨p, q, hA0, hV, rfl, hfz, hnd⟩ := hW
  have hA : DataW.TrodAll enc Tryd.prog W 0 (fun _ => true) true Tryd.f5.params.toList args.toList ds p := hA0
  rw [Tryd.params5] at hA hval
  obtain ⟨v0, d0, rfl, rfl, h0⟩ := trodAll_one hA
  have htab := forms_of_laid hL
  obtain ⟨rfl, hvars⟩ := vars_forms htab hV
  obtain ⟨op, a, b, c, m, rfl, rfl, rfl, w0⟩ := ins_open (hval 0 25 v0 rfl rfl) h0
  clear hA0 hval0
  refine (walk op a b c m W (tab_of htab)).mono fun e W' ⟨he, bel⟩ => ?_
  subst he
  exact ⟨_, rfl, _, _, _, [], [], _, hW', (trodAll_mk1 (shut_bool Tryd.underlying4 _)), (trodAll_mk1 (ins_reads w0)), hvars W' _ bel, bel.frame _, fun h => by cases h⟩
theorem row_holds : Rows.FnExactEncodeSaid :=
  OpenClaim.holds_of_wide 5 Tryd.f5 rfl rfl rfl rfl rfl rfl rfl ⟨rfl, rfl, rfl, rfl, rfl⟩ rfl rfl rfl rfl rfl (by kernel_rfl) Tryd.func5 (by kernel_rfl)
    (of_decide_eq_true (by kernel_rfl)) (by unfold Func.isWrapper; first | (rw [if_pos (by decide +kernel)]; kernel_rfl) | (rw [if_neg (by decide +kernel)]; exact ⟨rfl, rfl⟩))
    (fun os started H enc _ => lifted os started H enc)
end Go.Proofs.YtiekejplgoomfaaDoor.Encode
namespace Go.Proofs.YtiekejplgoomfaaDoor
theorem FnExactEncode_holds : Rows.FnExactEncodeCardSaid :=
  Claim7.holds_tied_plain_at .later [] [.data] true (true, "94c7ed5bde66df8b3f6272aea37d0f0177b8ed2dd29bebc01012d24a2e41d2d3") false
    Encode.row_holds (fun _ h => by cases h) (by kernel_rfl) (fun _ h => by cases h) fnExactEncode_row_tie rfl ⟨rfl, rfl⟩ (by kernel_rfl) rfl
    (fun f fn hf hfn => by
      obtain rfl : f = 5 := Option.some.inj ((show Tryd.prog.funcNamed "loop.example/g00076/laws.FnExactEncode" = some 5 by kernel_rfl).symm.trans hf) |>.symm
      obtain rfl : fn = Tryd.f5 := (Option.some.inj (Tryd.func5.symm.trans hfn)).symm
      exact ⟨by kernel_rfl, fun j t ht => by
        rw [Tryd.params5] at ht
        have hm : t ∈ [25] := by simpa using Array.mem_of_getElem? ht
        have hall : ([25].all fun u => !Tryd.prog.wantsStandIn u) = true := by kernel_rfl
        exact (show Tryd.prog.wantsStandIn t = false by simpa using List.all_eq_true.1 hall t hm)⟩)
    (by kernel_rfl)

end Go.Proofs.YtiekejplgoomfaaDoor
