/-
  At every word Decode answers as its model: the law FnExactDecode returns true and its argument reads as before; the tied card. Condition: the program's table of forms holds what the program's text lays (the card ties it to it).
-/
import Derived.Test.YtiekejplgoomfaaDoorRows
import Derived.Test.YtiekejplgoomfaaDoorTie
import Derived.Test.YtiekejplgoomfaaDoorCards
import Derived.Test.YtiekejplgoomfaaDoorVars
import Derived.Test.YtiekejplgoomfaaDoorDec
namespace Go.Proofs.YtiekejplgoomfaaDoor.Decode
open Go.ChangeShapes Go.WideShapes Go.ChangeAt Go.WideMaps Go.WideElems Go.RowKit
open Go.ChangeMaps (open_string shut_string)
set_option linter.unusedVariables false

theorem eq_same (op a b c m : Int) (w : World) : Calls Tryd.prog 18 #[ins op a b c m, ins op a b c m] w fun e w' => e = .returned (.bool true) ∧ Below w.heap.size w w' := by
  go_enter Tryd.func18, Tryd.ntmps18
  go_wp2
  go_ret
  exact ⟨rfl, ((Below.refl _ w).alloc (Nat.le_refl _) _).alloc (by simp) _⟩
set_option maxHeartbeats 400000 in
theorem walk_any (x op a b c m : Int) (q : Bool) (w : World)
    (HS : Hid (∀ w, Calls Tryd.prog 16 #[.int .u32 x] w fun e w' => e = .returned (.tuple #[ins op a b c m, .bool q]) ∧ Below w.heap.size w w'))
    (HI : Hid (∀ w, Tab w → Calls Tryd.prog 17 #[.int .u32 x] w fun e w' => e = .returned (.tuple #[ins op a b c m, .bool q]) ∧ Below w.heap.size w w')) (ht : Tab w) :
    Calls Tryd.prog 6 #[.int .u32 x] w fun e w' => e = .returned (.bool true) ∧ Below w.heap.size w w' := by
  have HT : Hid _ := ht
  clear ht
  go_enter Tryd.func6, Tryd.ntmps6
  go_wp2_with fail
  refine (HS.out _).mono ?_
  rintro e w1 ⟨rfl, hb1⟩
  have hA := hb1.alloc hb1.size (row op a b c m)
  go_wp2_with fail
  refine (HI.out _ (Tab.below HT.out hA)).mono ?_
  rintro e w2 ⟨rfl, hb2⟩
  have hr : ∀ i v, (#[Value.int .i64 op, .int .i64 a, .int .i64 b, .int .i64 c, .int .i64 m] : Array Value)[i]? = some v → w2.cell? ⟨w1.heap.size, i, none⟩ = some v := fun i v h =>
    (hb2.cell (p := ⟨w1.heap.size, i, none⟩) (by simp)).trans (new_cell w1 _ 27 i v h)
  have hlt : w1.heap.size < w2.heap.size := Nat.lt_of_lt_of_le (by simp) hb2.size
  have c0 := hr 0 (.int .i64 op) rfl
  have c1 := hr 1 (.int .i64 a) rfl
  have c2 := hr 2 (.int .i64 b) rfl
  have c3 := hr 3 (.int .i64 c) rfl
  have c4 := hr 4 (.int .i64 m) rfl
  have hne : ¬ w1.heap.size = w2.heap.size := by omega
  have hB := hA.trans (hb2.mono hA.size)
  have hC := hB.alloc hB.size (row op a b c m)
  clear hr hb1 hb2 hA
  go_wp2_with fail
  refine (eq_same op a b c m _).mono ?_
  rintro e w3 ⟨rfl, hb3⟩
  have hb' := hC.trans (hb3.mono hC.size)
  cases q <;> (go_wp2; go_ret; exact ⟨rfl, hb'⟩)
theorem walk (x : Int) (w0 : (Lit.int .u32 x).wf = true) (w : World) (ht : Tab w) : Calls Tryd.prog 6 #[.int .u32 x] w fun e w' => e = .returned (.bool true) ∧ Below w.heap.size w w' := by
  obtain ⟨h0, h1⟩ := bounds_u32 w0
  cases h : instrOk (x / 67108864) (x / 4194304 % 16) (x / 262144 % 16) (x / 16384 % 16) (sx (x % 16384))
  · exact walk_any x 0 0 0 0 0 false w (fun w => spec_dec x false w h0 h1 h) (fun w ht => impl_dec x false w ht h0 h1 h) ht
  · exact walk_any x (x / 67108864) (x / 4194304 % 16) (x / 262144 % 16) (x / 16384 % 16) (sx (x % 16384)) true w (fun w => spec_dec x true w h0 h1 h) (fun w ht => impl_dec x true w ht h0 h1 h) ht
set_option maxRecDepth 100000 in
theorem lifted (os : Os) (started : os.Started) (H : Type) (enc : TypeId × Value → H) :
    ReturnsInHanded {} Tryd.checked os 6 .any (fun w args => (Rows.fnExactDecodeSpec.pre enc Tryd.prog Tryd.f6 [] false w args ∧ laidMetH Tryd.prog laidF w) ∧ sizedMet enc Tryd.prog Tryd.f6 (OpenSpec.ofChange Rows.fnExactDecodeSpec) false w args)
      (Rows.fnExactDecodeSpec.post enc Tryd.prog Tryd.f6 false true false false) := by
  refine returnsInHanded_of_change_and (C := Tryd.checked) (X := fun w _ => laidMetH Tryd.prog laidF w) (fun _ _ _ hh h => h.of_heap hh) own started (by kernel_rfl) Tryd.func6
    (ChangeSpec.witness_shaped (enc := enc) (C := Tryd.checked) (os := os) (X := fun w _ => laidMetH Tryd.prog laidF w) false (World.doorLaid Tryd.prog 40 os) #[.int .u32 0] 8 rfl (World.shaped_of_RefB (by kernel_rfl) (by kernel_rfl)) (by kernel_rfl) (by kernel_rfl) (by kernel_rfl) (forms_met os _)) ?_
  intro W base args ds gs before hval0 hW _ _ hL _
  have hval : ∀ (j : Nat) t v, Tryd.f6.params[j]? = some t → args[j]? = some v → Value.okWide Tryd.prog W .any base t v := hval0
  have hW' := hW
  obtain ⟨p, q, hA0, hV, rfl, hfz, hnd⟩ := hW
  have hA : DataW.TrodAll enc Tryd.prog W 0 (fun _ => true) true Tryd.f6.params.toList args.toList ds p := hA0
  rw [Tryd.params6] at hA hval
  obtain ⟨v0, d0, rfl, rfl, h0⟩ := trodAll_one hA
  have htab := forms_of_laid hL
  obtain ⟨rfl, hvars⟩ := vars_forms htab hV
  obtain ⟨a0, rfl, rfl, rfl, w0⟩ := open_int Tryd.underlying30 (hval 0 30 v0 rfl rfl) h0
  clear hA0 hval0
  refine (walk a0 w0 W (tab_of htab)).mono fun e W' ⟨he, bel⟩ => ?_
  subst he
  exact ⟨_, rfl, _, _, _, [], [], _, hW', (trodAll_mk1 (shut_bool Tryd.underlying4 _)), (trodAll_mk1 (shut_int Tryd.underlying30 w0)), hvars W' _ bel, bel.frame _, fun h => by cases h⟩
theorem row_holds : Rows.FnExactDecodeSaid :=
  OpenClaim.holds_of_wide 6 Tryd.f6 rfl rfl rfl rfl rfl rfl rfl ⟨rfl, rfl, rfl, rfl, rfl⟩ rfl rfl rfl rfl rfl (by kernel_rfl) Tryd.func6 (by kernel_rfl)
    (of_decide_eq_true (by kernel_rfl)) (by unfold Func.isWrapper; first | (rw [if_pos (by decide +kernel)]; kernel_rfl) | (rw [if_neg (by decide +kernel)]; exact ⟨rfl, rfl⟩))
    (fun os started H enc _ => lifted os started H enc)
end Go.Proofs.YtiekejplgoomfaaDoor.Decode
namespace Go.Proofs.YtiekejplgoomfaaDoor
theorem FnExactDecode_holds : Rows.FnExactDecodeCardSaid :=
  Claim7.holds_tied_plain_at .later [] [.data] true (true, "94c7ed5bde66df8b3f6272aea37d0f0177b8ed2dd29bebc01012d24a2e41d2d3") false
    Decode.row_holds (fun _ h => by cases h) (by kernel_rfl) (fun _ h => by cases h) fnExactDecode_row_tie rfl ⟨rfl, rfl⟩ (by kernel_rfl) rfl
    (fun f fn hf hfn => by
      obtain rfl : f = 6 := Option.some.inj ((show Tryd.prog.funcNamed "loop.example/g00076/laws.FnExactDecode" = some 6 by kernel_rfl).symm.trans hf) |>.symm
      obtain rfl : fn = Tryd.f6 := (Option.some.inj (Tryd.func6.symm.trans hfn)).symm
      exact ⟨by kernel_rfl, fun j t ht => by
        rw [Tryd.params6] at ht
        have hm : t ∈ [30] := by simpa using Array.mem_of_getElem? ht
        have hall : ([30].all fun u => !Tryd.prog.wantsStandIn u) = true := by kernel_rfl
        exact (show Tryd.prog.wantsStandIn t = false by simpa using List.all_eq_true.1 hall t hm)⟩)
    (by kernel_rfl)

end Go.Proofs.YtiekejplgoomfaaDoor
