/-
  At all virtual registers and every cycle Due answers as its model: the law FnExactDue returns true and its arguments read as before; the tied card. Condition: the library's table deBruijn32tab holds what its text lays (the card ties it to it).
-/
import Derived.Test.YthohemncfdjdeaaDoorRows
import Derived.Test.YthohemncfdjdeaaDoorTie
import Derived.Test.YthohemncfdjdeaaDoorCards
import Derived.Test.YthohemncfdjdeaaDoorVars
namespace Go.Proofs.YthohemncfdjdeaaDoor.Due
open Go.ChangeShapes Go.WideShapes Go.ChangeAt Go.WideMaps Go.WideElems Go.RowKit
open Go.ChangeMaps (open_string shut_string)
set_option linter.unusedVariables false

set_option maxHeartbeats 1000000 in
theorem walk (o : Bool) (v s c k : Int) (t n : Bool) (p y : Int) (w : World) (w0 : vrtW v s c k p) (hT : TabB w) :
    Calls Tryd.prog 3 #[vrt o v s c k t n p, .int .i64 y] w fun e w' => e = .returned (.bool true) ∧ Below w.heap.size w w' := by
  have hb : Below w.heap.size w (w.alloc (.cells (vrow o v s c k t n p) 24)) := (Below.refl _ w).alloc (Nat.le_refl _) _
  have hv : VC (w.alloc (.cells (vrow o v s c k t n p) 24)) w.heap.size o v s c k t n p := VC.new _ _ _ _ _ _ _ _ _ _
  obtain ⟨p1, p2⟩ := bounds_u32 w0.2.2.2.2
  obtain ⟨k1, k2⟩ := bounds_u32 w0.2.2.2.1
  obtain ⟨r, HR⟩ : ∃ r : Int, Hid (dueF o k t n p y = r) := ⟨_, rfl⟩
  have SP : Hid (∀ w, Calls Tryd.prog 6 #[vrt o v s c k t n p, .int .i64 y] w fun x w' => x = .returned (.int .i64 r) ∧ Below w.heap.size w w') := fun w => by rw [← HR.out]; exact spec_due o v s c k t n p y w p1 p2 k1 k2
  have IM : Hid (∀ X, Below w.heap.size w X → Calls Tryd.prog 8 #[vrt o v s c k t n p, .int .i64 y] X fun x w' => x = .returned (.int .i64 r) ∧ Below X.heap.size X w') := fun X hX => by rw [← HR.out]; exact impl_due o v s c k t n p y X p1 p2 k1 k2 (hT.below hX)
  clear p1 p2 k1 k2 w0 HR hT
  replace hb : Hid _ := hb
  replace hv : Hid _ := hv
  go_enter Tryd.func3, Tryd.ntmps3
  go_wp2_with fail
  refine (to_virt o v s c k t n p _).mono ?_
  rintro x w1 ⟨rfl, hb1⟩
  replace hv : Hid _ := hv.out.kept hb1 hv.out.lt
  replace hb : Hid _ := hb.out.trans (hb1.mono hb.out.size)
  clear hb1
  go_wp2_with fail
  refine (SP.out _).mono ?_
  rintro x w2 ⟨rfl, hb2⟩
  replace hv : Hid _ := hv.out.kept hb2 hv.out.lt
  replace hb : Hid _ := hb.out.trans (hb2.mono hb.out.size)
  clear hb2
  obtain ⟨c0, c1, c2, c3, c4, c5, c6, c7⟩ := hv.out
  go_wp2_with fail
  refine (to_virt o v s c k t n p _).mono ?_
  rintro x w3 ⟨rfl, hb3⟩
  replace hb : Hid _ := hb.out.trans (hb3.mono hb.out.size)
  clear hb3 c0 c1 c2 c3 c4 c5 c6 c7 hv
  go_wp2_with fail
  refine (IM.out _ hb.out).mono ?_
  rintro x w4 ⟨rfl, hb4⟩
  replace hb : Hid _ := hb.out.trans (hb4.mono hb.out.size)
  clear hb4
  go_wp2
  go_ret
  exact ⟨rfl, hb.out⟩

set_option maxRecDepth 100000 in
theorem lifted (os : Os) (started : os.Started) (H : Type) (enc : TypeId × Value → H) :
    ReturnsInHanded {} Tryd.checked os 3 .any (fun w args => (Rows.fnExactDueSpec.pre enc Tryd.prog Tryd.f3 [] false w args ∧ laidMetH Tryd.prog laidF w) ∧ sizedMet enc Tryd.prog Tryd.f3 (OpenSpec.ofChange Rows.fnExactDueSpec) false w args)
      (Rows.fnExactDueSpec.post enc Tryd.prog Tryd.f3 false true false false) := by
  refine returnsInHanded_of_change_and (C := Tryd.checked) (X := fun w _ => laidMetH Tryd.prog laidF w) (fun _ _ _ hh h => h.of_heap hh) own started (by kernel_rfl) Tryd.func3
    (ChangeSpec.witness_shaped (enc := enc) (C := Tryd.checked) (os := os) (X := fun w _ => laidMetH Tryd.prog laidF w) false (World.doorLaid Tryd.prog 40 os) #[vrt false 0 0 0 0 false false 0, .int .i64 0] 8 rfl (World.shaped_of_RefB (by kernel_rfl) (by kernel_rfl)) (by kernel_rfl) (by kernel_rfl) (by kernel_rfl) (forms_met os _)) ?_
  intro W base args ds gs before hval0 hW _ _ hL _
  have hval : ∀ (j : Nat) t v, Tryd.f3.params[j]? = some t → args[j]? = some v → Value.okWide Tryd.prog W .any base t v := hval0
  have hW' := hW
  obtain ⟨p, q, hA0, hV, rfl, hfz, hnd⟩ := hW
  have hA : DataW.TrodAll enc Tryd.prog W 0 (fun _ => true) true Tryd.f3.params.toList args.toList ds p := hA0
  rw [Tryd.params3] at hA hval
  obtain ⟨v0, vs0, d0, ds0, p0, q0, hargs, rfl, rfl, h0, r0⟩ := trodAll_cons hA
  obtain ⟨v1, vs1, d1, ds1, p1, q1, rfl, rfl, rfl, h1, r1⟩ := trodAll_cons r0
  obtain ⟨rfl, rfl, rfl⟩ := trodAll_nil r1
  obtain rfl : args = #[v0, v1] := by cases args; simp_all
  have htab := forms_of_laid hL
  obtain ⟨rfl, rfl⟩ := trodVars_none hV
  obtain ⟨o, v, s, c, k, t, n, p, rfl, rfl, rfl, w0⟩ := vrt_open (hval 0 24 v0 rfl rfl) h0
  obtain ⟨x1, rfl, rfl, rfl, w1⟩ := open_int Tryd.underlying3 (hval 1 3 v1 rfl rfl) h1
  clear hA0 hval0
  simp only [List.append_nil] at hW'
  refine (walk o v s c k t n p x1 W w0 (tab_of htab)).mono fun e W' ⟨he, bel⟩ => ?_
  subst he
  exact ⟨_, rfl, _, _, _, [], [], [], hW', (trodAll_cons_mk (shut_bool Tryd.underlying4 _) trodAll_mk0), (trodAll_cons_mk (vrt_reads w0) (trodAll_cons_mk (shut_int Tryd.underlying3 w1) trodAll_mk0)), rfl, bel.frame _, fun h => by cases h⟩
theorem row_holds : Rows.FnExactDueSaid :=
  OpenClaim.holds_of_wide 3 Tryd.f3 rfl rfl rfl rfl rfl rfl rfl ⟨rfl, rfl, rfl, rfl, rfl⟩ rfl rfl rfl rfl rfl (by kernel_rfl) Tryd.func3 (by kernel_rfl)
    (of_decide_eq_true (by kernel_rfl)) (by unfold Func.isWrapper; first | (rw [if_pos (by decide +kernel)]; kernel_rfl) | (rw [if_neg (by decide +kernel)]; exact ⟨rfl, rfl⟩))
    (fun os started H enc _ => lifted os started H enc)
end Go.Proofs.YthohemncfdjdeaaDoor.Due
namespace Go.Proofs.YthohemncfdjdeaaDoor
theorem FnExactDue_holds : Rows.FnExactDueCardSaid :=
  Claim7.holds_tied_plain_at .later [] [.data] true (true, "313342e5f39a0d48cf1eedb5e2d07b6a9f86bfbc63629b527275ea8e8dd3d987") false
    Due.row_holds (fun _ h => by cases h) (by kernel_rfl) (fun _ h => by cases h) fnExactDue_row_tie rfl ⟨rfl, rfl⟩ (by kernel_rfl) rfl
    (fun f fn hf hfn => by
      obtain rfl : f = 3 := Option.some.inj ((show Tryd.prog.funcNamed "loop.example/g00076/laws.FnExactDue" = some 3 by kernel_rfl).symm.trans hf) |>.symm
      obtain rfl : fn = Tryd.f3 := (Option.some.inj (Tryd.func3.symm.trans hfn)).symm
      exact ⟨by kernel_rfl, fun j t ht => by
        rw [Tryd.params3] at ht
        have hm : t ∈ [24, 3] := by simpa using Array.mem_of_getElem? ht
        have hall : ([24, 3].all fun u => !Tryd.prog.wantsStandIn u) = true := by kernel_rfl
        exact (show Tryd.prog.wantsStandIn t = false by simpa using List.all_eq_true.1 hall t hm)⟩)
    (by kernel_rfl)

end Go.Proofs.YthohemncfdjdeaaDoor
