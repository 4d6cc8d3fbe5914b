/-
  At every two windows Apart answers as its model: the law FnExactApart returns true and its arguments read as before. No conditions.
  Built over the program of the commit that COMMIT names.
-/
import Derived.Test.YtgeaiedflhlmdaaRows
import Derived.WalkKit
import Derived.ProofKit
import Derived.OpenShut
import Derived.Below
import Derived.Carry
import Derived.Test.YtgeaiedflhlmdaaWnl
import Derived.Test.YtgeaiedflhlmdaaApj
import Derived.ShutString
namespace Go.Proofs.Ytgeaiedflhlmdaa.fnExactApart
open Go.ChangeShapes Go.WideShapes Go.ChangeAt Go.RowKit
set_option linter.unusedVariables false

theorem own : ownKnob Try.prog.godebug = none := by kernel_rfl

/-! ### The walk -/
set_option maxHeartbeats 2000000 in
theorem walk (x y : Wn) (w : World) (hs : x.2.1 ≤ 9223372036854775807) (ht : y.2.1 ≤ 9223372036854775807) :
    Calls Try.prog 4 #[win x.1 x.2.1 x.2.2, win y.1 y.2.1 y.2.2] w fun e w' => e = .returned (.bool true) ∧ Below w.heap.size w w' := by
  obtain ⟨q, hq⟩ := told (ApartP x y)
  have HSP : Hid (∀ X, Calls Try.prog 14 #[win x.1 x.2.1 x.2.2, win y.1 y.2.1 y.2.2] X fun e w' => e = .returned (.bool q) ∧ Below X.heap.size X w') := fun X => spec_apart x y q X hq
  have HIM : Hid (∀ X, Calls Try.prog 15 #[win x.1 x.2.1 x.2.2, win y.1 y.2.1 y.2.2] X fun e w' => e = .returned (.bool q) ∧ Below X.heap.size X w') := fun X => impl_apart x y q X hs ht hq
  clear hs ht hq
  obtain ⟨x1, x2, x3⟩ := x
  obtain ⟨y1, y2, y3⟩ := y
  simp only at HSP HIM
  simp only
  have K1 := (Bk.new w #[.int .i64 x1, .int .i64 x2, .int .i64 x3] 23 w.heap.size rfl).alloc (wrow 23 y1 y2 y3)
  have K2 := Bk.new (w.alloc (wrow 23 x1 x2 x3)) #[.int .i64 y1, .int .i64 y2, .int .i64 y3] 23 (w.heap.size + 1) (by simp)
  have hb : Below w.heap.size w ((w.alloc (wrow 23 x1 x2 x3)).alloc (wrow 23 y1 y2 y3)) := ((Below.refl _ _).alloc (Nat.le_refl _) _).alloc (by simp) _
  generalize HW0 : (w.alloc (wrow 23 x1 x2 x3)).alloc (wrow 23 y1 y2 y3) = W0 at hb K1 K2
  have HB : Hid _ := hb
  have HKK : Hid _ := And.intro K1 K2
  clear hb K1 K2
  have c0 : ∀ x : Gr W0, x.w.cell? ⟨w.heap.size, 0, none⟩ = some (.int .i64 x1) := fun x => gr_cell (HKK.out.1.cell 0 _ rfl) x
  have c1 : ∀ x : Gr W0, x.w.cell? ⟨w.heap.size, 1, none⟩ = some (.int .i64 x2) := fun x => gr_cell (HKK.out.1.cell 1 _ rfl) x
  have c2 : ∀ x : Gr W0, x.w.cell? ⟨w.heap.size, 2, none⟩ = some (.int .i64 x3) := fun x => gr_cell (HKK.out.1.cell 2 _ rfl) x
  have d0 : ∀ x : Gr W0, x.w.cell? ⟨w.heap.size + 1, 0, none⟩ = some (.int .i64 y1) := fun x => gr_cell (HKK.out.2.cell 0 _ rfl) x
  have d1 : ∀ x : Gr W0, x.w.cell? ⟨w.heap.size + 1, 1, none⟩ = some (.int .i64 y2) := fun x => gr_cell (HKK.out.2.cell 1 _ rfl) x
  have d2 : ∀ x : Gr W0, x.w.cell? ⟨w.heap.size + 1, 2, none⟩ = some (.int .i64 y3) := fun x => gr_cell (HKK.out.2.cell 2 _ rfl) x
  go_enter Try.func4, Try.ntmps4
  go_wp2
  clear HW0
  have hgr := gr_some W0
  refine region_alike (by kernel_rfl) (by kernel_rfl) ?_
  repeat (go_big_quiet_step (first | (go_at_call_of 12 (Value.int IntKind.i64 x1); exact gr_call (to_win x1 x2 x3 _)) | (go_at_call_of 12 (Value.int IntKind.i64 y1); exact gr_call (to_win y1 y2 y3 _)) | (go_at_call 14; exact gr_call (HSP.out _))))
  refine wpQuiet_nil ?_
  intro _ hw'
  obtain ⟨X1, rfl⟩ := hw'
  have hb1 := X1.h
  generalize X1.w = W1 at hb1 ⊢
  have HB1 : Hid _ := HB.out.trans (hb1.mono HB.out.size)
  have HK1 : Hid _ := And.intro (HKK.out.1.below hb1) (HKK.out.2.below hb1)
  clear c0 c1 c2 d0 d1 d2 hb1 HB HKK
  have c0 : ∀ x : Gr W1, x.w.cell? ⟨w.heap.size, 0, none⟩ = some (.int .i64 x1) := fun x => gr_cell (HK1.out.1.cell 0 _ rfl) x
  have c1 : ∀ x : Gr W1, x.w.cell? ⟨w.heap.size, 1, none⟩ = some (.int .i64 x2) := fun x => gr_cell (HK1.out.1.cell 1 _ rfl) x
  have c2 : ∀ x : Gr W1, x.w.cell? ⟨w.heap.size, 2, none⟩ = some (.int .i64 x3) := fun x => gr_cell (HK1.out.1.cell 2 _ rfl) x
  have d0 : ∀ x : Gr W1, x.w.cell? ⟨w.heap.size + 1, 0, none⟩ = some (.int .i64 y1) := fun x => gr_cell (HK1.out.2.cell 0 _ rfl) x
  have d1 : ∀ x : Gr W1, x.w.cell? ⟨w.heap.size + 1, 1, none⟩ = some (.int .i64 y2) := fun x => gr_cell (HK1.out.2.cell 1 _ rfl) x
  have d2 : ∀ x : Gr W1, x.w.cell? ⟨w.heap.size + 1, 2, none⟩ = some (.int .i64 y3) := fun x => gr_cell (HK1.out.2.cell 2 _ rfl) x
  go_wp2
  have hgr := gr_some W1
  refine region_alike (by kernel_rfl) (by kernel_rfl) ?_
  repeat (go_big_quiet_step (first | (go_at_call_of 12 (Value.int IntKind.i64 x1); exact gr_call (to_win x1 x2 x3 _)) | (go_at_call_of 12 (Value.int IntKind.i64 y1); exact gr_call (to_win y1 y2 y3 _)) | (go_at_call 15; exact gr_call (HIM.out _))))
  refine wpQuiet_nil ?_
  intro _ hw'
  obtain ⟨X2, rfl⟩ := hw'
  have hb2 := X2.h
  generalize X2.w = W2 at hb2 ⊢
  have HB2 : Hid _ := HB1.out.trans (hb2.mono HB1.out.size)
  clear c0 c1 c2 d0 d1 d2 hb2 HB1 HK1
  cases q <;> (go_wp2; go_ret; exact ⟨rfl, HB2.out⟩)

/-! ### The row -/
set_option maxRecDepth 100000 in
theorem lifted (os : Os) (started : os.Started) (H : Type) (enc : TypeId × Value → H) :
    ReturnsInHanded {} Try.checked os 4 .any (Rows.fnExactApartSpec.pre6 enc Try.prog Try.f4 Rows.fnExactApartRow.domain false) (Rows.fnExactApartSpec.post enc Try.prog Try.f4 false true false false) := by
  refine returnsInHanded_of_change (C := Try.checked) own started (by kernel_rfl) Try.func4
    (ChangeSpec.witness6 (enc := enc) (C := Try.checked) false ⟨#[], #[win 0 0 0, win 0 0 0], []⟩ 8 (by kernel_rfl) (by kernel_rfl) (by kernel_rfl) (by kernel_rfl)) ?_
  intro W base args ds gs before hval0 hW hcnd _
  have hval : ∀ (j : Nat) t v, Try.f4.params[j]? = some t → args[j]? = some v → Value.okWide Try.prog W .any base t v := hval0
  have hW' := hW
  obtain ⟨p, q, hA0, hV, rfl, hfz, hnd⟩ := hW
  have hA : DataW.TrodAll enc Try.prog W 0 (fun _ => true) true Try.f4.params.toList args.toList ds p := hA0
  rw [Try.params4] at hA hval
  obtain ⟨v0, vs0, d0, ds0, p0, q0, hargs, rfl, rfl, h0, r0⟩ := trodAll_cons hA
  obtain ⟨v1, vs1, d1, ds1, p1, q1, rfl, rfl, rfl, h1, r1⟩ := trodAll_cons r0
  obtain ⟨rfl, rfl, rfl⟩ := trodAll_nil r1
  obtain rfl : args = #[v0, v1] := by cases args; simp_all
  obtain ⟨rfl, rfl⟩ := trodVars_none hV
  have k0 := h0
  have lt0 : ∀ x ∈ p0, x.block < W.heap.size := by obtain ⟨m, hm⟩ := k0; exact DataW.trod_lt m _ _ _ hm
  have k1 := h1
  have lt1 : ∀ x ∈ p1, x.block < W.heap.size := by obtain ⟨m, hm⟩ := k1; exact DataW.trod_lt m _ _ _ hm
  obtain ⟨x, rfl, hs⟩ := win_open (hval 0 23 v0 rfl rfl) h0
  obtain ⟨y, rfl, ht⟩ := win_open (hval 1 23 v1 rfl rfl) h1
  clear hA0 hval0
  refine (walk x y W hs ht).mono fun e W' ⟨he, bel⟩ => ?_
  subst he
  exact ⟨_, rfl, _, _, _, [], _, [], hW', (trodAll_cons_mk (shut_bool Try.underlying4 _) trodAll_mk0), (trodAll_cons_mk (Below.trod laidOut (by kernel_rfl) (of_decide_eq_true (by kernel_rfl)) k0 bel lt0) (trodAll_cons_mk (Below.trod laidOut (by kernel_rfl) (of_decide_eq_true (by kernel_rfl)) k1 bel lt1) trodAll_mk0)), rfl, bel.frame _, fun h => by cases h⟩

theorem over : Rows.fnExactApartRow.holds Try.pinned (OpenSpec.ofChange Rows.fnExactApartSpec) :=
  OpenClaim.holds_of_wide 4 Try.f4 rfl rfl rfl rfl rfl rfl rfl ⟨rfl, rfl, rfl, rfl, rfl⟩ rfl rfl rfl rfl rfl (by kernel_rfl) Try.func4 (by kernel_rfl)
    (of_decide_eq_true (by kernel_rfl)) (by unfold Func.isWrapper; first | (rw [if_pos (by decide +kernel)]; kernel_rfl) | (rw [if_neg (by decide +kernel)]; exact ⟨rfl, rfl⟩))
    (fun os started H enc _ => lifted os started H enc)

end Go.Proofs.Ytgeaiedflhlmdaa.fnExactApart
namespace Go.Proofs.Ytgeaiedflhlmdaa
theorem FnExactApart_holds : Rows.FnExactApartSaid := fnExactApart.over
end Go.Proofs.Ytgeaiedflhlmdaa
