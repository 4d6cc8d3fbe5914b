
/-
  At every work of a switch WorkSum answers as its model: the law FnExactWorkSum returns true and its arguments read as before. No conditions.
  Built over the program of the commit that COMMIT names.
-/
import Derived.Test.YtklgkgmkeocjdaaBas
import Derived.Test.YtklgkgmkeocjdaaRows
import Derived.WalkKit
import Derived.ProofKit
import Derived.OpenShut
import Derived.Below
import Derived.Test.YtklgkgmkeocjdaaWks
import Derived.ShutString
namespace Go.Proofs.Ytklgkgmkeocjdaa.fnExactWorkSum
open Go.ChangeShapes Go.WideShapes Go.ChangeAt Go.RowKit Go.Deep
set_option linter.unusedVariables false

theorem own : ownKnob Try.prog.godebug = none := by kernel_rfl
abbrev wkD {H : Type} (k f t d : Int) : DataW H := .agg [.lit (.int .i64 k), .lit (.int .i64 f), .lit (.int .i64 t), .lit (.int .i64 d)]
abbrev wkW (k f t d : Int) : Prop := (Lit.int .i64 k).wf = true ∧ (Lit.int .i64 f).wf = true ∧ (Lit.int .i64 t).wf = true ∧ (Lit.int .i64 d).wf = true
theorem cellsWk : Try.prog.cellsOf 23 = 4 := by kernel_rfl
theorem wk_open {H : Type} {enc : TypeId × Value → H} {W : World} {r : Reach} {b0 base : Nat} {spare : Nat → Bool} {held : Bool} {x : Value} {d : DataW H} {q : List MemPlace}
    (hv : Value.okWide Try.prog W r b0 23 x) (h : DataW.Trod enc Try.prog W base spare held 23 x d q) :
    ∃ k f t dd, x = wkv k f t dd ∧ d = wkD k f t dd ∧ q = [] ∧ wkW k f t dd := by
  obtain ⟨cs, rfl, hsz⟩ := okWide_struct Try.underlying23 hv
  obtain ⟨v0, v1, v2, v3, rfl⟩ := array4 (hsz.trans cellsWk)
  obtain ⟨fuel, hf⟩ := h
  obtain ⟨xs, m, _, hx, _, hl, hfs⟩ := DataW.trod_struct Try.underlying23 hf
  obtain ⟨y0, y1, y2, y3, rfl⟩ := list4 hl
  have g0 := hfs 0 _ rfl
  have g1 := hfs 1 _ rfl
  have g2 := hfs 2 _ rfl
  have g3 := hfs 3 _ rfl
  simp only [Value.cells] at g0 g1 g2 g3
  obtain ⟨k, e0, rfl, w0⟩ := DataW.trod_int Try.underlying3 g0
  obtain ⟨f, e1, rfl, w1⟩ := DataW.trod_int Try.underlying3 g1
  obtain ⟨t, e2, rfl, w2⟩ := DataW.trod_int Try.underlying3 g2
  obtain ⟨dd, e3, rfl, w3⟩ := DataW.trod_int Try.underlying3 g3
  simp [cells3] at e0 e1 e2 e3
  subst e0 e1 e2 e3
  simp at hx
  exact ⟨k, f, t, dd, rfl, hx.1, hx.2, w0, w1, w2, w3⟩
theorem wk_reads {H : Type} {enc : TypeId × Value → H} {W : World} {base : Nat} {spare : Nat → Bool} {held : Bool} {k f t d : Int}
    (g : wkW k f t d) : DataW.Trod enc Try.prog W base spare held 23 (wkv k f t d) (wkD k f t d) [] := by
  obtain ⟨w1, w2, w3, w4⟩ := g
  refine ⟨2, ?_⟩
  have := trod_struct_mk (enc := enc) (w := W) (base := base) (spare := spare) (held := held) (n := 1) (cs := [.int .i64 k, .int .i64 f, .int .i64 t, .int .i64 d])
    (xs := [(.lit (.int .i64 k), []), (.lit (.int .i64 f), []), (.lit (.int .i64 t), []), (.lit (.int .i64 d), [])]) Try.underlying23 (by rw [cellsWk]; rfl)
    (by simp [cells3, DataW.trod, Try.underlying3, w1, w2, w3, w4])
  simpa [Value.cells] using this

/-! ### The walk -/
set_option maxRecDepth 20000 in
set_option maxHeartbeats 2000000 in
theorem walk (f s c r : Int) (w : World) :
    Calls Try.prog 3 #[wkv f s c r] w fun e w' => e = .returned (.bool true) ∧ Below w.heap.size w w' := by
  have hb : Hid (Below w.heap.size w (w.alloc (.cells (wkr f s c r) 23))) := (Below.refl _ w).alloc (Nat.le_refl _) _
  have hv : Hid (CellsAt (w.alloc (.cells (wkr f s c r) 23)) w.heap.size 0 [.int .i64 f, .int .i64 s, .int .i64 c, .int .i64 r]) := CellsAt.new w [.int .i64 f, .int .i64 s, .int .i64 c, .int .i64 r] 23 _ rfl
  obtain ⟨q, HR⟩ : ∃ q, Hid (wkSum f s c r = q) := ⟨_, rfl⟩
  have SP : Hid (∀ X, Calls Try.prog 5 #[wkv f s c r] X fun x w' => x = .returned (.int .i64 q) ∧ Below X.heap.size X w') := fun X => by rw [← HR.out]; exact spec_wsum f s c r X
  have IM : Hid (∀ X, Calls Try.prog 7 #[wkv f s c r] X fun x w' => x = .returned (.int .i64 q) ∧ Below X.heap.size X w') := fun X => by rw [← HR.out]; exact impl_wsum f s c r X
  clear HR
  have hne : (q != q) = false := by simp
  go_enter Try.func3, Try.ntmps3
  go_wp2_with fail
  refine (to_work f s c r _).mono ?_
  rintro x w1 ⟨rfl, hb1⟩
  replace hv : Hid (CellsAt _ _ _ _) := hv.out.below hb1
  replace hb : Hid _ := hb.out.trans (hb1.mono hb.out.size)
  clear hb1
  go_wp2_with fail
  refine (SP.out _).mono ?_
  rintro x w2 ⟨rfl, hb2⟩
  replace hv : Hid (CellsAt _ _ _ _) := hv.out.below hb2
  replace hb : Hid _ := hb.out.trans (hb2.mono hb.out.size)
  clear hb2
  have c0 : w2.cell? ⟨w.heap.size, 0, none⟩ = _ := hv.out 0 _ rfl
  have c1 : w2.cell? ⟨w.heap.size, 1, none⟩ = _ := hv.out 1 _ rfl
  have c2 : w2.cell? ⟨w.heap.size, 2, none⟩ = _ := hv.out 2 _ rfl
  have c3 : w2.cell? ⟨w.heap.size, 3, none⟩ = _ := hv.out 3 _ rfl
  go_wp2_with fail
  refine (to_work f s c r _).mono ?_
  rintro x w3 ⟨rfl, hb3⟩
  replace hb : Hid _ := hb.out.trans (hb3.mono hb.out.size)
  clear hb3 c0 c1 c2 c3 hv
  go_wp2_with fail
  refine (IM.out _).mono ?_
  rintro x w4 ⟨rfl, hb4⟩
  replace hb : Hid _ := hb.out.trans (hb4.mono hb.out.size)
  clear hb4
  go_wp2
  go_ret
  exact ⟨rfl, hb.out⟩

/-! ### The row -/
set_option maxRecDepth 100000 in
theorem lifted (os : Os) (started : os.Started) (H : Type) (enc : TypeId × Value → H) :
    ReturnsInHanded {} Try.checked os 3 .any (Rows.fnExactWorkSumSpec.pre6 enc Try.prog Try.f3 Rows.fnExactWorkSumRow.domain false) (Rows.fnExactWorkSumSpec.post enc Try.prog Try.f3 false true false false) := by
  refine returnsInHanded_of_change (C := Try.checked) own started (by kernel_rfl) Try.func3
    (ChangeSpec.witness6 (enc := enc) (C := Try.checked) false ⟨#[], #[wkv 0 0 0 0], []⟩ 8 (by kernel_rfl) (by kernel_rfl) (by kernel_rfl) (by kernel_rfl)) ?_
  intro W base args ds gs before hval0 hW hcnd _
  have hval : ∀ (j : Nat) t v, Try.f3.params[j]? = some t → args[j]? = some v → Value.okWide Try.prog W .any base t v := hval0
  have hW' := hW
  obtain ⟨p, q, hA0, hV, rfl, hfz, hnd⟩ := hW
  have hA : DataW.TrodAll enc Try.prog W 0 (fun _ => true) true Try.f3.params.toList args.toList ds p := hA0
  rw [Try.params3] at hA hval
  obtain ⟨v0, vs0, d0, ds0, p0, q0, hargs, rfl, rfl, h0, r0⟩ := trodAll_cons hA
  obtain ⟨rfl, rfl, rfl⟩ := trodAll_nil r0
  obtain rfl : args = #[v0] := by cases args; simp_all
  obtain ⟨rfl, rfl⟩ := trodVars_none hV
  obtain ⟨rk, rf, rt, rd, rfl, rfl, rfl, w0⟩ := wk_open (hval 0 23 v0 rfl rfl) h0
  clear hA0 hval0
  simp only [List.append_nil] at hW'
  refine (walk rk rf rt rd W).mono fun e W' ⟨he, bel⟩ => ?_
  subst he
  exact ⟨_, rfl, _, _, _, [], [], [], hW', (trodAll_cons_mk (shut_bool Try.underlying4 _) trodAll_mk0), (trodAll_cons_mk (wk_reads w0) trodAll_mk0), rfl, bel.frame _, fun h => by cases h⟩

theorem over : Rows.fnExactWorkSumRow.holds Try.pinned (OpenSpec.ofChange Rows.fnExactWorkSumSpec) :=
  OpenClaim.holds_of_wide 3 Try.f3 rfl rfl rfl rfl rfl rfl rfl ⟨rfl, rfl, rfl, rfl, rfl⟩ rfl rfl rfl rfl rfl (by kernel_rfl) Try.func3 (by kernel_rfl)
    (of_decide_eq_true (by kernel_rfl)) (by unfold Func.isWrapper; first | (rw [if_pos (by decide +kernel)]; kernel_rfl) | (rw [if_neg (by decide +kernel)]; exact ⟨rfl, rfl⟩))
    (fun os started H enc _ => lifted os started H enc)

end Go.Proofs.Ytklgkgmkeocjdaa.fnExactWorkSum
namespace Go.Proofs.Ytklgkgmkeocjdaa
theorem FnExactWorkSum_holds : Rows.FnExactWorkSumSaid := fnExactWorkSum.over
end Go.Proofs.Ytklgkgmkeocjdaa
