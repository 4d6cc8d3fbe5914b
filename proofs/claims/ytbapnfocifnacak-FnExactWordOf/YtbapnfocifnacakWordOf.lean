/-
  At every argument of its type WordOf answers as its model: the law FnExactWordOf returns true and its argument reads as before. No conditions.
  Built over the program of the commit that COMMIT names.
-/
import Derived.Test.YtbapnfocifnacakRows
import Derived.WalkKit
import Derived.ProofKit
import Derived.OpenShut
import Derived.Test.YtbapnfocifnacakFold
import Derived.ShutString
import Derived.ChangeOld
import Derived.Below
namespace Go.Proofs.Ytbapnfocifnacak.fnExactWordOf
open Go.ChangeShapes Go.WideShapes Go.ChangeAt Go.RowKit
open Go.ChangeMaps (open_string shut_string)
set_option linter.unusedVariables false

theorem own : ownKnob Try.prog.godebug = none := by kernel_rfl
theorem laidOut : laidOutB Try.prog = true := by kernel_rfl

def IsRow (k : IntKind) (w : World) (a : Option Addr) (len cap : Nat) (zs : List Int) : Prop :=
  (a = none ∧ len = 0 ∧ cap = 0 ∧ zs = []) ∨
  ∃ x, a = some x ∧ len ≤ cap ∧ cap ≤ maxLen ∧ zs.length = cap ∧ (∀ i, i < zs.length → w.cell? (x.add i) = some (.int k (zs.getD i 0))) ∧ ∀ n ∈ zs, (Lit.int k n).wf = true

/-! ### The walk -/
theorem four_of (zs : List Int) (h : zs.length = 4) : ∃ x y z t, zs = [x, y, z, t] := by
  match zs, h with
  | [x, y, z, t], _ => exact ⟨x, y, z, t, rfl⟩
set_option maxHeartbeats 800000 in
theorem word_no (a0 : Option Addr) (cap0 : Nat) (zs : List Int) (w : World) (hs : Seg .u8 w a0 zs) (hn : zs.length ≤ 1048576) (h4 : ¬ zs.length = 4) :
    Calls Try.prog 4 #[.slice a0 zs.length cap0] w fun e w' => e = .returned (.bool true) ∧ Below w.heap.size w w' := by
  have H4 : Hid _ := h4
  clear h4
  go_enter Try.func4, Try.ntmps4
  go_wp2_with fail
  refine (to_bytes _ _ _ _ hs hn).mono ?_
  rintro e w1 ⟨rfl, hb1, hz1, ho1⟩
  have Hz1 : Hid _ := hz1
  clear hz1
  have hs1 := hs.below hb1
  go_wp2_with fail
  refine (spec_word_no _ _ _ _ H4.out hn).mono ?_
  rintro e w1' ⟨rfl, m1, rfl⟩
  have hs2 := hs1.drewN m1
  go_wp2_with fail
  refine (to_bytes _ _ _ _ hs2 hn).mono ?_
  rintro e w2 ⟨rfl, hb2, hz2, ho2⟩
  have Hz2 : Hid _ := hz2
  clear hz2
  have hs3 := hs2.below hb2
  go_wp2_with fail
  refine (impl_word_no _ _ _ _ H4.out hn).mono ?_
  rintro e w3 ⟨rfl, m, rfl⟩
  have hs4 := hs3.drewN m
  have ho3 := ho2.drewN m
  go_wp2_with fail
  refine (to_bytes _ _ _ _ hs4 hn).mono ?_
  rintro e w4 ⟨rfl, hb4, hz4, ho4⟩
  have Hz4 : Hid _ := hz4
  clear hz4
  go_wp2_with fail
  refine (eq_bytes _ _ _ _ _ _ (ho3.below hb4).seg ho4.seg hn).mono ?_
  rintro e w5 ⟨rfl, m5, rfl⟩
  go_wp2
  go_ret
  refine ⟨rfl, below_drewN ?_ m5⟩
  have hz2 := hb1.size
  have hz3 := hb2.size
  exact hb1.trans ((below_drewN (below_drewN (Below.refl _ _) m1 |>.trans (hb2.mono hz2)) m).trans (hb4.mono (Nat.le_trans hz2 hz3)))

set_option maxHeartbeats 800000 in
theorem word_yes (a0 : Option Addr) (cap0 : Nat) (x y z t : Int) (w : World) (hs : Seg .u8 w a0 [x, y, z, t]) (g1 : 0 ≤ x) (g2 : x ≤ 255) (g3 : 0 ≤ y) (g4 : y ≤ 255) (g5 : 0 ≤ z) (g6 : z ≤ 255) (g7 : 0 ≤ t) (g8 : t ≤ 255) :
    Calls Try.prog 4 #[.slice a0 [x, y, z, t].length cap0] w fun e w' => e = .returned (.bool true) ∧ Below w.heap.size w w' := by
  have hn : [x, y, z, t].length ≤ 1048576 := by simp
  go_enter Try.func4, Try.ntmps4
  go_wp2_with fail
  refine (to_bytes _ _ _ _ hs hn).mono ?_
  rintro e w1 ⟨rfl, hb1, hz1, ho1⟩
  have Hz1 : Hid _ := hz1
  clear hz1
  have hs1 := hs.below hb1
  go_wp2_with fail
  refine (spec_word _ 0 _ x y z t _ g1 g2 g3 g4 g5 g6 g7 g8 (ho1.cell 0 (by simp)) (ho1.cell 1 (by simp)) (ho1.cell 2 (by simp)) (ho1.cell 3 (by simp))).mono ?_
  rintro e w1' ⟨rfl, m1, rfl⟩
  have hs2 := hs1.drewN m1
  go_wp2_with fail
  refine (to_bytes _ _ _ _ hs2 hn).mono ?_
  rintro e w2 ⟨rfl, hb2, hz2, ho2⟩
  have Hz2 : Hid _ := hz2
  clear hz2
  have hs3 := hs2.below hb2
  go_wp2_with fail
  refine (impl_word _ 0 _ x y z t _ g1 g2 g3 g4 g5 g6 g7 g8 (ho2.cell 0 (by simp)) (ho2.cell 1 (by simp)) (ho2.cell 2 (by simp)) (ho2.cell 3 (by simp))).mono ?_
  rintro e w3 ⟨rfl, m, rfl⟩
  have hs4 := hs3.drewN m
  have ho3 := ho2.drewN m
  go_wp2_with fail
  refine (to_bytes _ _ _ _ hs4 hn).mono ?_
  rintro e w4 ⟨rfl, hb4, hz4, ho4⟩
  have Hz4 : Hid _ := hz4
  clear hz4
  go_wp2_with fail
  refine (eq_bytes _ _ _ _ _ _ (ho3.below hb4).seg ho4.seg hn).mono ?_
  rintro e w5 ⟨rfl, m5, rfl⟩
  go_wp2
  go_ret
  refine ⟨rfl, below_drewN ?_ m5⟩
  have hz2 := hb1.size
  have hz3 := hb2.size
  exact hb1.trans ((below_drewN (below_drewN (Below.refl _ _) m1 |>.trans (hb2.mono hz2)) m).trans (hb4.mono (Nat.le_trans hz2 hz3)))

theorem walk (a0 : Option Addr) (len0 cap0 : Nat) (z0 : List Int) (w : World) (w0 : IsRow .u8 w a0 len0 cap0 z0) :
    Calls Try.prog 4 #[.slice a0 len0 cap0] w fun e w' => e = .returned (.bool true) ∧ Below w.heap.size w w' := by
  obtain ⟨zs, hlen, hs, hw⟩ := seg_of_row w0
  subst hlen
  clear w0
  by_cases hn : zs.length ≤ 1048576
  · by_cases h4 : zs.length = 4
    · obtain ⟨x, y, z, t, rfl⟩ := four_of zs h4
      have bx := bounds_u8 (hw x (by simp))
      have by' := bounds_u8 (hw y (by simp))
      have bz := bounds_u8 (hw z (by simp))
      have bt := bounds_u8 (hw t (by simp))
      exact word_yes a0 cap0 x y z t w hs bx.1 bx.2 by'.1 by'.2 bz.1 bz.2 bt.1 bt.2
    · exact word_no a0 cap0 zs w hs hn h4
  · go_enter Try.func4, Try.ntmps4
    go_wp2
    go_ret
    exact ⟨rfl, Below.refl _ _⟩

/-! ### The row -/
set_option maxRecDepth 100000 in
theorem lifted (os : Os) (started : os.Started) (H : Type) (enc : TypeId × Value → H) :
    ReturnsInHanded {} Try.checked os 4 .any (Rows.fnExactWordOfSpec.pre6 enc Try.prog Try.f4 Rows.fnExactWordOfRow.domain false) (Rows.fnExactWordOfSpec.post enc Try.prog Try.f4 false true false false) := by
  refine returnsInHanded_of_change (C := Try.checked) own started (by kernel_rfl) Try.func4
    (ChangeSpec.witness6 (enc := enc) (C := Try.checked) false ⟨#[], #[.slice none 0 0], []⟩ 8 (by kernel_rfl) (by kernel_rfl) (by kernel_rfl) (by kernel_rfl)) ?_
  intro W base args ds gs before hval0 hW hcnd _
  have hval : ∀ (j : Nat) t v, Try.f4.params[j]? = some t → args[j]? = some v → Value.okWide Try.prog W .any base t v := hval0
  have hW' := hW
  obtain ⟨p, q, hA0, hV, rfl, hfz, hnd⟩ := hW
  have hA : DataW.TrodAll enc Try.prog W 0 (fun _ => true) true Try.f4.params.toList args.toList ds p := hA0
  rw [Try.params4] at hA hval
  obtain ⟨v0, vs0, d0, ds0, p0, q0, hargs, rfl, rfl, h0, r0⟩ := trodAll_cons hA
  obtain ⟨rfl, rfl, rfl⟩ := trodAll_nil r0
  obtain rfl : args = #[v0] := by cases args; simp_all
  obtain ⟨rfl, rfl⟩ := trodVars_none hV
  obtain ⟨a0, len0, cap0, rfl⟩ := okWide_slice Try.underlying23 (hval 0 23 v0 rfl rfl)
  have k0 := h0
  have lt0 : ∀ x ∈ p0, x.block < W.heap.size := by obtain ⟨m, hm⟩ := k0; exact DataW.trod_lt m _ _ _ hm
  obtain ⟨z0, w0⟩ : ∃ zs, IsRow .u8 W a0 len0 cap0 zs := by
    obtain ⟨fuel, hf⟩ := h0
    rcases open_ints Try.underlying23 Try.underlying5 (by kernel_rfl) hf with ⟨hcs, _⟩ | ⟨x, l, c, zs, hcs, _, hl, hm, hz, _, hcell, hwz⟩
    · simp [Value.cells] at hcs
      obtain ⟨rfl, rfl, rfl⟩ := hcs
      exact ⟨[], .inl ⟨rfl, rfl, rfl, rfl⟩⟩
    · simp [Value.cells] at hcs
      obtain ⟨rfl, rfl, rfl⟩ := hcs
      exact ⟨zs, .inr ⟨_, rfl, hl, hm, by simpa using hz, hcell, hwz⟩⟩
  clear hA0 hval0
  refine (walk a0 len0 cap0 z0 W w0).mono fun e W' ⟨he, bel⟩ => ?_
  subst he
  exact ⟨_, rfl, _, _, _, [], _, [], hW', trodAll_mk1 (shut_bool Try.underlying4 _), (trodAll_cons_mk (Below.trod laidOut (by kernel_rfl) (of_decide_eq_true (by kernel_rfl)) k0 bel lt0) trodAll_mk0), rfl, bel.frame _, fun h => by cases h⟩

theorem over : Rows.fnExactWordOfRow.holds Try.pinned (OpenSpec.ofChange Rows.fnExactWordOfSpec) :=
  OpenClaim.holds_of_wide 4 Try.f4 rfl rfl rfl rfl rfl rfl rfl ⟨rfl, rfl, rfl, rfl, rfl⟩ rfl rfl rfl rfl rfl (by kernel_rfl) Try.func4 (by kernel_rfl)
    (of_decide_eq_true (by kernel_rfl)) (by unfold Func.isWrapper; first | (rw [if_pos (by decide +kernel)]; kernel_rfl) | (rw [if_neg (by decide +kernel)]; exact ⟨rfl, rfl⟩))
    (fun os started H enc _ => lifted os started H enc)

end Go.Proofs.Ytbapnfocifnacak.fnExactWordOf
namespace Go.Proofs.Ytbapnfocifnacak
theorem FnExactWordOf_holds : Rows.FnExactWordOfSaid := fnExactWordOf.over
end Go.Proofs.Ytbapnfocifnacak
