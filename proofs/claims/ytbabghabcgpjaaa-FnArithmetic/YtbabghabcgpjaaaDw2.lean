
/-
  What the draw of two words returns, and plain facts on what two words come to under the core's arithmetic. Conditions: the bytes drawn from are at most 1048576.
-/
import Derived.Test.YtbabghabcgpjaaaRows
import Derived.Test.YtbabghabcgpjaaaDraw
import Derived.Test.YtbabghabcgpjaaaAlz
import Derived.Deep.QuietTactic
import Derived.BigQuiet
namespace Go.Proofs.Ytbabghabcgpjaaa
open Go.ChangeShapes Go.WideShapes Go.ChangeAt Go.RowKit Go.Deep
set_option linter.unusedVariables false

set_option maxHeartbeats 1000000 in
theorem draw_word (w : World) (B : Nat) (a : Option Addr) (zs : List Int) (cap : Nat) (hc : Cur w B a zs cap) :
    Calls Try.prog 75 #[.pointer (some ⟨B, 0, none⟩)] w fun e w' => ∃ x : Int, e = .returned (.int .u32 x) ∧ 0 ≤ x ∧ x ≤ 4294967295 ∧ Cur w' B a zs cap ∧ Turn B w w' := by
  go_enter Try.func75, Try.ntmps75
  go_wp2_with fail
  refine (draw_below _ _ _ _ _ _ hc (by omega) (by omega)).mono ?_
  rintro e w1 ⟨x, rfl, hx0, hx1, hc1, ht1⟩
  by_cases x0 : x = 0
  · have hb : (x == 0) = true := by simp [x0]
    clear x0
    go_wp2_with fail
    refine (draw_pick _ B w1.heap.size _ _ _ [0, 1, 2, 31, 32, 255, 256, 2147483647, 2147483648, 4294967295, 4294967294] (hc1.below ((Below.refl _ _).alloc (Nat.le_refl _) _)) (own_lit .i64 w1 3 _) (by have := hc1.lt; omega) (by decide) (by decide)).mono ?_
    rintro e w2 ⟨y, rfl, hy, hc2, ht2⟩
    have hy2 : 0 ≤ y ∧ y ≤ 4294967295 := by simp at hy; omega
    obtain ⟨hy0, hy1⟩ := hy2
    clear hy
    go_wp2
    go_ret
    exact ⟨_, rfl, by omega, by omega, hc2, (ht1.alloc _).trans ht2⟩
  · have hb : (x == 0) = false := beq_eq_false_iff_ne.2 x0
    clear x0
    by_cases x1 : x = 1
    · have hb1 : (x == 1) = true := by simp [x1]
      clear x1
      go_wp2_with fail
      refine (draw_below _ _ _ _ _ _ hc1 (by omega) (by omega)).mono ?_
      rintro e w2 ⟨y, rfl, hy0, hy1, hc2, ht2⟩
      go_wp2
      go_ret
      exact ⟨_, rfl, by omega, by omega, hc2, ht1.trans ht2⟩
    · have hb1 : (x == 1) = false := beq_eq_false_iff_ne.2 x1
      clear x1
      go_wp2_with fail
      refine (draw_below _ _ _ _ _ _ hc1 (by omega) (by omega)).mono ?_
      rintro e w2 ⟨y, rfl, hy0, hy1, hc2, ht2⟩
      go_wp2_with fail
      refine (draw_below _ _ _ _ _ _ hc2 (by omega) (by omega)).mono ?_
      rintro e w3 ⟨z, rfl, hz0, hz1, hc3, ht3⟩
      go_wp2
      go_ret
      exact ⟨_, rfl, by omega, by omega, hc3, (ht1.trans ht2).trans ht3⟩
set_option maxHeartbeats 400000 in
theorem draw_two (w : World) (a : Option Addr) (zs : List Int) (cap : Nat) (hs : Seg .u8 w a zs) (hb : ∀ z ∈ zs, (Lit.int .u8 z).wf = true) (hn : zs.length ≤ 1048576) :
    Calls Try.prog 38 #[.slice a zs.length cap] w fun e w' => ∃ x y : Int, e = .returned (.tuple #[.int .u32 x, .int .u32 y]) ∧ 0 ≤ x ∧ x ≤ 4294967295 ∧ 0 ≤ y ∧ y ≤ 4294967295 ∧ Below w.heap.size w w' := by
  obtain ⟨n, Hn⟩ : ∃ n, Hid (n = zs.length) := ⟨_, rfl⟩
  have hk := fun (w : World) hs => draw_new w a zs cap hs hb hn
  rw [← Hn.out] at hk ⊢
  have hk1 := hk w hs
  clear hk
  go_enter Try.func38, Try.ntmps38
  go_wp2_with fail
  refine hk1.mono ?_
  rintro e w1 ⟨rfl, hc1, hb1⟩
  go_wp2_with fail
  refine (draw_word _ _ _ _ _ hc1).mono ?_
  rintro e w2 ⟨x, rfl, hx0, hx1, hc2, ht2⟩
  go_wp2_with fail
  refine (draw_word _ _ _ _ _ hc2).mono ?_
  rintro e w3 ⟨y, rfl, hy0, hy1, hc3, ht3⟩
  go_wp2
  go_ret2
  exact ⟨x, y, rfl, hx0, hx1, hy0, hy1, hb1.trans ((ht2.trans ht3).below (Nat.le_refl _) hb1.size)⟩
end Go.Proofs.Ytbabghabcgpjaaa
