
/-
  What the laws read of the bytes that they are handed: one byte, four as a word, whether there are too many. Conditions: the bytes are at most 1048576 where one is read.
-/
import Derived.Test.YtlomcdgfcocmmaaGreatDoorBas
import Derived.Test.YtlomcdgfcocmmaaGreatDoorProg
import Derived.Deep.QuietTactic
import Derived.BigQuiet
namespace Go.Proofs.YtlomcdgfcocmmaaGreatDoor
open Go.ChangeShapes Go.WideShapes Go.ChangeAt Go.RowKit Go.Deep
set_option linter.unusedVariables false

theorem big_no (a : Option Addr) (n cap : Nat) (w : World) (h : n ≤ 1048576) : Calls Tryz.prog 7 #[.slice a n cap] w fun e w' => e = .returned (.bool false) ∧ w' = w := by
  have h2 : ¬ (1048576 : Int) < (n : Int) := by omega
  go_enter Tryz.func7, Tryz.ntmps7
  go_wp2
  go_ret
  exact ⟨rfl, rfl⟩
theorem big_yes (a : Option Addr) (n cap : Nat) (w : World) (h : ¬ n ≤ 1048576) : Calls Tryz.prog 7 #[.slice a n cap] w fun e w' => e = .returned (.bool true) ∧ w' = w := by
  have h2 : (1048576 : Int) < (n : Int) := by omega
  go_enter Tryz.func7, Tryz.ntmps7
  go_wp2
  go_ret
  exact ⟨rfl, rfl⟩
set_option maxHeartbeats 400000 in
theorem at_any (a : Option Addr) (cap n : Nat) (zs : List Int) (i : Nat) (w : World) (hn : n ≤ 1048576) (hl : zs.length = n) (hi : i ≤ 1000) (hs : Seg .u8 w a zs) (hb : ∀ z ∈ zs, (Lit.int .u8 z).wf = true) :
    Calls Tryz.prog 27 #[.slice a n cap, .int .i64 i] w fun e w' => ∃ x : Int, e = .returned (.int .i64 x) ∧ 0 ≤ x ∧ x ≤ 255 ∧ w' = w := by
  by_cases h : i < n
  · obtain ⟨b, off, he, hbl, hc⟩ := hs.at i (by omega)
    have hz := bounds_u8 (hb _ (getD_mem zs i (by omega)))
    obtain ⟨hz0, hz1⟩ := hz
    subst he
    generalize zs.getD i 0 = z at hc hz0 hz1
    clear hs hb hl
    have h2 : (i : Int) < (n : Int) := by omega
    go_enter Tryz.func27, Tryz.ntmps27
    go_wp2
    go_ret
    exact ⟨z, rfl, by omega, by omega, rfl⟩
  · have h2 : ¬ (i : Int) < (n : Int) := by omega
    have HM : Hid (0 ≤ (((i : Int) * 7 + n) % 256) ∧ (((i : Int) * 7 + n) % 256) ≤ 255) := ⟨Int.emod_nonneg _ (by decide), by omega⟩
    clear hs hb hl
    go_enter Tryz.func27, Tryz.ntmps27
    go_wp2
    go_ret
    exact ⟨_, rfl, HM.out.1, HM.out.2, rfl⟩
end Go.Proofs.YtlomcdgfcocmmaaGreatDoor
