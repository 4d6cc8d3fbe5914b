
/-
  The work of a switch as a value: how it is turned into the program's own and summed, by the specification and by the program; held against another. No conditions.
-/
import Derived.Test.YtklgkgmkeocjdaaProg
import Derived.Test.YtklgkgmkeocjdaaBas
import Derived.Test.YtklgkgmkeocjdaaGen
import Derived.Below
import Derived.ProofKit
import Derived.OpenShut
namespace Go.Proofs.Ytklgkgmkeocjdaa
open Go.ChangeShapes Go.WideShapes Go.ChangeAt Go.RowKit Go.Deep
set_option linter.unusedVariables false

abbrev wkv (f s c r : Int) : Value := .agg #[.int .i64 f, .int .i64 s, .int .i64 c, .int .i64 r]
abbrev wkr (f s c r : Int) : Array Value := #[.int .i64 f, .int .i64 s, .int .i64 c, .int .i64 r]
def wkSum (f s c r : Int) : Int := wrap64 (wrap64 (wrap64 (f + s) + c) + r)
set_option maxHeartbeats 400000 in
theorem to_work (f s c r : Int) (w : World) : Calls Try.prog 6 #[wkv f s c r] w fun x w' => x = .returned (wkv f s c r) ∧ Below w.heap.size w w' := by
  go_enter Try.func6, Try.ntmps6
  go_wp2
  exact bodyPost_ret (v := wkv f s c r) (by simp [results, Try.results6, go_sem]) rfl ⟨rfl, (((Below.refl _ _).alloc (Nat.le_refl _) _).alloc (by simp) _).alloc (by simp; omega) _⟩
set_option maxHeartbeats 400000 in
theorem spec_wsum (f s c r : Int) (w : World) : Calls Try.prog 5 #[wkv f s c r] w fun x w' => x = .returned (.int .i64 (wkSum f s c r)) ∧ Below w.heap.size w w' := by
  have hb : Hid (Below w.heap.size w (w.alloc (.cells (wkr f s c r) 25))) := (Below.refl _ w).alloc (Nat.le_refl _) _
  go_enter Try.func5, Try.ntmps5
  go_wp2
  go_ret
  exact ⟨rfl, hb.out⟩
set_option maxHeartbeats 400000 in
theorem impl_sum (f s c r : Int) (w : World) : Calls Try.prog 15 #[wkv f s c r] w fun x w' => x = .returned (.int .i64 (wkSum f s c r)) ∧ Below w.heap.size w w' := by
  have hb : Hid (Below w.heap.size w (w.alloc (.cells (wkr f s c r) 25))) := (Below.refl _ w).alloc (Nat.le_refl _) _
  go_enter Try.func15, Try.ntmps15
  go_wp2
  go_ret
  exact ⟨rfl, hb.out⟩
set_option maxHeartbeats 400000 in
theorem impl_wsum (f s c r : Int) (w : World) : Calls Try.prog 7 #[wkv f s c r] w fun x w' => x = .returned (.int .i64 (wkSum f s c r)) ∧ Below w.heap.size w w' := by
  have hb : Hid (Below w.heap.size w (w.alloc (.cells (wkr f s c r) 25))) := (Below.refl _ w).alloc (Nat.le_refl _) _
  obtain ⟨v, HV⟩ : ∃ v, Hid (wkSum f s c r = v) := ⟨_, rfl⟩
  have HC : Hid (∀ X, Calls Try.prog 15 #[wkv f s c r] X fun x w' => x = .returned (.int .i64 v) ∧ Below X.heap.size X w') := fun X => by rw [← HV.out]; exact impl_sum f s c r X
  rw [HV.out]
  go_enter Try.func7, Try.ntmps7
  go_wp2_with fail
  refine (HC.out _).mono ?_
  rintro x w1 ⟨rfl, hb1⟩
  replace hb : Hid _ := hb.out.trans (hb1.mono hb.out.size)
  clear hb1
  go_wp2
  go_ret
  exact ⟨rfl, hb.out⟩
end Go.Proofs.Ytklgkgmkeocjdaa
