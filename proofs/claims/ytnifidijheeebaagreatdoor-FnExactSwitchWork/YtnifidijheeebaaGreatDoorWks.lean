
/-
  The work of a switch as a value: how it is turned into the program's own and summed, by the specification and by the program; held against another. No conditions.
-/
import Derived.Test.YtnifidijheeebaaGreatDoorProg
import Derived.Test.YtnifidijheeebaaGreatDoorBas
import Derived.Test.YtnifidijheeebaaGreatDoorGen
import Derived.Below
import Derived.ProofKit
import Derived.OpenShut
namespace Go.Proofs.YtnifidijheeebaaGreatDoor
open Go.ChangeShapes Go.WideShapes Go.ChangeAt Go.RowKit Go.Deep
set_option linter.unusedVariables false

abbrev wkv (f s c r : Int) : Value := .agg #[.int .i64 f, .int .i64 s, .int .i64 c, .int .i64 r]
abbrev wkr (f s c r : Int) : Array Value := #[.int .i64 f, .int .i64 s, .int .i64 c, .int .i64 r]
def wkSum (f s c r : Int) : Int := wrap64 (wrap64 (wrap64 (f + s) + c) + r)
set_option maxHeartbeats 400000 in
theorem impl_sum (f s c r : Int) (w : World) : Calls Tryz.prog 75 #[wkv f s c r] w fun x w' => x = .returned (.int .i64 (wkSum f s c r)) ∧ Below w.heap.size w w' := by
  have hb : Hid (Below w.heap.size w (w.alloc (.cells (wkr f s c r) 38))) := (Below.refl _ w).alloc (Nat.le_refl _) _
  go_enter Tryz.func75, Tryz.ntmps75
  go_wp2
  go_ret
  exact ⟨rfl, hb.out⟩
set_option maxHeartbeats 400000 in
theorem impl_wsum (f s c r : Int) (w : World) : Calls Tryz.prog 21 #[wkv f s c r] w fun x w' => x = .returned (.int .i64 (wkSum f s c r)) ∧ Below w.heap.size w w' := by
  have hb : Hid (Below w.heap.size w (w.alloc (.cells (wkr f s c r) 38))) := (Below.refl _ w).alloc (Nat.le_refl _) _
  obtain ⟨v, HV⟩ : ∃ v, Hid (wkSum f s c r = v) := ⟨_, rfl⟩
  have HC : Hid (∀ X, Calls Tryz.prog 75 #[wkv f s c r] X fun x w' => x = .returned (.int .i64 v) ∧ Below X.heap.size X w') := fun X => by rw [← HV.out]; exact impl_sum f s c r X
  rw [HV.out]
  go_enter Tryz.func21, Tryz.ntmps21
  go_wp2_with fail
  refine (HC.out _).mono ?_
  rintro x w1 ⟨rfl, hb1⟩
  replace hb : Hid _ := hb.out.trans (hb1.mono hb.out.size)
  clear hb1
  go_wp2
  go_ret
  exact ⟨rfl, hb.out⟩
end Go.Proofs.YtnifidijheeebaaGreatDoor
