
/-
  Small functions on time: which cycles there are, frames, places, ends of slots; the program's and the specification's. Conditions: those that each fact names.
-/
import Derived.Test.YthieilkabcehgaaGreatDoorBas
import Derived.Test.YthieilkabcehgaaGreatDoorTim
import Derived.Test.YthieilkabcehgaaGreatDoorRl3
import Derived.Test.YthieilkabcehgaaGreatDoorSp6
import Derived.Test.YthieilkabcehgaaGreatDoorRul
import Derived.Test.YthieilkabcehgaaGreatDoorGen
namespace Go.Proofs.YthieilkabcehgaaGreatDoor
open Go.ChangeShapes Go.WideShapes Go.ChangeAt Go.RowKit Go.Deep Go.Joins
set_option linter.unusedVariables false

set_option maxRecDepth 40000 in
set_option maxHeartbeats 4000000 in
theorem place_of (t : Tb) (a : Ad) (c r : Int) (w : World) (hm1 : 1 ≤ t.maj) (hc : 0 ≤ c) (hc2 : c ≤ 1000000) (hr : c % t.maj = r) :
    Calls Tryz.prog 105 #[tbV t a, .int .i64 c] w fun e w' => e = .returned (.int .i64 r) ∧ Below w.heap.size w w' := by
  have HB0 : Hid (Below w.heap.size w (w.alloc (.cells (tbA t a) 39))) := (Below.refl _ _).alloc (Nat.le_refl _) _
  have HX0 : Hid (TBx (w.alloc (.cells (tbA t a) 39)) w.heap.size t a) := TBx.new w t a _ rfl
  have k14 : (w.alloc (.cells (tbA t a) 39)).cell? ⟨w.heap.size, 14, none⟩ = some (.int .i64 t.maj) := HX0.out.cell 14 rfl
  have hm0 : ¬ (t.maj = 0) := by omega
  have HR : Hid (c % t.maj = r) := hr
  clear hr HX0
  go_enter Tryz.func105, Tryz.ntmps105
  go_wp2
  go_ret
  exact ⟨ret_int (HR.out), HB0.out⟩
end Go.Proofs.YthieilkabcehgaaGreatDoor
