
/-
  Small functions on time: which cycles there are, frames, places, ends of slots; the program's and the specification's. Conditions: those that each fact names.
-/
import Derived.Test.YtiheojmknhgjfaaGreatDoorBas
import Derived.Test.YtiheojmknhgjfaaGreatDoorTim
import Derived.Test.YtiheojmknhgjfaaGreatDoorRl3
import Derived.Test.YtiheojmknhgjfaaGreatDoorSp6
import Derived.Test.YtiheojmknhgjfaaGreatDoorRul
import Derived.Test.YtiheojmknhgjfaaGreatDoorGen
namespace Go.Proofs.YtiheojmknhgjfaaGreatDoor
open Go.ChangeShapes Go.WideShapes Go.ChangeAt Go.RowKit Go.Deep Go.Joins
set_option linter.unusedVariables false

theorem is_cyc (x : Int) (w : World) : Calls Tryz.prog 33 #[.int .i64 x] w fun e w' => e = .returned (.bool (inr x 0 50000)) ∧ w' = w := by
  by_cases h1 : 0 ≤ x
  · by_cases h2 : x ≤ 50000
    · rw [inr_yes ⟨h1, h2⟩]
      go_enter Tryz.func33, Tryz.ntmps33
      go_wp2
      go_ret
      exact ⟨rfl, rfl⟩
    · rw [inr_no (fun g => h2 g.2)]
      go_enter Tryz.func33, Tryz.ntmps33
      go_wp2
      go_ret
      exact ⟨rfl, rfl⟩
  · rw [inr_no (fun g => h1 g.1)]
    go_enter Tryz.func33, Tryz.ntmps33
    go_wp2
    go_ret
    exact ⟨rfl, rfl⟩
set_option maxRecDepth 20000 in
theorem e_cyc : ∀ args (v : World), (callFunc 33 args).run Tryz.prog v = .ok (.enter 33 args) v := enters_of Tryz.func33 (by kernel_rfl) rfl
set_option maxRecDepth 40000 in
set_option maxHeartbeats 4000000 in
theorem place_of (t : Tb) (a : Ad) (c r : Int) (w : World) (hm1 : 1 ≤ t.maj) (hc : 0 ≤ c) (hc2 : c ≤ 1000000) (hr : c % t.maj = r) :
    Calls Tryz.prog 91 #[tbV t a, .int .i64 c] w fun e w' => e = .returned (.int .i64 r) ∧ Below w.heap.size w w' := by
  have HB0 : Hid (Below w.heap.size w (w.alloc (.cells (tbA t a) 42))) := (Below.refl _ _).alloc (Nat.le_refl _) _
  have HX0 : Hid (TBx (w.alloc (.cells (tbA t a) 42)) w.heap.size t a) := TBx.new w t a _ rfl
  have k14 : (w.alloc (.cells (tbA t a) 42)).cell? ⟨w.heap.size, 14, none⟩ = some (.int .i64 t.maj) := HX0.out.cell 14 rfl
  have hm0 : ¬ (t.maj = 0) := by omega
  have HR : Hid (c % t.maj = r) := hr
  clear hr HX0
  go_enter Tryz.func91, Tryz.ntmps91
  go_wp2
  go_ret
  exact ⟨ret_int (HR.out), HB0.out⟩
end Go.Proofs.YtiheojmknhgjfaaGreatDoor
