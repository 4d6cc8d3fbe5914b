
/-
  The phase of a cycle, and whose slot it is in given phases: the program's own functions. Conditions: the slots lie in memory; the tables are sound.
-/
import Derived.Test.YthieilkabcehgaaGreatDoorBas
import Derived.Test.YthieilkabcehgaaGreatDoorTic
namespace Go.Proofs.YthieilkabcehgaaGreatDoor
open Go.ChangeShapes Go.WideShapes Go.ChangeAt Go.RowKit Go.Deep Go.Joins
set_option linter.unusedVariables false

set_option maxRecDepth 40000 in
set_option maxHeartbeats 4000000 in
theorem run_of (t : Tb) (a : Ad) (x1 x2 x3 : Int) (w : World) (hp : 1 ≤ t.pad ∧ t.pad ≤ 5000) (hg : 1 ≤ t.grd ∧ t.grd ≤ 5000) (hx : 0 ≤ x2 ∧ 0 ≤ x3 ∧ x2 + x3 ≤ 5000) :
    Calls Tryz.prog 89 #[tbV t a, .agg #[.int .i64 x1, .int .i64 x2, .int .i64 x3]] w fun e w' => e = .returned (.tuple #[.int .i64 (x2 + t.pad), .int .i64 (x2 + x3 - t.grd)]) ∧ Below w.heap.size w w' := by
  have HE : Hid (∀ Y, Calls Tryz.prog 74 #[.agg #[.int .i64 x1, .int .i64 x2, .int .i64 x3]] Y fun e w' => e = .returned (.int .i64 (x2 + x3)) ∧ Below Y.heap.size Y w') := fun Y => slot_end x1 x2 x3 Y (by rw [IntKind.wrap_i64]; omega)
  obtain ⟨z, HZ⟩ : ∃ z, Hid (x2 + x3 = z) := ⟨_, rfl⟩
  rw [HZ.out] at HE hx ⊢
  have HB0 : Hid (Below w.heap.size w (w.alloc (.cells (tbA t a) 39))) := (Below.refl _ _).alloc (Nat.le_refl _) _
  have HX0 : Hid (TBx (w.alloc (.cells (tbA t a) 39)) w.heap.size t a) := TBx.new w t a _ rfl
  have hbV : Below (w.alloc (.cells (tbA t a) 39)).heap.size (w.alloc (.cells (tbA t a) 39)) ((w.alloc (.cells (tbA t a) 39)).alloc (.cells #[.int .i64 x1, .int .i64 x2, .int .i64 x3] 59)) := (Below.refl _ _).alloc (Nat.le_refl _) _
  have HBV : Hid (Below w.heap.size w ((w.alloc (.cells (tbA t a) 39)).alloc (.cells #[.int .i64 x1, .int .i64 x2, .int .i64 x3] 59))) := HB0.out.trans (hbV.mono HB0.out.size)
  have k12 : ((w.alloc (.cells (tbA t a) 39)).alloc (.cells #[.int .i64 x1, .int .i64 x2, .int .i64 x3] 59)).cell? ⟨w.heap.size, 12, none⟩ = some (.int .i64 t.pad) := (HX0.out.below hbV).cell 12 rfl
  have k13 : ((w.alloc (.cells (tbA t a) 39)).alloc (.cells #[.int .i64 x1, .int .i64 x2, .int .i64 x3] 59)).cell? ⟨w.heap.size, 13, none⟩ = some (.int .i64 t.grd) := (HX0.out.below hbV).cell 13 rfl
  have K : Hid (CellsAt ((w.alloc (.cells (tbA t a) 39)).alloc (.cells #[.int .i64 x1, .int .i64 x2, .int .i64 x3] 59)) (w.heap.size + 1) 0 [.int .i64 x1, .int .i64 x2, .int .i64 x3]) := CellsAt.new _ [.int .i64 x1, .int .i64 x2, .int .i64 x3] _ (w.heap.size + 1) (by simp)
  have c0 := cell0 K.out 0 rfl
  have c1 := cell0 K.out 1 rfl
  have c2 := cell0 K.out 2 rfl
  have hw1 : IntKind.i64.wrap (x2 + t.pad) = x2 + t.pad := by rw [IntKind.wrap_i64]; have := HZ.out; omega
  have hw2 : IntKind.i64.wrap (z - t.grd) = z - t.grd := by rw [IntKind.wrap_i64]; have := HZ.out; omega
  clear hbV HB0 HX0 K hx hp hg HZ
  go_enter Tryz.func89, Tryz.ntmps89
  go_wp2
  revert HBV k12 k13 c0 c1 c2
  generalize (w.alloc (.cells (tbA t a) 39)).alloc (.cells #[.int .i64 x1, .int .i64 x2, .int .i64 x3] 59) = V
  intro HBV k12 k13 c0 c1 c2
  have G12 := fun Y => gr_cell (W0 := V) k12 Y
  have G13 := fun Y => gr_cell (W0 := V) k13 Y
  have G0 := fun Y => gr_cell (W0 := V) c0 Y
  have G1 := fun Y => gr_cell (W0 := V) c1 Y
  have G2 := fun Y => gr_cell (W0 := V) c2 Y
  have hgr := gr_some V
  refine region_alike (by kernel_rfl) (by kernel_rfl) ?_
  repeat (go_big_quiet_step (first | (go_at_call 74; exact gr_call (HE.out _))))
  refine wpQuiet_nil ?_
  intro _ hw'
  obtain ⟨X1, rfl⟩ := hw'
  have HB2 : Hid (Below w.heap.size w X1.w) := HBV.out.trans (X1.h.mono HBV.out.size)
  generalize X1.w = W2 at HB2 ⊢
  clear G12 G13 G0 G1 G2 HE hgr k12 k13 c0 c1 c2 HBV
  try rw [hw1]
  try rw [hw2]
  go_wp2
  exact bodyPost_ret (v := .tuple #[.int .i64 (x2 + t.pad), .int .i64 (z - t.grd)]) (by simp [results, Tryz.results89, go_sem]) rfl ⟨rfl, HB2.out⟩
end Go.Proofs.YthieilkabcehgaaGreatDoor
