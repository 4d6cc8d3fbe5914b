
/-
  What the program's readers of a line return: readRun, readInput, readRestart. Conditions: the words lie in memory and are at most 1048576 bytes long.
-/
import Derived.Test.YtmnoghhdkdjnmaaGreatDoorBas
import Derived.Test.YtmnoghhdkdjnmaaGreatDoorPsm
namespace Go.Proofs.YtmnoghhdkdjnmaaGreatDoor
open Go.ChangeShapes Go.WideShapes Go.ChangeAt Go.RowKit Go.Deep Go.Joins
set_option linter.unusedVariables false

set_option maxRecDepth 40000 in
set_option maxHeartbeats 8000000 in
theorem rd_run0 (t : Tb) (a : Ad) (b off cap : Nat) (x0 : ByteArray) (w : World) (hc0 : w.cell? ⟨b, off, none⟩ = some (.string x0)) (hs0 : x0.size ≤ 1048576) (hq : Sr.numV x0 50000 = none) :
    Calls Tryz.prog 77 #[tbV t a, .slice (some ⟨b, off, none⟩) 1 cap] w fun e w' => e = .returned (.tuple #[.agg #[.int .i64 0, .int .i64 0, .int .u32 0], .int .i64 2]) ∧ Below w.heap.size w w' := by
  have HB0 : Hid (Below w.heap.size w ((w.alloc (.cells (tbA t a) 43)).alloc (.cells #[.int .i64 0, .int .i64 0, .int .u32 0] 62))) := ((Below.refl _ _).alloc (Nat.le_refl _) _).alloc (by simp) _
  have hbq : Below (w.alloc (.cells (tbA t a) 43)).heap.size (w.alloc (.cells (tbA t a) 43)) ((w.alloc (.cells (tbA t a) 43)).alloc (.cells #[.int .i64 0, .int .i64 0, .int .u32 0] 62)) := (Below.refl _ _).alloc (Nat.le_refl _) _
  have HX0 : Hid (TBx ((w.alloc (.cells (tbA t a) 43)).alloc (.cells #[.int .i64 0, .int .i64 0, .int .u32 0] 62)) w.heap.size t a) := (TBx.new w t a _ rfl).below hbq
  have HK0 : Hid (((w.alloc (.cells (tbA t a) 43)).alloc (.cells #[.int .i64 0, .int .i64 0, .int .u32 0] 62)).heap[w.heap.size + 1]? = some (.cells #[.int .i64 0, .int .i64 0, .int .u32 0] 62 (0, 0))) := new_row (w.alloc (.cells (tbA t a) 43)) #[.int .i64 0, .int .i64 0, .int .u32 0] 62 _ (by simp)
  have hv0 : ((w.alloc (.cells (tbA t a) 43)).alloc (.cells #[.int .i64 0, .int .i64 0, .int .u32 0] 62)).cell? ⟨b, off, none⟩ = some (.string x0) := (HB0.out.cell (World.block_lt_of_cell? w _ hc0)).trans hc0
  clear hbq HX0 hc0
  go_enter Tryz.func77, Tryz.ntmps77
  go_wp2_with fail
  refine Calls.mono (impl_num x0 50000 _ hs0) ?_
  rintro e V1 ⟨rfl, hbk⟩
  rw [show tell (Dc.ans (Tx.nums x0) 50000) = .returned (.tuple #[.int .i64 0, .bool false]) by rw [show Dc.ans (Tx.nums x0) 50000 = _ from hq]; rfl]
  have HB1n : Hid (Below w.heap.size w V1) := HB0.out.trans (hbk.mono HB0.out.size)
  have HK1n : Hid (V1.heap[w.heap.size + 1]? = some (.cells #[.int .i64 0, .int .i64 0, .int .u32 0] 62 (0, 0))) := row_below HK0.out hbk
  clear hbk HB0 HK0
  have HB1 := HB1n
  have HK1 := HK1n
  clear HB1n HK1n
  have HRF : Hid ((V1.setRow (w.heap.size + 1) #[.int .i64 0, .int .i64 0, .int .u32 0]).heap[w.heap.size + 1]? = some (.cells #[.int .i64 0, .int .i64 0, .int .u32 0] 62 (0, 0))) := setRow_heap _ _ _ _ _ _ HK1.out
  have n0 : (V1.setRow (w.heap.size + 1) #[.int .i64 0, .int .i64 0, .int .u32 0]).cell? ⟨w.heap.size + 1, 0, none⟩ = some (.int .i64 0) := row_c HRF.out 0 _ rfl
  have n1 : (V1.setRow (w.heap.size + 1) #[.int .i64 0, .int .i64 0, .int .u32 0]).cell? ⟨w.heap.size + 1, 1, none⟩ = some (.int .i64 0) := row_c HRF.out 1 _ rfl
  have n2 : (V1.setRow (w.heap.size + 1) #[.int .i64 0, .int .i64 0, .int .u32 0]).cell? ⟨w.heap.size + 1, 2, none⟩ = some (.int .u32 0) := row_c HRF.out 2 _ rfl
  have HBF : Hid (Below w.heap.size w (V1.setRow (w.heap.size + 1) #[.int .i64 0, .int .i64 0, .int .u32 0])) := below_setRow HB1.out (by omega) _
  go_wp2_with (first | (refine wpList_store_row rfl 62 (.tmp 4) (.tmp 22) rfl (w.heap.size + 1) #[.int .i64 0, .int .i64 0, .int .u32 0] rfl rfl 62 #[.int .i64 0, .int .i64 0, .int .u32 0] HK1.out (by kernel_rfl) rfl (by simp [Value.oneCell']) ?_) | fail)
  exact bodyPost_ret (v := .tuple #[.agg #[.int .i64 0, .int .i64 0, .int .u32 0], .int .i64 2]) (by simp [results, Tryz.results77, go_sem, n0, n1, n2]) rfl ⟨rfl, HBF.out⟩
set_option maxRecDepth 40000 in
set_option maxHeartbeats 8000000 in
theorem rd_run1 (t : Tb) (a : Ad) (b off cap : Nat) (x0 : ByteArray) (w : World) (hc0 : w.cell? ⟨b, off, none⟩ = some (.string x0)) (hs0 : x0.size ≤ 1048576) (m : Int) (hq : Sr.numV x0 50000 = some m) (hm : m < 0) :
    Calls Tryz.prog 77 #[tbV t a, .slice (some ⟨b, off, none⟩) 1 cap] w fun e w' => e = .returned (.tuple #[.agg #[.int .i64 0, .int .i64 0, .int .u32 0], .int .i64 2]) ∧ Below w.heap.size w w' := by
  have HB0 : Hid (Below w.heap.size w ((w.alloc (.cells (tbA t a) 43)).alloc (.cells #[.int .i64 0, .int .i64 0, .int .u32 0] 62))) := ((Below.refl _ _).alloc (Nat.le_refl _) _).alloc (by simp) _
  have hbq : Below (w.alloc (.cells (tbA t a) 43)).heap.size (w.alloc (.cells (tbA t a) 43)) ((w.alloc (.cells (tbA t a) 43)).alloc (.cells #[.int .i64 0, .int .i64 0, .int .u32 0] 62)) := (Below.refl _ _).alloc (Nat.le_refl _) _
  have HX0 : Hid (TBx ((w.alloc (.cells (tbA t a) 43)).alloc (.cells #[.int .i64 0, .int .i64 0, .int .u32 0] 62)) w.heap.size t a) := (TBx.new w t a _ rfl).below hbq
  have HK0 : Hid (((w.alloc (.cells (tbA t a) 43)).alloc (.cells #[.int .i64 0, .int .i64 0, .int .u32 0] 62)).heap[w.heap.size + 1]? = some (.cells #[.int .i64 0, .int .i64 0, .int .u32 0] 62 (0, 0))) := new_row (w.alloc (.cells (tbA t a) 43)) #[.int .i64 0, .int .i64 0, .int .u32 0] 62 _ (by simp)
  have hv0 : ((w.alloc (.cells (tbA t a) 43)).alloc (.cells #[.int .i64 0, .int .i64 0, .int .u32 0] 62)).cell? ⟨b, off, none⟩ = some (.string x0) := (HB0.out.cell (World.block_lt_of_cell? w _ hc0)).trans hc0
  clear hbq HX0 hc0
  go_enter Tryz.func77, Tryz.ntmps77
  go_wp2_with fail
  refine Calls.mono (impl_num x0 50000 _ hs0) ?_
  rintro e V1 ⟨rfl, hbk⟩
  rw [show tell (Dc.ans (Tx.nums x0) 50000) = .returned (.tuple #[.int .i64 m, .bool true]) by rw [show Dc.ans (Tx.nums x0) 50000 = _ from hq]; rfl]
  have HB1n : Hid (Below w.heap.size w V1) := HB0.out.trans (hbk.mono HB0.out.size)
  have HK1n : Hid (V1.heap[w.heap.size + 1]? = some (.cells #[.int .i64 0, .int .i64 0, .int .u32 0] 62 (0, 0))) := row_below HK0.out hbk
  clear hbk HB0 HK0
  have HB1 := HB1n
  have HK1 := HK1n
  clear HB1n HK1n
  have HIS : Hid (∀ X, Calls Tryz.prog 64 #[.int .i64 m] X fun e w' => e = .returned (.bool false) ∧ w' = X) := fun X => is_cycle m _ X (decide_eq_false (by omega))
  go_wp2_with fail
  refine Calls.mono (HIS.out _) ?_
  rintro e V9 ⟨rfl, hV9⟩
  rw [hV9]
  clear hV9
  have HRF : Hid ((V1.setRow (w.heap.size + 1) #[.int .i64 0, .int .i64 0, .int .u32 0]).heap[w.heap.size + 1]? = some (.cells #[.int .i64 0, .int .i64 0, .int .u32 0] 62 (0, 0))) := setRow_heap _ _ _ _ _ _ HK1.out
  have n0 : (V1.setRow (w.heap.size + 1) #[.int .i64 0, .int .i64 0, .int .u32 0]).cell? ⟨w.heap.size + 1, 0, none⟩ = some (.int .i64 0) := row_c HRF.out 0 _ rfl
  have n1 : (V1.setRow (w.heap.size + 1) #[.int .i64 0, .int .i64 0, .int .u32 0]).cell? ⟨w.heap.size + 1, 1, none⟩ = some (.int .i64 0) := row_c HRF.out 1 _ rfl
  have n2 : (V1.setRow (w.heap.size + 1) #[.int .i64 0, .int .i64 0, .int .u32 0]).cell? ⟨w.heap.size + 1, 2, none⟩ = some (.int .u32 0) := row_c HRF.out 2 _ rfl
  have HBF : Hid (Below w.heap.size w (V1.setRow (w.heap.size + 1) #[.int .i64 0, .int .i64 0, .int .u32 0])) := below_setRow HB1.out (by omega) _
  go_wp2_with (first | (refine wpList_store_row rfl 62 (.tmp 4) (.tmp 22) rfl (w.heap.size + 1) #[.int .i64 0, .int .i64 0, .int .u32 0] rfl rfl 62 #[.int .i64 0, .int .i64 0, .int .u32 0] HK1.out (by kernel_rfl) rfl (by simp [Value.oneCell']) ?_) | fail)
  exact bodyPost_ret (v := .tuple #[.agg #[.int .i64 0, .int .i64 0, .int .u32 0], .int .i64 2]) (by simp [results, Tryz.results77, go_sem, n0, n1, n2]) rfl ⟨rfl, HBF.out⟩
set_option maxRecDepth 40000 in
set_option maxHeartbeats 8000000 in
theorem rd_run2 (t : Tb) (a : Ad) (b off cap : Nat) (x0 : ByteArray) (w : World) (hc0 : w.cell? ⟨b, off, none⟩ = some (.string x0)) (hs0 : x0.size ≤ 1048576) (m : Int) (hq : Sr.numV x0 50000 = some m) (hm : ¬ m < 0) (hm2 : m ≤ 50000) :
    Calls Tryz.prog 77 #[tbV t a, .slice (some ⟨b, off, none⟩) 1 cap] w fun e w' => e = .returned (.tuple #[.agg #[.int .i64 0, .int .i64 m, .int .u32 0], .int .i64 0]) ∧ Below w.heap.size w w' := by
  have HB0 : Hid (Below w.heap.size w ((w.alloc (.cells (tbA t a) 43)).alloc (.cells #[.int .i64 0, .int .i64 0, .int .u32 0] 62))) := ((Below.refl _ _).alloc (Nat.le_refl _) _).alloc (by simp) _
  have hbq : Below (w.alloc (.cells (tbA t a) 43)).heap.size (w.alloc (.cells (tbA t a) 43)) ((w.alloc (.cells (tbA t a) 43)).alloc (.cells #[.int .i64 0, .int .i64 0, .int .u32 0] 62)) := (Below.refl _ _).alloc (Nat.le_refl _) _
  have HX0 : Hid (TBx ((w.alloc (.cells (tbA t a) 43)).alloc (.cells #[.int .i64 0, .int .i64 0, .int .u32 0] 62)) w.heap.size t a) := (TBx.new w t a _ rfl).below hbq
  have HK0 : Hid (((w.alloc (.cells (tbA t a) 43)).alloc (.cells #[.int .i64 0, .int .i64 0, .int .u32 0] 62)).heap[w.heap.size + 1]? = some (.cells #[.int .i64 0, .int .i64 0, .int .u32 0] 62 (0, 0))) := new_row (w.alloc (.cells (tbA t a) 43)) #[.int .i64 0, .int .i64 0, .int .u32 0] 62 _ (by simp)
  have hv0 : ((w.alloc (.cells (tbA t a) 43)).alloc (.cells #[.int .i64 0, .int .i64 0, .int .u32 0] 62)).cell? ⟨b, off, none⟩ = some (.string x0) := (HB0.out.cell (World.block_lt_of_cell? w _ hc0)).trans hc0
  clear hbq HX0 hc0
  go_enter Tryz.func77, Tryz.ntmps77
  go_wp2_with fail
  refine Calls.mono (impl_num x0 50000 _ hs0) ?_
  rintro e V1 ⟨rfl, hbk⟩
  rw [show tell (Dc.ans (Tx.nums x0) 50000) = .returned (.tuple #[.int .i64 m, .bool true]) by rw [show Dc.ans (Tx.nums x0) 50000 = _ from hq]; rfl]
  have HB1n : Hid (Below w.heap.size w V1) := HB0.out.trans (hbk.mono HB0.out.size)
  have HK1n : Hid (V1.heap[w.heap.size + 1]? = some (.cells #[.int .i64 0, .int .i64 0, .int .u32 0] 62 (0, 0))) := row_below HK0.out hbk
  clear hbk HB0 HK0
  have HB1 := HB1n
  have HK1 := HK1n
  clear HB1n HK1n
  have HIS : Hid (∀ X, Calls Tryz.prog 64 #[.int .i64 m] X fun e w' => e = .returned (.bool true) ∧ w' = X) := fun X => is_cycle m _ X (decide_eq_true (by omega))
  go_wp2_with fail
  refine Calls.mono (HIS.out _) ?_
  rintro e V9 ⟨rfl, hV9⟩
  rw [hV9]
  clear hV9
  have HRF : Hid ((V1.setRow (w.heap.size + 1) #[.int .i64 0, .int .i64 m, .int .u32 0]).heap[w.heap.size + 1]? = some (.cells #[.int .i64 0, .int .i64 m, .int .u32 0] 62 (0, 0))) := setRow_heap _ _ _ _ _ _ HK1.out
  have n0 : (V1.setRow (w.heap.size + 1) #[.int .i64 0, .int .i64 m, .int .u32 0]).cell? ⟨w.heap.size + 1, 0, none⟩ = some (.int .i64 0) := row_c HRF.out 0 _ rfl
  have n1 : (V1.setRow (w.heap.size + 1) #[.int .i64 0, .int .i64 m, .int .u32 0]).cell? ⟨w.heap.size + 1, 1, none⟩ = some (.int .i64 m) := row_c HRF.out 1 _ rfl
  have n2 : (V1.setRow (w.heap.size + 1) #[.int .i64 0, .int .i64 m, .int .u32 0]).cell? ⟨w.heap.size + 1, 2, none⟩ = some (.int .u32 0) := row_c HRF.out 2 _ rfl
  have HBF : Hid (Below w.heap.size w (V1.setRow (w.heap.size + 1) #[.int .i64 0, .int .i64 m, .int .u32 0])) := below_setRow HB1.out (by omega) _
  go_wp2_with (first | (refine wpList_store_row rfl 62 (.tmp 4) (.tmp 24) rfl (w.heap.size + 1) #[.int .i64 0, .int .i64 m, .int .u32 0] rfl rfl 62 #[.int .i64 0, .int .i64 0, .int .u32 0] HK1.out (by kernel_rfl) rfl (by simp [Value.oneCell']) ?_) | fail)
  exact bodyPost_ret (v := .tuple #[.agg #[.int .i64 0, .int .i64 m, .int .u32 0], .int .i64 0]) (by simp [results, Tryz.results77, go_sem, n0, n1, n2]) rfl ⟨rfl, HBF.out⟩
set_option maxRecDepth 40000 in
set_option maxHeartbeats 8000000 in
theorem rd_inp0 (t : Tb) (a : Ad) (b off cap : Nat) (x0 x1 : ByteArray) (w : World) (hc0 : w.cell? ⟨b, off, none⟩ = some (.string x0)) (hs0 : x0.size ≤ 1048576) (hc1 : w.cell? ⟨b, off + 1, none⟩ = some (.string x1)) (hs1 : x1.size ≤ 1048576) (hq : Sr.numV x0 7 = none) (q2 : Option Int) (hr : Sr.numV x1 4294967295 = q2) :
    Calls Tryz.prog 78 #[tbV t a, .slice (some ⟨b, off, none⟩) 2 cap] w fun e w' => e = .returned (.tuple #[.agg #[.int .i64 0, .int .i64 0, .int .u32 0], .int .i64 2]) ∧ Below w.heap.size w w' := by
  have HB0 : Hid (Below w.heap.size w ((w.alloc (.cells (tbA t a) 43)).alloc (.cells #[.int .i64 0, .int .i64 0, .int .u32 0] 62))) := ((Below.refl _ _).alloc (Nat.le_refl _) _).alloc (by simp) _
  have hbq : Below (w.alloc (.cells (tbA t a) 43)).heap.size (w.alloc (.cells (tbA t a) 43)) ((w.alloc (.cells (tbA t a) 43)).alloc (.cells #[.int .i64 0, .int .i64 0, .int .u32 0] 62)) := (Below.refl _ _).alloc (Nat.le_refl _) _
  have HX0 : Hid (TBx ((w.alloc (.cells (tbA t a) 43)).alloc (.cells #[.int .i64 0, .int .i64 0, .int .u32 0] 62)) w.heap.size t a) := (TBx.new w t a _ rfl).below hbq
  have HK0 : Hid (((w.alloc (.cells (tbA t a) 43)).alloc (.cells #[.int .i64 0, .int .i64 0, .int .u32 0] 62)).heap[w.heap.size + 1]? = some (.cells #[.int .i64 0, .int .i64 0, .int .u32 0] 62 (0, 0))) := new_row (w.alloc (.cells (tbA t a) 43)) #[.int .i64 0, .int .i64 0, .int .u32 0] 62 _ (by simp)
  have hv0 : ((w.alloc (.cells (tbA t a) 43)).alloc (.cells #[.int .i64 0, .int .i64 0, .int .u32 0] 62)).cell? ⟨b, off, none⟩ = some (.string x0) := (HB0.out.cell (World.block_lt_of_cell? w _ hc0)).trans hc0
  have hv1 : ((w.alloc (.cells (tbA t a) 43)).alloc (.cells #[.int .i64 0, .int .i64 0, .int .u32 0] 62)).cell? ⟨b, off + 1, none⟩ = some (.string x1) := (HB0.out.cell (World.block_lt_of_cell? w _ hc1)).trans hc1
  clear hbq HX0 hc0 hc1
  go_enter Tryz.func78, Tryz.ntmps78
  go_wp2_with fail
  refine Calls.mono (impl_num x0 7 _ hs0) ?_
  rintro e V1 ⟨rfl, hbk⟩
  rw [show tell (Dc.ans (Tx.nums x0) 7) = .returned (.tuple #[.int .i64 0, .bool false]) by rw [show Dc.ans (Tx.nums x0) 7 = _ from hq]; rfl]
  have HB1n : Hid (Below w.heap.size w V1) := HB0.out.trans (hbk.mono HB0.out.size)
  have HK1n : Hid (V1.heap[w.heap.size + 1]? = some (.cells #[.int .i64 0, .int .i64 0, .int .u32 0] 62 (0, 0))) := row_below HK0.out hbk
  replace hv1 := cell_kept hbk hv1
  clear hbk HB0 HK0
  have HB1 := HB1n
  have HK1 := HK1n
  clear HB1n HK1n
  go_wp2_with fail
  refine Calls.mono (impl_num x1 4294967295 _ hs1) ?_
  rintro e V2 ⟨rfl, hbk⟩
  rw [show Dc.ans (Tx.nums x1) 4294967295 = q2 from hr]
  obtain ⟨i2, o2, ht2⟩ : ∃ i o, tell q2 = .returned (.tuple #[.int .i64 i, .bool o]) := ⟨_, _, rfl⟩
  rw [ht2]
  have HB1n : Hid (Below w.heap.size w V2) := HB1.out.trans (hbk.mono HB1.out.size)
  have HK1n : Hid (V2.heap[w.heap.size + 1]? = some (.cells #[.int .i64 0, .int .i64 0, .int .u32 0] 62 (0, 0))) := row_below HK1.out hbk
  clear hbk HB1 HK1
  have HB1 := HB1n
  have HK1 := HK1n
  clear HB1n HK1n
  have HRF : Hid ((V2.setRow (w.heap.size + 1) #[.int .i64 0, .int .i64 0, .int .u32 0]).heap[w.heap.size + 1]? = some (.cells #[.int .i64 0, .int .i64 0, .int .u32 0] 62 (0, 0))) := setRow_heap _ _ _ _ _ _ HK1.out
  have n0 : (V2.setRow (w.heap.size + 1) #[.int .i64 0, .int .i64 0, .int .u32 0]).cell? ⟨w.heap.size + 1, 0, none⟩ = some (.int .i64 0) := row_c HRF.out 0 _ rfl
  have n1 : (V2.setRow (w.heap.size + 1) #[.int .i64 0, .int .i64 0, .int .u32 0]).cell? ⟨w.heap.size + 1, 1, none⟩ = some (.int .i64 0) := row_c HRF.out 1 _ rfl
  have n2 : (V2.setRow (w.heap.size + 1) #[.int .i64 0, .int .i64 0, .int .u32 0]).cell? ⟨w.heap.size + 1, 2, none⟩ = some (.int .u32 0) := row_c HRF.out 2 _ rfl
  have HBF : Hid (Below w.heap.size w (V2.setRow (w.heap.size + 1) #[.int .i64 0, .int .i64 0, .int .u32 0])) := below_setRow HB1.out (by omega) _
  go_wp2_with (first | (refine wpList_store_row rfl 62 (.tmp 4) (.tmp 39) rfl (w.heap.size + 1) #[.int .i64 0, .int .i64 0, .int .u32 0] rfl rfl 62 #[.int .i64 0, .int .i64 0, .int .u32 0] HK1.out (by kernel_rfl) rfl (by simp [Value.oneCell']) ?_) | fail)
  exact bodyPost_ret (v := .tuple #[.agg #[.int .i64 0, .int .i64 0, .int .u32 0], .int .i64 2]) (by simp [results, Tryz.results78, go_sem, n0, n1, n2]) rfl ⟨rfl, HBF.out⟩
set_option maxRecDepth 40000 in
set_option maxHeartbeats 8000000 in
theorem rd_inp1 (t : Tb) (a : Ad) (b off cap : Nat) (x0 x1 : ByteArray) (w : World) (hc0 : w.cell? ⟨b, off, none⟩ = some (.string x0)) (hs0 : x0.size ≤ 1048576) (hc1 : w.cell? ⟨b, off + 1, none⟩ = some (.string x1)) (hs1 : x1.size ≤ 1048576) (d : Int) (hq : Sr.numV x0 7 = some d) (hr : Sr.numV x1 4294967295 = none) :
    Calls Tryz.prog 78 #[tbV t a, .slice (some ⟨b, off, none⟩) 2 cap] w fun e w' => e = .returned (.tuple #[.agg #[.int .i64 0, .int .i64 0, .int .u32 0], .int .i64 2]) ∧ Below w.heap.size w w' := by
  have HB0 : Hid (Below w.heap.size w ((w.alloc (.cells (tbA t a) 43)).alloc (.cells #[.int .i64 0, .int .i64 0, .int .u32 0] 62))) := ((Below.refl _ _).alloc (Nat.le_refl _) _).alloc (by simp) _
  have hbq : Below (w.alloc (.cells (tbA t a) 43)).heap.size (w.alloc (.cells (tbA t a) 43)) ((w.alloc (.cells (tbA t a) 43)).alloc (.cells #[.int .i64 0, .int .i64 0, .int .u32 0] 62)) := (Below.refl _ _).alloc (Nat.le_refl _) _
  have HX0 : Hid (TBx ((w.alloc (.cells (tbA t a) 43)).alloc (.cells #[.int .i64 0, .int .i64 0, .int .u32 0] 62)) w.heap.size t a) := (TBx.new w t a _ rfl).below hbq
  have HK0 : Hid (((w.alloc (.cells (tbA t a) 43)).alloc (.cells #[.int .i64 0, .int .i64 0, .int .u32 0] 62)).heap[w.heap.size + 1]? = some (.cells #[.int .i64 0, .int .i64 0, .int .u32 0] 62 (0, 0))) := new_row (w.alloc (.cells (tbA t a) 43)) #[.int .i64 0, .int .i64 0, .int .u32 0] 62 _ (by simp)
  have hv0 : ((w.alloc (.cells (tbA t a) 43)).alloc (.cells #[.int .i64 0, .int .i64 0, .int .u32 0] 62)).cell? ⟨b, off, none⟩ = some (.string x0) := (HB0.out.cell (World.block_lt_of_cell? w _ hc0)).trans hc0
  have hv1 : ((w.alloc (.cells (tbA t a) 43)).alloc (.cells #[.int .i64 0, .int .i64 0, .int .u32 0] 62)).cell? ⟨b, off + 1, none⟩ = some (.string x1) := (HB0.out.cell (World.block_lt_of_cell? w _ hc1)).trans hc1
  clear hbq HX0 hc0 hc1
  go_enter Tryz.func78, Tryz.ntmps78
  go_wp2_with fail
  refine Calls.mono (impl_num x0 7 _ hs0) ?_
  rintro e V1 ⟨rfl, hbk⟩
  rw [show tell (Dc.ans (Tx.nums x0) 7) = .returned (.tuple #[.int .i64 d, .bool true]) by rw [show Dc.ans (Tx.nums x0) 7 = _ from hq]; rfl]
  have HB1n : Hid (Below w.heap.size w V1) := HB0.out.trans (hbk.mono HB0.out.size)
  have HK1n : Hid (V1.heap[w.heap.size + 1]? = some (.cells #[.int .i64 0, .int .i64 0, .int .u32 0] 62 (0, 0))) := row_below HK0.out hbk
  replace hv1 := cell_kept hbk hv1
  clear hbk HB0 HK0
  have HB1 := HB1n
  have HK1 := HK1n
  clear HB1n HK1n
  go_wp2_with fail
  refine Calls.mono (impl_num x1 4294967295 _ hs1) ?_
  rintro e V2 ⟨rfl, hbk⟩
  rw [show tell (Dc.ans (Tx.nums x1) 4294967295) = .returned (.tuple #[.int .i64 0, .bool false]) by rw [show Dc.ans (Tx.nums x1) 4294967295 = _ from hr]; rfl]
  have HB1n : Hid (Below w.heap.size w V2) := HB1.out.trans (hbk.mono HB1.out.size)
  have HK1n : Hid (V2.heap[w.heap.size + 1]? = some (.cells #[.int .i64 0, .int .i64 0, .int .u32 0] 62 (0, 0))) := row_below HK1.out hbk
  clear hbk HB1 HK1
  have HB1 := HB1n
  have HK1 := HK1n
  clear HB1n HK1n
  have HRF : Hid ((V2.setRow (w.heap.size + 1) #[.int .i64 0, .int .i64 0, .int .u32 0]).heap[w.heap.size + 1]? = some (.cells #[.int .i64 0, .int .i64 0, .int .u32 0] 62 (0, 0))) := setRow_heap _ _ _ _ _ _ HK1.out
  have n0 : (V2.setRow (w.heap.size + 1) #[.int .i64 0, .int .i64 0, .int .u32 0]).cell? ⟨w.heap.size + 1, 0, none⟩ = some (.int .i64 0) := row_c HRF.out 0 _ rfl
  have n1 : (V2.setRow (w.heap.size + 1) #[.int .i64 0, .int .i64 0, .int .u32 0]).cell? ⟨w.heap.size + 1, 1, none⟩ = some (.int .i64 0) := row_c HRF.out 1 _ rfl
  have n2 : (V2.setRow (w.heap.size + 1) #[.int .i64 0, .int .i64 0, .int .u32 0]).cell? ⟨w.heap.size + 1, 2, none⟩ = some (.int .u32 0) := row_c HRF.out 2 _ rfl
  have HBF : Hid (Below w.heap.size w (V2.setRow (w.heap.size + 1) #[.int .i64 0, .int .i64 0, .int .u32 0])) := below_setRow HB1.out (by omega) _
  go_wp2_with (first | (refine wpList_store_row rfl 62 (.tmp 4) (.tmp 39) rfl (w.heap.size + 1) #[.int .i64 0, .int .i64 0, .int .u32 0] rfl rfl 62 #[.int .i64 0, .int .i64 0, .int .u32 0] HK1.out (by kernel_rfl) rfl (by simp [Value.oneCell']) ?_) | fail)
  exact bodyPost_ret (v := .tuple #[.agg #[.int .i64 0, .int .i64 0, .int .u32 0], .int .i64 2]) (by simp [results, Tryz.results78, go_sem, n0, n1, n2]) rfl ⟨rfl, HBF.out⟩
set_option maxRecDepth 40000 in
set_option maxHeartbeats 8000000 in
theorem rd_inp2 (t : Tb) (a : Ad) (b off cap : Nat) (x0 x1 : ByteArray) (w : World) (hc0 : w.cell? ⟨b, off, none⟩ = some (.string x0)) (hs0 : x0.size ≤ 1048576) (hc1 : w.cell? ⟨b, off + 1, none⟩ = some (.string x1)) (hs1 : x1.size ≤ 1048576) (d v : Int) (hq : Sr.numV x0 7 = some d) (hr : Sr.numV x1 4294967295 = some v) (hd : d < 0) :
    Calls Tryz.prog 78 #[tbV t a, .slice (some ⟨b, off, none⟩) 2 cap] w fun e w' => e = .returned (.tuple #[.agg #[.int .i64 0, .int .i64 0, .int .u32 0], .int .i64 2]) ∧ Below w.heap.size w w' := by
  have HB0 : Hid (Below w.heap.size w ((w.alloc (.cells (tbA t a) 43)).alloc (.cells #[.int .i64 0, .int .i64 0, .int .u32 0] 62))) := ((Below.refl _ _).alloc (Nat.le_refl _) _).alloc (by simp) _
  have hbq : Below (w.alloc (.cells (tbA t a) 43)).heap.size (w.alloc (.cells (tbA t a) 43)) ((w.alloc (.cells (tbA t a) 43)).alloc (.cells #[.int .i64 0, .int .i64 0, .int .u32 0] 62)) := (Below.refl _ _).alloc (Nat.le_refl _) _
  have HX0 : Hid (TBx ((w.alloc (.cells (tbA t a) 43)).alloc (.cells #[.int .i64 0, .int .i64 0, .int .u32 0] 62)) w.heap.size t a) := (TBx.new w t a _ rfl).below hbq
  have HK0 : Hid (((w.alloc (.cells (tbA t a) 43)).alloc (.cells #[.int .i64 0, .int .i64 0, .int .u32 0] 62)).heap[w.heap.size + 1]? = some (.cells #[.int .i64 0, .int .i64 0, .int .u32 0] 62 (0, 0))) := new_row (w.alloc (.cells (tbA t a) 43)) #[.int .i64 0, .int .i64 0, .int .u32 0] 62 _ (by simp)
  have hv0 : ((w.alloc (.cells (tbA t a) 43)).alloc (.cells #[.int .i64 0, .int .i64 0, .int .u32 0] 62)).cell? ⟨b, off, none⟩ = some (.string x0) := (HB0.out.cell (World.block_lt_of_cell? w _ hc0)).trans hc0
  have hv1 : ((w.alloc (.cells (tbA t a) 43)).alloc (.cells #[.int .i64 0, .int .i64 0, .int .u32 0] 62)).cell? ⟨b, off + 1, none⟩ = some (.string x1) := (HB0.out.cell (World.block_lt_of_cell? w _ hc1)).trans hc1
  clear hbq HX0 hc0 hc1
  go_enter Tryz.func78, Tryz.ntmps78
  go_wp2_with fail
  refine Calls.mono (impl_num x0 7 _ hs0) ?_
  rintro e V1 ⟨rfl, hbk⟩
  rw [show tell (Dc.ans (Tx.nums x0) 7) = .returned (.tuple #[.int .i64 d, .bool true]) by rw [show Dc.ans (Tx.nums x0) 7 = _ from hq]; rfl]
  have HB1n : Hid (Below w.heap.size w V1) := HB0.out.trans (hbk.mono HB0.out.size)
  have HK1n : Hid (V1.heap[w.heap.size + 1]? = some (.cells #[.int .i64 0, .int .i64 0, .int .u32 0] 62 (0, 0))) := row_below HK0.out hbk
  replace hv1 := cell_kept hbk hv1
  clear hbk HB0 HK0
  have HB1 := HB1n
  have HK1 := HK1n
  clear HB1n HK1n
  go_wp2_with fail
  refine Calls.mono (impl_num x1 4294967295 _ hs1) ?_
  rintro e V2 ⟨rfl, hbk⟩
  rw [show tell (Dc.ans (Tx.nums x1) 4294967295) = .returned (.tuple #[.int .i64 v, .bool true]) by rw [show Dc.ans (Tx.nums x1) 4294967295 = _ from hr]; rfl]
  have HB1n : Hid (Below w.heap.size w V2) := HB1.out.trans (hbk.mono HB1.out.size)
  have HK1n : Hid (V2.heap[w.heap.size + 1]? = some (.cells #[.int .i64 0, .int .i64 0, .int .u32 0] 62 (0, 0))) := row_below HK1.out hbk
  clear hbk HB1 HK1
  have HB1 := HB1n
  have HK1 := HK1n
  clear HB1n HK1n
  have HIS : Hid (∀ X, Calls Tryz.prog 66 #[.int .i64 d] X fun e w' => e = .returned (.bool false) ∧ w' = X) := fun X => is_dev d _ X (decide_eq_false (by omega))
  go_wp2_with fail
  refine Calls.mono (HIS.out _) ?_
  rintro e V9 ⟨rfl, hV9⟩
  rw [hV9]
  clear hV9
  have HRF : Hid ((V2.setRow (w.heap.size + 1) #[.int .i64 0, .int .i64 0, .int .u32 0]).heap[w.heap.size + 1]? = some (.cells #[.int .i64 0, .int .i64 0, .int .u32 0] 62 (0, 0))) := setRow_heap _ _ _ _ _ _ HK1.out
  have n0 : (V2.setRow (w.heap.size + 1) #[.int .i64 0, .int .i64 0, .int .u32 0]).cell? ⟨w.heap.size + 1, 0, none⟩ = some (.int .i64 0) := row_c HRF.out 0 _ rfl
  have n1 : (V2.setRow (w.heap.size + 1) #[.int .i64 0, .int .i64 0, .int .u32 0]).cell? ⟨w.heap.size + 1, 1, none⟩ = some (.int .i64 0) := row_c HRF.out 1 _ rfl
  have n2 : (V2.setRow (w.heap.size + 1) #[.int .i64 0, .int .i64 0, .int .u32 0]).cell? ⟨w.heap.size + 1, 2, none⟩ = some (.int .u32 0) := row_c HRF.out 2 _ rfl
  have HBF : Hid (Below w.heap.size w (V2.setRow (w.heap.size + 1) #[.int .i64 0, .int .i64 0, .int .u32 0])) := below_setRow HB1.out (by omega) _
  go_wp2_with (first | (refine wpList_store_row rfl 62 (.tmp 4) (.tmp 39) rfl (w.heap.size + 1) #[.int .i64 0, .int .i64 0, .int .u32 0] rfl rfl 62 #[.int .i64 0, .int .i64 0, .int .u32 0] HK1.out (by kernel_rfl) rfl (by simp [Value.oneCell']) ?_) | fail)
  exact bodyPost_ret (v := .tuple #[.agg #[.int .i64 0, .int .i64 0, .int .u32 0], .int .i64 2]) (by simp [results, Tryz.results78, go_sem, n0, n1, n2]) rfl ⟨rfl, HBF.out⟩
set_option maxRecDepth 40000 in
set_option maxHeartbeats 8000000 in
theorem rd_inp3 (t : Tb) (a : Ad) (b off cap : Nat) (x0 x1 : ByteArray) (w : World) (hc0 : w.cell? ⟨b, off, none⟩ = some (.string x0)) (hs0 : x0.size ≤ 1048576) (hc1 : w.cell? ⟨b, off + 1, none⟩ = some (.string x1)) (hs1 : x1.size ≤ 1048576) (d v : Int) (hq : Sr.numV x0 7 = some d) (hr : Sr.numV x1 4294967295 = some v) (hd : ¬ d < 0) (hd2 : d ≤ 7) (hv : v < 0) :
    Calls Tryz.prog 78 #[tbV t a, .slice (some ⟨b, off, none⟩) 2 cap] w fun e w' => e = .returned (.tuple #[.agg #[.int .i64 0, .int .i64 0, .int .u32 0], .int .i64 2]) ∧ Below w.heap.size w w' := by
  have HB0 : Hid (Below w.heap.size w ((w.alloc (.cells (tbA t a) 43)).alloc (.cells #[.int .i64 0, .int .i64 0, .int .u32 0] 62))) := ((Below.refl _ _).alloc (Nat.le_refl _) _).alloc (by simp) _
  have hbq : Below (w.alloc (.cells (tbA t a) 43)).heap.size (w.alloc (.cells (tbA t a) 43)) ((w.alloc (.cells (tbA t a) 43)).alloc (.cells #[.int .i64 0, .int .i64 0, .int .u32 0] 62)) := (Below.refl _ _).alloc (Nat.le_refl _) _
  have HX0 : Hid (TBx ((w.alloc (.cells (tbA t a) 43)).alloc (.cells #[.int .i64 0, .int .i64 0, .int .u32 0] 62)) w.heap.size t a) := (TBx.new w t a _ rfl).below hbq
  have HK0 : Hid (((w.alloc (.cells (tbA t a) 43)).alloc (.cells #[.int .i64 0, .int .i64 0, .int .u32 0] 62)).heap[w.heap.size + 1]? = some (.cells #[.int .i64 0, .int .i64 0, .int .u32 0] 62 (0, 0))) := new_row (w.alloc (.cells (tbA t a) 43)) #[.int .i64 0, .int .i64 0, .int .u32 0] 62 _ (by simp)
  have hv0 : ((w.alloc (.cells (tbA t a) 43)).alloc (.cells #[.int .i64 0, .int .i64 0, .int .u32 0] 62)).cell? ⟨b, off, none⟩ = some (.string x0) := (HB0.out.cell (World.block_lt_of_cell? w _ hc0)).trans hc0
  have hv1 : ((w.alloc (.cells (tbA t a) 43)).alloc (.cells #[.int .i64 0, .int .i64 0, .int .u32 0] 62)).cell? ⟨b, off + 1, none⟩ = some (.string x1) := (HB0.out.cell (World.block_lt_of_cell? w _ hc1)).trans hc1
  clear hbq HX0 hc0 hc1
  go_enter Tryz.func78, Tryz.ntmps78
  go_wp2_with fail
  refine Calls.mono (impl_num x0 7 _ hs0) ?_
  rintro e V1 ⟨rfl, hbk⟩
  rw [show tell (Dc.ans (Tx.nums x0) 7) = .returned (.tuple #[.int .i64 d, .bool true]) by rw [show Dc.ans (Tx.nums x0) 7 = _ from hq]; rfl]
  have HB1n : Hid (Below w.heap.size w V1) := HB0.out.trans (hbk.mono HB0.out.size)
  have HK1n : Hid (V1.heap[w.heap.size + 1]? = some (.cells #[.int .i64 0, .int .i64 0, .int .u32 0] 62 (0, 0))) := row_below HK0.out hbk
  replace hv1 := cell_kept hbk hv1
  clear hbk HB0 HK0
  have HB1 := HB1n
  have HK1 := HK1n
  clear HB1n HK1n
  go_wp2_with fail
  refine Calls.mono (impl_num x1 4294967295 _ hs1) ?_
  rintro e V2 ⟨rfl, hbk⟩
  rw [show tell (Dc.ans (Tx.nums x1) 4294967295) = .returned (.tuple #[.int .i64 v, .bool true]) by rw [show Dc.ans (Tx.nums x1) 4294967295 = _ from hr]; rfl]
  have HB1n : Hid (Below w.heap.size w V2) := HB1.out.trans (hbk.mono HB1.out.size)
  have HK1n : Hid (V2.heap[w.heap.size + 1]? = some (.cells #[.int .i64 0, .int .i64 0, .int .u32 0] 62 (0, 0))) := row_below HK1.out hbk
  clear hbk HB1 HK1
  have HB1 := HB1n
  have HK1 := HK1n
  clear HB1n HK1n
  have HIS : Hid (∀ X, Calls Tryz.prog 66 #[.int .i64 d] X fun e w' => e = .returned (.bool true) ∧ w' = X) := fun X => is_dev d _ X (decide_eq_true (by omega))
  go_wp2_with fail
  refine Calls.mono (HIS.out _) ?_
  rintro e V9 ⟨rfl, hV9⟩
  rw [hV9]
  clear hV9
  have HRF : Hid ((V2.setRow (w.heap.size + 1) #[.int .i64 0, .int .i64 0, .int .u32 0]).heap[w.heap.size + 1]? = some (.cells #[.int .i64 0, .int .i64 0, .int .u32 0] 62 (0, 0))) := setRow_heap _ _ _ _ _ _ HK1.out
  have n0 : (V2.setRow (w.heap.size + 1) #[.int .i64 0, .int .i64 0, .int .u32 0]).cell? ⟨w.heap.size + 1, 0, none⟩ = some (.int .i64 0) := row_c HRF.out 0 _ rfl
  have n1 : (V2.setRow (w.heap.size + 1) #[.int .i64 0, .int .i64 0, .int .u32 0]).cell? ⟨w.heap.size + 1, 1, none⟩ = some (.int .i64 0) := row_c HRF.out 1 _ rfl
  have n2 : (V2.setRow (w.heap.size + 1) #[.int .i64 0, .int .i64 0, .int .u32 0]).cell? ⟨w.heap.size + 1, 2, none⟩ = some (.int .u32 0) := row_c HRF.out 2 _ rfl
  have HBF : Hid (Below w.heap.size w (V2.setRow (w.heap.size + 1) #[.int .i64 0, .int .i64 0, .int .u32 0])) := below_setRow HB1.out (by omega) _
  go_wp2_with (first | (refine wpList_store_row rfl 62 (.tmp 4) (.tmp 39) rfl (w.heap.size + 1) #[.int .i64 0, .int .i64 0, .int .u32 0] rfl rfl 62 #[.int .i64 0, .int .i64 0, .int .u32 0] HK1.out (by kernel_rfl) rfl (by simp [Value.oneCell']) ?_) | fail)
  exact bodyPost_ret (v := .tuple #[.agg #[.int .i64 0, .int .i64 0, .int .u32 0], .int .i64 2]) (by simp [results, Tryz.results78, go_sem, n0, n1, n2]) rfl ⟨rfl, HBF.out⟩
set_option maxRecDepth 40000 in
set_option maxHeartbeats 8000000 in
theorem rd_inp4 (t : Tb) (a : Ad) (b off cap : Nat) (x0 x1 : ByteArray) (w : World) (hc0 : w.cell? ⟨b, off, none⟩ = some (.string x0)) (hs0 : x0.size ≤ 1048576) (hc1 : w.cell? ⟨b, off + 1, none⟩ = some (.string x1)) (hs1 : x1.size ≤ 1048576) (d v u : Int) (hq : Sr.numV x0 7 = some d) (hr : Sr.numV x1 4294967295 = some v) (hd : ¬ d < 0) (hd2 : d ≤ 7) (hv : ¬ v < 0) (hu : IntKind.u32.wrap v = u) :
    Calls Tryz.prog 78 #[tbV t a, .slice (some ⟨b, off, none⟩) 2 cap] w fun e w' => e = .returned (.tuple #[.agg #[.int .i64 1, .int .i64 d, .int .u32 u], .int .i64 0]) ∧ Below w.heap.size w w' := by
  have HB0 : Hid (Below w.heap.size w ((w.alloc (.cells (tbA t a) 43)).alloc (.cells #[.int .i64 0, .int .i64 0, .int .u32 0] 62))) := ((Below.refl _ _).alloc (Nat.le_refl _) _).alloc (by simp) _
  have hbq : Below (w.alloc (.cells (tbA t a) 43)).heap.size (w.alloc (.cells (tbA t a) 43)) ((w.alloc (.cells (tbA t a) 43)).alloc (.cells #[.int .i64 0, .int .i64 0, .int .u32 0] 62)) := (Below.refl _ _).alloc (Nat.le_refl _) _
  have HX0 : Hid (TBx ((w.alloc (.cells (tbA t a) 43)).alloc (.cells #[.int .i64 0, .int .i64 0, .int .u32 0] 62)) w.heap.size t a) := (TBx.new w t a _ rfl).below hbq
  have HK0 : Hid (((w.alloc (.cells (tbA t a) 43)).alloc (.cells #[.int .i64 0, .int .i64 0, .int .u32 0] 62)).heap[w.heap.size + 1]? = some (.cells #[.int .i64 0, .int .i64 0, .int .u32 0] 62 (0, 0))) := new_row (w.alloc (.cells (tbA t a) 43)) #[.int .i64 0, .int .i64 0, .int .u32 0] 62 _ (by simp)
  have hv0 : ((w.alloc (.cells (tbA t a) 43)).alloc (.cells #[.int .i64 0, .int .i64 0, .int .u32 0] 62)).cell? ⟨b, off, none⟩ = some (.string x0) := (HB0.out.cell (World.block_lt_of_cell? w _ hc0)).trans hc0
  have hv1 : ((w.alloc (.cells (tbA t a) 43)).alloc (.cells #[.int .i64 0, .int .i64 0, .int .u32 0] 62)).cell? ⟨b, off + 1, none⟩ = some (.string x1) := (HB0.out.cell (World.block_lt_of_cell? w _ hc1)).trans hc1
  clear hbq HX0 hc0 hc1
  go_enter Tryz.func78, Tryz.ntmps78
  go_wp2_with fail
  refine Calls.mono (impl_num x0 7 _ hs0) ?_
  rintro e V1 ⟨rfl, hbk⟩
  rw [show tell (Dc.ans (Tx.nums x0) 7) = .returned (.tuple #[.int .i64 d, .bool true]) by rw [show Dc.ans (Tx.nums x0) 7 = _ from hq]; rfl]
  have HB1n : Hid (Below w.heap.size w V1) := HB0.out.trans (hbk.mono HB0.out.size)
  have HK1n : Hid (V1.heap[w.heap.size + 1]? = some (.cells #[.int .i64 0, .int .i64 0, .int .u32 0] 62 (0, 0))) := row_below HK0.out hbk
  replace hv1 := cell_kept hbk hv1
  clear hbk HB0 HK0
  have HB1 := HB1n
  have HK1 := HK1n
  clear HB1n HK1n
  go_wp2_with fail
  refine Calls.mono (impl_num x1 4294967295 _ hs1) ?_
  rintro e V2 ⟨rfl, hbk⟩
  rw [show tell (Dc.ans (Tx.nums x1) 4294967295) = .returned (.tuple #[.int .i64 v, .bool true]) by rw [show Dc.ans (Tx.nums x1) 4294967295 = _ from hr]; rfl]
  have HB1n : Hid (Below w.heap.size w V2) := HB1.out.trans (hbk.mono HB1.out.size)
  have HK1n : Hid (V2.heap[w.heap.size + 1]? = some (.cells #[.int .i64 0, .int .i64 0, .int .u32 0] 62 (0, 0))) := row_below HK1.out hbk
  clear hbk HB1 HK1
  have HB1 := HB1n
  have HK1 := HK1n
  clear HB1n HK1n
  have HIS : Hid (∀ X, Calls Tryz.prog 66 #[.int .i64 d] X fun e w' => e = .returned (.bool true) ∧ w' = X) := fun X => is_dev d _ X (decide_eq_true (by omega))
  go_wp2_with fail
  refine Calls.mono (HIS.out _) ?_
  rintro e V9 ⟨rfl, hV9⟩
  rw [hV9]
  clear hV9
  have HRF : Hid ((V2.setRow (w.heap.size + 1) #[.int .i64 1, .int .i64 d, .int .u32 u]).heap[w.heap.size + 1]? = some (.cells #[.int .i64 1, .int .i64 d, .int .u32 u] 62 (0, 0))) := setRow_heap _ _ _ _ _ _ HK1.out
  have n0 : (V2.setRow (w.heap.size + 1) #[.int .i64 1, .int .i64 d, .int .u32 u]).cell? ⟨w.heap.size + 1, 0, none⟩ = some (.int .i64 1) := row_c HRF.out 0 _ rfl
  have n1 : (V2.setRow (w.heap.size + 1) #[.int .i64 1, .int .i64 d, .int .u32 u]).cell? ⟨w.heap.size + 1, 1, none⟩ = some (.int .i64 d) := row_c HRF.out 1 _ rfl
  have n2 : (V2.setRow (w.heap.size + 1) #[.int .i64 1, .int .i64 d, .int .u32 u]).cell? ⟨w.heap.size + 1, 2, none⟩ = some (.int .u32 u) := row_c HRF.out 2 _ rfl
  have HBF : Hid (Below w.heap.size w (V2.setRow (w.heap.size + 1) #[.int .i64 1, .int .i64 d, .int .u32 u])) := below_setRow HB1.out (by omega) _
  go_wp2_with (first | (refine wpList_store_row rfl 62 (.tmp 4) (.tmp 43) rfl (w.heap.size + 1) #[.int .i64 1, .int .i64 d, .int .u32 u] rfl rfl 62 #[.int .i64 0, .int .i64 0, .int .u32 0] HK1.out (by kernel_rfl) rfl (by simp [Value.oneCell']) ?_) | fail)
  exact bodyPost_ret (v := .tuple #[.agg #[.int .i64 1, .int .i64 d, .int .u32 u], .int .i64 0]) (by simp [results, Tryz.results78, go_sem, n0, n1, n2]) rfl ⟨rfl, HBF.out⟩
set_option maxRecDepth 40000 in
set_option maxHeartbeats 8000000 in
theorem rd_res0 (t : Tb) (a : Ad) (b off cap : Nat) (x0 : ByteArray) (w : World) (hc0 : w.cell? ⟨b, off, none⟩ = some (.string x0)) (hs0 : x0.size ≤ 1048576) (hm : TM 0 w t a) (hw : TW t a) (r : Int) (hr : Sr.nmV t x0 = r) (hneg : r < 0) :
    Calls Tryz.prog 79 #[tbV t a, .slice (some ⟨b, off, none⟩) 1 cap] w fun e w' => e = .returned (.tuple #[.agg #[.int .i64 0, .int .i64 0, .int .u32 0], .int .i64 3]) ∧ Below w.heap.size w w' := by
  have HB0 : Hid (Below w.heap.size w ((w.alloc (.cells (tbA t a) 43)).alloc (.cells #[.int .i64 0, .int .i64 0, .int .u32 0] 62))) := ((Below.refl _ _).alloc (Nat.le_refl _) _).alloc (by simp) _
  have hbq : Below (w.alloc (.cells (tbA t a) 43)).heap.size (w.alloc (.cells (tbA t a) 43)) ((w.alloc (.cells (tbA t a) 43)).alloc (.cells #[.int .i64 0, .int .i64 0, .int .u32 0] 62)) := (Below.refl _ _).alloc (Nat.le_refl _) _
  have HX0 : Hid (TBx ((w.alloc (.cells (tbA t a) 43)).alloc (.cells #[.int .i64 0, .int .i64 0, .int .u32 0] 62)) w.heap.size t a) := (TBx.new w t a _ rfl).below hbq
  have HK0 : Hid (((w.alloc (.cells (tbA t a) 43)).alloc (.cells #[.int .i64 0, .int .i64 0, .int .u32 0] 62)).heap[w.heap.size + 1]? = some (.cells #[.int .i64 0, .int .i64 0, .int .u32 0] 62 (0, 0))) := new_row (w.alloc (.cells (tbA t a) 43)) #[.int .i64 0, .int .i64 0, .int .u32 0] 62 _ (by simp)
  have hv0 : ((w.alloc (.cells (tbA t a) 43)).alloc (.cells #[.int .i64 0, .int .i64 0, .int .u32 0] 62)).cell? ⟨b, off, none⟩ = some (.string x0) := (HB0.out.cell (World.block_lt_of_cell? w _ hc0)).trans hc0
  have HNM : Hid (∀ Y : Gr ((w.alloc (.cells (tbA t a) 43)).alloc (.cells #[.int .i64 0, .int .i64 0, .int .u32 0] 62)), Calls Tryz.prog 103 #[tbV t a, .string x0] Y.w fun e w' => e = .returned (.int .i64 r) ∧ Below Y.w.heap.size Y.w w') := fun Y => by rw [← hr]; exact impl_nm t a _ _ (hm.below (HB0.out.trans (Y.h.mono HB0.out.size))) hw
  have HXX : Hid (∀ w', (∃ X : Gr ((w.alloc (.cells (tbA t a) 43)).alloc (.cells #[.int .i64 0, .int .i64 0, .int .u32 0] 62)), w' = X.w) → w'.heap[w.heap.size]? = some (.cells (tbA t a) 43 (0, 0))) := fun w' hX => by
    obtain ⟨X, rfl⟩ := hX
    exact HX0.out.below X.h
  have HRG : Hid (∀ X : Gr ((w.alloc (.cells (tbA t a) 43)).alloc (.cells #[.int .i64 0, .int .i64 0, .int .u32 0] 62)), X.w.heap[w.heap.size + 1]? = some (.cells #[.int .i64 0, .int .i64 0, .int .u32 0] 62 (0, 0)) ∧ Below w.heap.size w X.w) := fun X => ⟨row_below HK0.out X.h, HB0.out.trans (X.h.mono HB0.out.size)⟩
  clear hbq HX0 hc0 hm hw HK0 HB0
  go_enter Tryz.func79, Tryz.ntmps79
  go_wp2
  replace hv0 := fun X => gr_cell hv0 X
  have hgr := gr_some ((w.alloc (.cells (tbA t a) 43)).alloc (.cells #[.int .i64 0, .int .i64 0, .int .u32 0] 62))
  refine region_alike (by kernel_rfl) (by kernel_rfl) ?_
  repeat (first | (refine wpQuiet_load_row rfl 43 (.tmp 2) rfl w.heap.size rfl 43 (tbA t a) (0, 0) _ HXX.out Tryz.underlying43 rfl (by kernel_rfl) ?_; simp only [Act.put, List.setIfInBounds_toArray, List.set_cons_zero, List.set_cons_succ]) | go_big_quiet_step (first | (go_at_call 103; exact gr_call (HNM.out _))))
  refine wpQuiet_nil ?_
  intro _ hw'
  obtain ⟨X1, rfl⟩ := hw'
  have hr3 := HRG.out X1
  clear HRG HXX HNM hv0 hgr
  generalize X1.w = V1 at hr3 ⊢
  have HK1 : Hid (V1.heap[w.heap.size + 1]? = some (.cells #[.int .i64 0, .int .i64 0, .int .u32 0] 62 (0, 0))) := hr3.1
  have HB1 : Hid (Below w.heap.size w V1) := hr3.2
  clear hr3
  have HRF : Hid ((V1.setRow (w.heap.size + 1) #[.int .i64 0, .int .i64 0, .int .u32 0]).heap[w.heap.size + 1]? = some (.cells #[.int .i64 0, .int .i64 0, .int .u32 0] 62 (0, 0))) := setRow_heap _ _ _ _ _ _ HK1.out
  have n0 : (V1.setRow (w.heap.size + 1) #[.int .i64 0, .int .i64 0, .int .u32 0]).cell? ⟨w.heap.size + 1, 0, none⟩ = some (.int .i64 0) := row_c HRF.out 0 _ rfl
  have n1 : (V1.setRow (w.heap.size + 1) #[.int .i64 0, .int .i64 0, .int .u32 0]).cell? ⟨w.heap.size + 1, 1, none⟩ = some (.int .i64 0) := row_c HRF.out 1 _ rfl
  have n2 : (V1.setRow (w.heap.size + 1) #[.int .i64 0, .int .i64 0, .int .u32 0]).cell? ⟨w.heap.size + 1, 2, none⟩ = some (.int .u32 0) := row_c HRF.out 2 _ rfl
  have HBF : Hid (Below w.heap.size w (V1.setRow (w.heap.size + 1) #[.int .i64 0, .int .i64 0, .int .u32 0])) := below_setRow HB1.out (by omega) _
  go_wp2_with (first | (refine wpList_store_row rfl 62 (.tmp 4) (.tmp 14) rfl (w.heap.size + 1) #[.int .i64 0, .int .i64 0, .int .u32 0] rfl rfl 62 #[.int .i64 0, .int .i64 0, .int .u32 0] HK1.out (by kernel_rfl) rfl (by simp [Value.oneCell']) ?_) | fail)
  exact bodyPost_ret (v := .tuple #[.agg #[.int .i64 0, .int .i64 0, .int .u32 0], .int .i64 3]) (by simp [results, Tryz.results79, go_sem, n0, n1, n2]) rfl ⟨rfl, HBF.out⟩
set_option maxRecDepth 40000 in
set_option maxHeartbeats 8000000 in
theorem rd_res1 (t : Tb) (a : Ad) (b off cap : Nat) (x0 : ByteArray) (w : World) (hc0 : w.cell? ⟨b, off, none⟩ = some (.string x0)) (hs0 : x0.size ≤ 1048576) (hm : TM 0 w t a) (hw : TW t a) (r : Int) (hr : Sr.nmV t x0 = r) (hneg : ¬ r < 0) :
    Calls Tryz.prog 79 #[tbV t a, .slice (some ⟨b, off, none⟩) 1 cap] w fun e w' => e = .returned (.tuple #[.agg #[.int .i64 2, .int .i64 r, .int .u32 0], .int .i64 0]) ∧ Below w.heap.size w w' := by
  have HB0 : Hid (Below w.heap.size w ((w.alloc (.cells (tbA t a) 43)).alloc (.cells #[.int .i64 0, .int .i64 0, .int .u32 0] 62))) := ((Below.refl _ _).alloc (Nat.le_refl _) _).alloc (by simp) _
  have hbq : Below (w.alloc (.cells (tbA t a) 43)).heap.size (w.alloc (.cells (tbA t a) 43)) ((w.alloc (.cells (tbA t a) 43)).alloc (.cells #[.int .i64 0, .int .i64 0, .int .u32 0] 62)) := (Below.refl _ _).alloc (Nat.le_refl _) _
  have HX0 : Hid (TBx ((w.alloc (.cells (tbA t a) 43)).alloc (.cells #[.int .i64 0, .int .i64 0, .int .u32 0] 62)) w.heap.size t a) := (TBx.new w t a _ rfl).below hbq
  have HK0 : Hid (((w.alloc (.cells (tbA t a) 43)).alloc (.cells #[.int .i64 0, .int .i64 0, .int .u32 0] 62)).heap[w.heap.size + 1]? = some (.cells #[.int .i64 0, .int .i64 0, .int .u32 0] 62 (0, 0))) := new_row (w.alloc (.cells (tbA t a) 43)) #[.int .i64 0, .int .i64 0, .int .u32 0] 62 _ (by simp)
  have hv0 : ((w.alloc (.cells (tbA t a) 43)).alloc (.cells #[.int .i64 0, .int .i64 0, .int .u32 0] 62)).cell? ⟨b, off, none⟩ = some (.string x0) := (HB0.out.cell (World.block_lt_of_cell? w _ hc0)).trans hc0
  have HNM : Hid (∀ Y : Gr ((w.alloc (.cells (tbA t a) 43)).alloc (.cells #[.int .i64 0, .int .i64 0, .int .u32 0] 62)), Calls Tryz.prog 103 #[tbV t a, .string x0] Y.w fun e w' => e = .returned (.int .i64 r) ∧ Below Y.w.heap.size Y.w w') := fun Y => by rw [← hr]; exact impl_nm t a _ _ (hm.below (HB0.out.trans (Y.h.mono HB0.out.size))) hw
  have HXX : Hid (∀ w', (∃ X : Gr ((w.alloc (.cells (tbA t a) 43)).alloc (.cells #[.int .i64 0, .int .i64 0, .int .u32 0] 62)), w' = X.w) → w'.heap[w.heap.size]? = some (.cells (tbA t a) 43 (0, 0))) := fun w' hX => by
    obtain ⟨X, rfl⟩ := hX
    exact HX0.out.below X.h
  have HRG : Hid (∀ X : Gr ((w.alloc (.cells (tbA t a) 43)).alloc (.cells #[.int .i64 0, .int .i64 0, .int .u32 0] 62)), X.w.heap[w.heap.size + 1]? = some (.cells #[.int .i64 0, .int .i64 0, .int .u32 0] 62 (0, 0)) ∧ Below w.heap.size w X.w) := fun X => ⟨row_below HK0.out X.h, HB0.out.trans (X.h.mono HB0.out.size)⟩
  clear hbq HX0 hc0 hm hw HK0 HB0
  go_enter Tryz.func79, Tryz.ntmps79
  go_wp2
  replace hv0 := fun X => gr_cell hv0 X
  have hgr := gr_some ((w.alloc (.cells (tbA t a) 43)).alloc (.cells #[.int .i64 0, .int .i64 0, .int .u32 0] 62))
  refine region_alike (by kernel_rfl) (by kernel_rfl) ?_
  repeat (first | (refine wpQuiet_load_row rfl 43 (.tmp 2) rfl w.heap.size rfl 43 (tbA t a) (0, 0) _ HXX.out Tryz.underlying43 rfl (by kernel_rfl) ?_; simp only [Act.put, List.setIfInBounds_toArray, List.set_cons_zero, List.set_cons_succ]) | go_big_quiet_step (first | (go_at_call 103; exact gr_call (HNM.out _))))
  refine wpQuiet_nil ?_
  intro _ hw'
  obtain ⟨X1, rfl⟩ := hw'
  have hr3 := HRG.out X1
  clear HRG HXX HNM hv0 hgr
  generalize X1.w = V1 at hr3 ⊢
  have HK1 : Hid (V1.heap[w.heap.size + 1]? = some (.cells #[.int .i64 0, .int .i64 0, .int .u32 0] 62 (0, 0))) := hr3.1
  have HB1 : Hid (Below w.heap.size w V1) := hr3.2
  clear hr3
  have HRF : Hid ((V1.setRow (w.heap.size + 1) #[.int .i64 2, .int .i64 r, .int .u32 0]).heap[w.heap.size + 1]? = some (.cells #[.int .i64 2, .int .i64 r, .int .u32 0] 62 (0, 0))) := setRow_heap _ _ _ _ _ _ HK1.out
  have n0 : (V1.setRow (w.heap.size + 1) #[.int .i64 2, .int .i64 r, .int .u32 0]).cell? ⟨w.heap.size + 1, 0, none⟩ = some (.int .i64 2) := row_c HRF.out 0 _ rfl
  have n1 : (V1.setRow (w.heap.size + 1) #[.int .i64 2, .int .i64 r, .int .u32 0]).cell? ⟨w.heap.size + 1, 1, none⟩ = some (.int .i64 r) := row_c HRF.out 1 _ rfl
  have n2 : (V1.setRow (w.heap.size + 1) #[.int .i64 2, .int .i64 r, .int .u32 0]).cell? ⟨w.heap.size + 1, 2, none⟩ = some (.int .u32 0) := row_c HRF.out 2 _ rfl
  have HBF : Hid (Below w.heap.size w (V1.setRow (w.heap.size + 1) #[.int .i64 2, .int .i64 r, .int .u32 0])) := below_setRow HB1.out (by omega) _
  go_wp2_with (first | (refine wpList_store_row rfl 62 (.tmp 4) (.tmp 16) rfl (w.heap.size + 1) #[.int .i64 2, .int .i64 r, .int .u32 0] rfl rfl 62 #[.int .i64 0, .int .i64 0, .int .u32 0] HK1.out (by kernel_rfl) rfl (by simp [Value.oneCell']) ?_) | fail)
  exact bodyPost_ret (v := .tuple #[.agg #[.int .i64 2, .int .i64 r, .int .u32 0], .int .i64 0]) (by simp [results, Tryz.results79, go_sem, n0, n1, n2]) rfl ⟨rfl, HBF.out⟩
theorem read_run (t : Tb) (a : Ad) (b off cap : Nat) (x0 : ByteArray) (w : World) (hc0 : w.cell? ⟨b, off, none⟩ = some (.string x0)) (hs0 : x0.size ≤ 1048576) :
    Calls Tryz.prog 77 #[tbV t a, .slice (some ⟨b, off, none⟩) 1 cap] w fun e w' => e = .returned (.tuple #[cmV (Sr.runP x0).1, .int .i64 (Sr.runP x0).2]) ∧ Below w.heap.size w w' := by
  unfold Sr.runP
  cases hq : Sr.numV x0 50000 with
  | none => exact rd_run0 t a b off cap x0 w hc0 hs0 hq
  | some m =>
    by_cases hm : m < 0
    · simp only [if_pos hm]
      exact rd_run1 t a b off cap x0 w hc0 hs0 m hq hm
    · simp only [if_neg hm]
      exact rd_run2 t a b off cap x0 w hc0 hs0 m hq hm (Sr.num_bd (by omega) hq).1
theorem read_inp (t : Tb) (a : Ad) (b off cap : Nat) (x0 x1 : ByteArray) (w : World) (hc0 : w.cell? ⟨b, off, none⟩ = some (.string x0)) (hs0 : x0.size ≤ 1048576) (hc1 : w.cell? ⟨b, off + 1, none⟩ = some (.string x1)) (hs1 : x1.size ≤ 1048576) :
    Calls Tryz.prog 78 #[tbV t a, .slice (some ⟨b, off, none⟩) 2 cap] w fun e w' => e = .returned (.tuple #[cmV (Sr.inpP x0 x1).1, .int .i64 (Sr.inpP x0 x1).2]) ∧ Below w.heap.size w w' := by
  unfold Sr.inpP
  cases hq : Sr.numV x0 7 with
  | none => exact rd_inp0 t a b off cap x0 x1 w hc0 hs0 hc1 hs1 hq _ rfl
  | some d =>
    cases hr : Sr.numV x1 4294967295 with
    | none => exact rd_inp1 t a b off cap x0 x1 w hc0 hs0 hc1 hs1 d hq hr
    | some v =>
      by_cases hd : d < 0
      · simp only [if_pos (Or.inl hd : d < 0 ∨ v < 0)]
        exact rd_inp2 t a b off cap x0 x1 w hc0 hs0 hc1 hs1 d v hq hr hd
      · have hd2 := (Sr.num_bd (by omega) hq).1
        by_cases hv : v < 0
        · simp only [if_pos (Or.inr hv : d < 0 ∨ v < 0)]
          exact rd_inp3 t a b off cap x0 x1 w hc0 hs0 hc1 hs1 d v hq hr hd hd2 hv
        · simp only [if_neg (fun h : d < 0 ∨ v < 0 => h.elim hd hv)]
          exact rd_inp4 t a b off cap x0 x1 w hc0 hs0 hc1 hs1 d v _ hq hr hd hd2 hv rfl
theorem read_res (t : Tb) (a : Ad) (b off cap : Nat) (x0 : ByteArray) (w : World) (hm : TM 0 w t a) (hw : TW t a) (hc0 : w.cell? ⟨b, off, none⟩ = some (.string x0)) (hs0 : x0.size ≤ 1048576) :
    Calls Tryz.prog 79 #[tbV t a, .slice (some ⟨b, off, none⟩) 1 cap] w fun e w' => e = .returned (.tuple #[cmV (Sr.resP t x0).1, .int .i64 (Sr.resP t x0).2]) ∧ Below w.heap.size w w' := by
  unfold Sr.resP
  by_cases hn : Sr.nmV t x0 < 0
  · rw [if_pos hn]
    exact rd_res0 t a b off cap x0 w hc0 hs0 hm hw _ rfl hn
  · rw [if_neg hn]
    exact rd_res1 t a b off cap x0 w hc0 hs0 hm hw _ rfl hn
end Go.Proofs.YtmnoghhdkdjnmaaGreatDoor
