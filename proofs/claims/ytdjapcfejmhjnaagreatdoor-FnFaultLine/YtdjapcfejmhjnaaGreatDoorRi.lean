/-
  What the program's own readers of a word, an immediate and an instruction return. Conditions: the table of forms lies in memory as its text lays it; the texts are at most 1048576 bytes long.
-/
import Derived.Test.YtdjapcfejmhjnaaGreatDoorRg
namespace Go.Proofs.YtdjapcfejmhjnaaGreatDoor
open Go.ChangeShapes Go.WideShapes Go.ChangeAt Go.RowKit
set_option linter.unusedVariables false
set_option maxRecDepth 20000

set_option maxHeartbeats 400000 in
theorem ones64_0 (w : World) : Calls Tryz.prog 144 #[.int .u64 0] w fun e w' => e = .returned (.int .i64 0) ∧ w' = w := by
  go_enter Tryz.func144, Tryz.ntmps144
  go_wp2
  go_ret
  exact ⟨ret_int (by decide +kernel), rfl⟩
theorem ones_0 (w : World) : Calls Tryz.prog 123 #[.int .u64 0] w fun e w' => e = .returned (.int .i64 0) ∧ w' = w := by
  go_enter Tryz.func123, Tryz.ntmps123
  go_wp2_with fail
  refine (ones64_0 _).mono ?_
  rintro e w1 ⟨rfl, rfl⟩
  go_wp2
  go_ret
  exact ⟨rfl, rfl⟩
set_option maxHeartbeats 400000 in
theorem ones64_7 (w : World) : Calls Tryz.prog 144 #[.int .u64 7] w fun e w' => e = .returned (.int .i64 3) ∧ w' = w := by
  go_enter Tryz.func144, Tryz.ntmps144
  go_wp2
  go_ret
  exact ⟨ret_int (by decide +kernel), rfl⟩
theorem ones_7 (w : World) : Calls Tryz.prog 123 #[.int .u64 7] w fun e w' => e = .returned (.int .i64 3) ∧ w' = w := by
  go_enter Tryz.func123, Tryz.ntmps123
  go_wp2_with fail
  refine (ones64_7 _).mono ?_
  rintro e w1 ⟨rfl, rfl⟩
  go_wp2
  go_ret
  exact ⟨rfl, rfl⟩
set_option maxHeartbeats 400000 in
theorem ones64_11 (w : World) : Calls Tryz.prog 144 #[.int .u64 11] w fun e w' => e = .returned (.int .i64 3) ∧ w' = w := by
  go_enter Tryz.func144, Tryz.ntmps144
  go_wp2
  go_ret
  exact ⟨ret_int (by decide +kernel), rfl⟩
theorem ones_11 (w : World) : Calls Tryz.prog 123 #[.int .u64 11] w fun e w' => e = .returned (.int .i64 3) ∧ w' = w := by
  go_enter Tryz.func123, Tryz.ntmps123
  go_wp2_with fail
  refine (ones64_11 _).mono ?_
  rintro e w1 ⟨rfl, rfl⟩
  go_wp2
  go_ret
  exact ⟨rfl, rfl⟩
set_option maxHeartbeats 400000 in
theorem ones64_9 (w : World) : Calls Tryz.prog 144 #[.int .u64 9] w fun e w' => e = .returned (.int .i64 2) ∧ w' = w := by
  go_enter Tryz.func144, Tryz.ntmps144
  go_wp2
  go_ret
  exact ⟨ret_int (by decide +kernel), rfl⟩
theorem ones_9 (w : World) : Calls Tryz.prog 123 #[.int .u64 9] w fun e w' => e = .returned (.int .i64 2) ∧ w' = w := by
  go_enter Tryz.func123, Tryz.ntmps123
  go_wp2_with fail
  refine (ones64_9 _).mono ?_
  rintro e w1 ⟨rfl, rfl⟩
  go_wp2
  go_ret
  exact ⟨rfl, rfl⟩
set_option maxHeartbeats 400000 in
theorem ones64_10 (w : World) : Calls Tryz.prog 144 #[.int .u64 10] w fun e w' => e = .returned (.int .i64 2) ∧ w' = w := by
  go_enter Tryz.func144, Tryz.ntmps144
  go_wp2
  go_ret
  exact ⟨ret_int (by decide +kernel), rfl⟩
theorem ones_10 (w : World) : Calls Tryz.prog 123 #[.int .u64 10] w fun e w' => e = .returned (.int .i64 2) ∧ w' = w := by
  go_enter Tryz.func123, Tryz.ntmps123
  go_wp2_with fail
  refine (ones64_10 _).mono ?_
  rintro e w1 ⟨rfl, rfl⟩
  go_wp2
  go_ret
  exact ⟨rfl, rfl⟩
set_option maxHeartbeats 400000 in
theorem ones64_1 (w : World) : Calls Tryz.prog 144 #[.int .u64 1] w fun e w' => e = .returned (.int .i64 1) ∧ w' = w := by
  go_enter Tryz.func144, Tryz.ntmps144
  go_wp2
  go_ret
  exact ⟨ret_int (by decide +kernel), rfl⟩
theorem ones_1 (w : World) : Calls Tryz.prog 123 #[.int .u64 1] w fun e w' => e = .returned (.int .i64 1) ∧ w' = w := by
  go_enter Tryz.func123, Tryz.ntmps123
  go_wp2_with fail
  refine (ones64_1 _).mono ?_
  rintro e w1 ⟨rfl, rfl⟩
  go_wp2
  go_ret
  exact ⟨rfl, rfl⟩
set_option maxHeartbeats 400000 in
theorem ones64_8 (w : World) : Calls Tryz.prog 144 #[.int .u64 8] w fun e w' => e = .returned (.int .i64 1) ∧ w' = w := by
  go_enter Tryz.func144, Tryz.ntmps144
  go_wp2
  go_ret
  exact ⟨ret_int (by decide +kernel), rfl⟩
theorem ones_8 (w : World) : Calls Tryz.prog 123 #[.int .u64 8] w fun e w' => e = .returned (.int .i64 1) ∧ w' = w := by
  go_enter Tryz.func123, Tryz.ntmps123
  go_wp2_with fail
  refine (ones64_8 _).mono ?_
  rintro e w1 ⟨rfl, rfl⟩
  go_wp2
  go_ret
  exact ⟨rfl, rfl⟩
set_option maxHeartbeats 1000000 in
theorem impl_imm_br (k : Nat) (a b c : Int) (x : ByteArray) (V : Value) (w : World) (hk : k < 33) (hx : x.size ≤ 1048576) (h : Rl.isBr k = true) (hl : Lab.ok (Tx.nums x) = true) (HV : Hid (Rl.A8.val ⟨4, k, a, b, c, 0, 0, x⟩ = V)) :
    Calls Tryz.prog 125 #[ins k a b c 0, .string x] w fun e w' => e = .returned V ∧ Below w.heap.size w w' := by
  have HB : Hid _ := h
  have HL : Hid _ := hl
  clear h hl
  go_enter Tryz.func125, Tryz.ntmps125
  go_wp2_with fail
  refine (branch_yes k _ HB.out).mono ?_
  rintro e w0 ⟨rfl, rfl⟩
  go_wp2_with fail
  refine (impl_lab x _ hx).mono ?_
  rintro e w1 ⟨rfl, hb⟩
  rw [HL.out]
  have hr : ∀ i v, (#[Value.int .i64 k, .int .i64 a, .int .i64 b, .int .i64 c, .int .i64 0] : Array Value)[i]? = some v → w1.cell? ⟨w.heap.size, i, none⟩ = some v := fun i v h =>
    (hb.cell (p := ⟨w.heap.size, i, none⟩) (by simp; try omega)).trans (cell_alloc (new_cell w _ 46 i v h))
  have hg : ∀ i, w1.frozen? ⟨w.heap.size, i, none⟩ = false := fun i =>
    (hb.frozen (p := ⟨w.heap.size, i, none⟩) (by simp; try omega)).trans (by simp)
  have c0 := hr 0 (.int .i64 k) rfl
  have c1 := hr 1 (.int .i64 a) rfl
  have c2 := hr 2 (.int .i64 b) rfl
  have c3 := hr 3 (.int .i64 c) rfl
  have c4 := hr 4 (.int .i64 0) rfl
  clear hr
  have hz : ∀ i v, (#[Value.int .i64 0, .int .i64 0, .int .i64 0, .int .i64 0, .int .i64 0, .int .i64 0, .int .u32 0, .string ⟨#[]⟩] : Array Value)[i]? = some v → w1.cell? ⟨w.heap.size + 1, i, none⟩ = some v := fun i v h =>
    (hb.cell (p := ⟨w.heap.size + 1, i, none⟩) (by simp; try omega)).trans (by have := new_cell (w.alloc (row k a b c 0)) _ 114 i v h; simpa using this)
  have hf : ∀ i, w1.frozen? ⟨w.heap.size + 1, i, none⟩ = false := fun i =>
    (hb.frozen (p := ⟨w.heap.size + 1, i, none⟩) (by simp; try omega)).trans (by simp)
  have z0 := hz 0 (.int .i64 0) rfl
  have z1 := hz 1 (.int .i64 0) rfl
  have z2 := hz 2 (.int .i64 0) rfl
  have z3 := hz 3 (.int .i64 0) rfl
  have z4 := hz 4 (.int .i64 0) rfl
  have z5 := hz 5 (.int .i64 0) rfl
  have z6 := hz 6 (.int .u32 0) rfl
  have z7 := hz 7 (.string ⟨#[]⟩) rfl
  clear hz
  have hb0 := (((Below.refl _ w).alloc (Nat.le_refl _) (row k a b c 0)).alloc (by simp) (.cells #[Value.int .i64 0, .int .i64 0, .int .i64 0, .int .i64 0, .int .i64 0, .int .i64 0, .int .u32 0, .string ⟨#[]⟩] 114)).trans (hb.mono (by simp; try omega))
  clear hb
  go_wp2
  exact bodyPost_ret (v := Rl.A8.val ⟨4, k, a, b, c, 0, 0, x⟩) (by simp [results, Tryz.results125, go_sem, Rl.A8.val, z0, z1, z2, z3, z4, z5, z6, z7]) rfl ⟨ret_val HV.out, ((((((((hb0).setCell (by simp) _).setCell (by simp) _).setCell (by simp) _).setCell (by simp) _).setCell (by simp) _).setCell (by simp) _).setCell (by simp) _).setCell (by simp) _⟩
set_option maxHeartbeats 1000000 in
theorem impl_imm_nb (k : Nat) (a b c : Int) (x : ByteArray) (V : Value) (w : World) (hk : k < 33) (hx : x.size ≤ 1048576) (h : Rl.isBr k = false)
    (HV : Hid ((match Dc.ans (Tx.nums x) 8192 with | some n => if n ≤ 8191 then (⟨3, k, a, b, c, n, 0, ⟨#[]⟩⟩ : Rl.A8) else Rl.no | none => Rl.no).val = V)) :
    Calls Tryz.prog 125 #[ins k a b c 0, .string x] w fun e w' => e = .returned V ∧ Below w.heap.size w w' := by
  obtain ⟨v, q, HT, hq1, hq0⟩ := fixT (Dc.ans (Tx.nums x) 8192)
  have HQ1 : Hid _ := hq1
  have HQ0 : Hid _ := hq0
  clear hq1 hq0
  have HB : Hid _ := h
  clear h
  go_enter Tryz.func125, Tryz.ntmps125
  go_wp2_with fail
  refine (branch_no k _ HB.out).mono ?_
  rintro e w0 ⟨rfl, rfl⟩
  go_wp2_with fail
  refine (impl_num x 8192 _ hx).mono ?_
  rintro e w2 ⟨rfl, hb2⟩
  rw [HT.out]
  have hb := hb2
  have hr : ∀ i v, (#[Value.int .i64 k, .int .i64 a, .int .i64 b, .int .i64 c, .int .i64 0] : Array Value)[i]? = some v → w2.cell? ⟨w.heap.size, i, none⟩ = some v := fun i v h =>
    (hb.cell (p := ⟨w.heap.size, i, none⟩) (by simp; try omega)).trans (cell_alloc (new_cell w _ 46 i v h))
  have hg : ∀ i, w2.frozen? ⟨w.heap.size, i, none⟩ = false := fun i =>
    (hb.frozen (p := ⟨w.heap.size, i, none⟩) (by simp; try omega)).trans (by simp)
  have c0 := hr 0 (.int .i64 k) rfl
  have c1 := hr 1 (.int .i64 a) rfl
  have c2 := hr 2 (.int .i64 b) rfl
  have c3 := hr 3 (.int .i64 c) rfl
  have c4 := hr 4 (.int .i64 0) rfl
  clear hr
  have hz : ∀ i v, (#[Value.int .i64 0, .int .i64 0, .int .i64 0, .int .i64 0, .int .i64 0, .int .i64 0, .int .u32 0, .string ⟨#[]⟩] : Array Value)[i]? = some v → w2.cell? ⟨w.heap.size + 1, i, none⟩ = some v := fun i v h =>
    (hb.cell (p := ⟨w.heap.size + 1, i, none⟩) (by simp; try omega)).trans (by have := new_cell (w.alloc (row k a b c 0)) _ 114 i v h; simpa using this)
  have hf : ∀ i, w2.frozen? ⟨w.heap.size + 1, i, none⟩ = false := fun i =>
    (hb.frozen (p := ⟨w.heap.size + 1, i, none⟩) (by simp; try omega)).trans (by simp)
  have z0 := hz 0 (.int .i64 0) rfl
  have z1 := hz 1 (.int .i64 0) rfl
  have z2 := hz 2 (.int .i64 0) rfl
  have z3 := hz 3 (.int .i64 0) rfl
  have z4 := hz 4 (.int .i64 0) rfl
  have z5 := hz 5 (.int .i64 0) rfl
  have z6 := hz 6 (.int .u32 0) rfl
  have z7 := hz 7 (.string ⟨#[]⟩) rfl
  clear hz
  have hb0 := (((Below.refl _ w).alloc (Nat.le_refl _) (row k a b c 0)).alloc (by simp) (.cells #[Value.int .i64 0, .int .i64 0, .int .i64 0, .int .i64 0, .int .i64 0, .int .i64 0, .int .u32 0, .string ⟨#[]⟩] 114)).trans (hb.mono (by simp; try omega))
  clear hb hb2
  cases q
  · have HV2 : Hid (Rl.no.val = V) := by
      show _ = _
      rw [← HV.out, HQ0.out rfl]
    clear HV HQ0 HQ1
    have HV := HV2
    clear HV2
    go_wp2
    exact bodyPost_ret (v := Rl.A8.val Rl.no) (by simp [results, Tryz.results125, go_sem, Rl.A8.val, z0, z1, z2, z3, z4, z5, z6, z7]) rfl ⟨ret_val HV.out, ((((((((hb0).setCell (by simp) _).setCell (by simp) _).setCell (by simp) _).setCell (by simp) _).setCell (by simp) _).setCell (by simp) _).setCell (by simp) _).setCell (by simp) _⟩
  · by_cases hv : v ≤ 8191
    · have HV2 : Hid (Rl.A8.val ⟨3, k, a, b, c, v, 0, ⟨#[]⟩⟩ = V) := by
        show _ = _
        rw [← HV.out, HQ1.out rfl]
        simp [hv]
      clear HV HQ0 HQ1
      have HV := HV2
      clear HV2
      have hv2 : ¬ 8191 < v := by omega
      go_wp2
      exact bodyPost_ret (v := Rl.A8.val ⟨3, k, a, b, c, v, 0, ⟨#[]⟩⟩) (by simp [results, Tryz.results125, go_sem, Rl.A8.val, z0, z1, z2, z3, z4, z5, z6, z7]) rfl ⟨ret_val HV.out, (((((((((hb0).setCell (by simp) _).setCell (by simp) _).setCell (by simp) _).setCell (by simp) _).setCell (by simp) _).setCell (by simp) _).setCell (by simp) _).setCell (by simp) _).setCell (by simp) _⟩
    · have HV2 : Hid (Rl.no.val = V) := by
        show _ = _
        rw [← HV.out, HQ1.out rfl]
        simp [hv]
      clear HV HQ0 HQ1
      have HV := HV2
      clear HV2
      have hv2 : 8191 < v := by omega
      go_wp2
      exact bodyPost_ret (v := Rl.A8.val Rl.no) (by simp [results, Tryz.results125, go_sem, Rl.A8.val, z0, z1, z2, z3, z4, z5, z6, z7]) rfl ⟨ret_val HV.out, ((((((((hb0).setCell (by simp) _).setCell (by simp) _).setCell (by simp) _).setCell (by simp) _).setCell (by simp) _).setCell (by simp) _).setCell (by simp) _).setCell (by simp) _⟩
set_option maxHeartbeats 1000000 in
theorem impl_imm_nl (k : Nat) (a b c : Int) (x : ByteArray) (V : Value) (w : World) (hk : k < 33) (hx : x.size ≤ 1048576) (h : Rl.isBr k = true) (hl : Lab.ok (Tx.nums x) = false)
    (HV : Hid ((match Dc.ans (Tx.nums x) 8192 with | some n => if n ≤ 8191 then (⟨3, k, a, b, c, n, 0, ⟨#[]⟩⟩ : Rl.A8) else Rl.no | none => Rl.no).val = V)) :
    Calls Tryz.prog 125 #[ins k a b c 0, .string x] w fun e w' => e = .returned V ∧ Below w.heap.size w w' := by
  obtain ⟨v, q, HT, hq1, hq0⟩ := fixT (Dc.ans (Tx.nums x) 8192)
  have HQ1 : Hid _ := hq1
  have HQ0 : Hid _ := hq0
  clear hq1 hq0
  have HB : Hid _ := h
  have HL : Hid _ := hl
  clear h hl
  go_enter Tryz.func125, Tryz.ntmps125
  go_wp2_with fail
  refine (branch_yes k _ HB.out).mono ?_
  rintro e w0 ⟨rfl, rfl⟩
  go_wp2_with fail
  refine (impl_lab x _ hx).mono ?_
  rintro e w1 ⟨rfl, hb1⟩
  rw [HL.out]
  go_wp2_with fail
  refine (impl_num x 8192 _ hx).mono ?_
  rintro e w2 ⟨rfl, hb2⟩
  rw [HT.out]
  have hb := hb1.trans (hb2.mono hb1.size)
  have hr : ∀ i v, (#[Value.int .i64 k, .int .i64 a, .int .i64 b, .int .i64 c, .int .i64 0] : Array Value)[i]? = some v → w2.cell? ⟨w.heap.size, i, none⟩ = some v := fun i v h =>
    (hb.cell (p := ⟨w.heap.size, i, none⟩) (by simp; try omega)).trans (cell_alloc (new_cell w _ 46 i v h))
  have hg : ∀ i, w2.frozen? ⟨w.heap.size, i, none⟩ = false := fun i =>
    (hb.frozen (p := ⟨w.heap.size, i, none⟩) (by simp; try omega)).trans (by simp)
  have c0 := hr 0 (.int .i64 k) rfl
  have c1 := hr 1 (.int .i64 a) rfl
  have c2 := hr 2 (.int .i64 b) rfl
  have c3 := hr 3 (.int .i64 c) rfl
  have c4 := hr 4 (.int .i64 0) rfl
  clear hr
  have hz : ∀ i v, (#[Value.int .i64 0, .int .i64 0, .int .i64 0, .int .i64 0, .int .i64 0, .int .i64 0, .int .u32 0, .string ⟨#[]⟩] : Array Value)[i]? = some v → w2.cell? ⟨w.heap.size + 1, i, none⟩ = some v := fun i v h =>
    (hb.cell (p := ⟨w.heap.size + 1, i, none⟩) (by simp; try omega)).trans (by have := new_cell (w.alloc (row k a b c 0)) _ 114 i v h; simpa using this)
  have hf : ∀ i, w2.frozen? ⟨w.heap.size + 1, i, none⟩ = false := fun i =>
    (hb.frozen (p := ⟨w.heap.size + 1, i, none⟩) (by simp; try omega)).trans (by simp)
  have z0 := hz 0 (.int .i64 0) rfl
  have z1 := hz 1 (.int .i64 0) rfl
  have z2 := hz 2 (.int .i64 0) rfl
  have z3 := hz 3 (.int .i64 0) rfl
  have z4 := hz 4 (.int .i64 0) rfl
  have z5 := hz 5 (.int .i64 0) rfl
  have z6 := hz 6 (.int .u32 0) rfl
  have z7 := hz 7 (.string ⟨#[]⟩) rfl
  clear hz
  have hb0 := (((Below.refl _ w).alloc (Nat.le_refl _) (row k a b c 0)).alloc (by simp) (.cells #[Value.int .i64 0, .int .i64 0, .int .i64 0, .int .i64 0, .int .i64 0, .int .i64 0, .int .u32 0, .string ⟨#[]⟩] 114)).trans (hb.mono (by simp; try omega))
  clear hb hb2
  cases q
  · have HV2 : Hid (Rl.no.val = V) := by
      show _ = _
      rw [← HV.out, HQ0.out rfl]
    clear HV HQ0 HQ1
    have HV := HV2
    clear HV2
    go_wp2
    exact bodyPost_ret (v := Rl.A8.val Rl.no) (by simp [results, Tryz.results125, go_sem, Rl.A8.val, z0, z1, z2, z3, z4, z5, z6, z7]) rfl ⟨ret_val HV.out, ((((((((hb0).setCell (by simp) _).setCell (by simp) _).setCell (by simp) _).setCell (by simp) _).setCell (by simp) _).setCell (by simp) _).setCell (by simp) _).setCell (by simp) _⟩
  · by_cases hv : v ≤ 8191
    · have HV2 : Hid (Rl.A8.val ⟨3, k, a, b, c, v, 0, ⟨#[]⟩⟩ = V) := by
        show _ = _
        rw [← HV.out, HQ1.out rfl]
        simp [hv]
      clear HV HQ0 HQ1
      have HV := HV2
      clear HV2
      have hv2 : ¬ 8191 < v := by omega
      go_wp2
      exact bodyPost_ret (v := Rl.A8.val ⟨3, k, a, b, c, v, 0, ⟨#[]⟩⟩) (by simp [results, Tryz.results125, go_sem, Rl.A8.val, z0, z1, z2, z3, z4, z5, z6, z7]) rfl ⟨ret_val HV.out, (((((((((hb0).setCell (by simp) _).setCell (by simp) _).setCell (by simp) _).setCell (by simp) _).setCell (by simp) _).setCell (by simp) _).setCell (by simp) _).setCell (by simp) _).setCell (by simp) _⟩
    · have HV2 : Hid (Rl.no.val = V) := by
        show _ = _
        rw [← HV.out, HQ1.out rfl]
        simp [hv]
      clear HV HQ0 HQ1
      have HV := HV2
      clear HV2
      have hv2 : 8191 < v := by omega
      go_wp2
      exact bodyPost_ret (v := Rl.A8.val Rl.no) (by simp [results, Tryz.results125, go_sem, Rl.A8.val, z0, z1, z2, z3, z4, z5, z6, z7]) rfl ⟨ret_val HV.out, ((((((((hb0).setCell (by simp) _).setCell (by simp) _).setCell (by simp) _).setCell (by simp) _).setCell (by simp) _).setCell (by simp) _).setCell (by simp) _).setCell (by simp) _⟩
theorem impl_imm (k : Nat) (a b c : Int) (x : ByteArray) (w : World) (hk : k < 33) (hx : x.size ≤ 1048576) :
    Calls Tryz.prog 125 #[ins k a b c 0, .string x] w fun e w' => e = .returned (Rl.immOf k a b c x).val ∧ Below w.heap.size w w' := by
  cases h : Rl.isBr k with
  | false =>
    refine impl_imm_nb k a b c x _ w hk hx h ?_
    show _ = _
    unfold Rl.immOf
    rw [h]
    rfl
  | true =>
    cases hl : Lab.ok (Tx.nums x) with
    | false =>
      refine impl_imm_nl k a b c x _ w hk hx h hl ?_
      show _ = _
      unfold Rl.immOf
      rw [h, hl]
      rfl
    | true =>
      refine impl_imm_br k a b c x _ w hk hx h hl ?_
      show _ = _
      unfold Rl.immOf
      rw [h, hl]
      rfl
end Go.Proofs.YtdjapcfejmhjnaaGreatDoor
