/-
  What the program's own reader of a line returns. Conditions: the tables of forms and names lie in memory as their texts lay them; the line is at most 1048576 bytes long.
-/
import Derived.Test.YtdjapcfejmhjnaaGreatDoorRdl
import Derived.Test.YtdjapcfejmhjnaaGreatDoorSplit
namespace Go.Proofs.YtdjapcfejmhjnaaGreatDoor
open Go.ChangeShapes Go.WideShapes Go.ChangeAt Go.RowKit Go.Deep
set_option linter.unusedVariables false
set_option maxRecDepth 20000

theorem form_cnt : ∀ k : Fin 33, (bits .and .i64 (forms.getD k.val 0) 1 == 0) = !(forms.getD k.val 0 % 2 == 1) ∧ (bits .and .i64 (forms.getD k.val 0) 2 == 0) = !(forms.getD k.val 0 / 2 % 2 == 1) ∧ (bits .and .i64 (forms.getD k.val 0) 4 == 0) = !(forms.getD k.val 0 / 4 % 2 == 1) := by decide +kernel
def cntOf (f : Int) : Nat := left (f % 2 == 1) (f / 2 % 2 == 1) (f / 4 % 2 == 1) (f / 8 % 2 == 1) 0
theorem ones_any (k : Nat) (hk : k < 33) (w : World) : Calls Tryz.prog 123 #[.int .u64 (forms.getD k 0)] w fun e w' => e = .returned (.int .i64 (cntOf (forms.getD k 0))) ∧ w' = w := by
  rcases form_seven ⟨k, hk⟩ with hf | hf | hf | hf | hf | hf | hf
  · simp only at hf; rw [hf]; exact ones_0 w
  · simp only at hf; rw [hf]; exact ones_7 w
  · simp only at hf; rw [hf]; exact ones_11 w
  · simp only at hf; rw [hf]; exact ones_9 w
  · simp only at hf; rw [hf]; exact ones_10 w
  · simp only at hf; rw [hf]; exact ones_1 w
  · simp only at hf; rw [hf]; exact ones_8 w
theorem cnt_le : ∀ k : Fin 33, cntOf (forms.getD k.val 0) ≤ 4 := by decide +kernel
theorem impl_rdi (k n cap : Nat) (a : Option Addr) (ws : List ByteArray) (w : World) (hk : k < 33) (hT : Tab w) (hn : n = ws.length) (hc : n ≤ cap) (hcap : cap ≤ 1048576) (hfl : Flds w a ws) (hsh : Short ws) :
    Calls Tryz.prog 100 #[.int .i64 k, .slice a n cap] w fun e w' => e = .returned (Rl.rdI k ws).val ∧ Below w.heap.size w w' := by
  have hb := form_lt ⟨k, hk⟩
  obtain ⟨b1, b2, b3⟩ := form_cnt ⟨k, hk⟩
  by_cases h : n = cntOf (forms.getD k 0)
  · exact impl_rdi_at k n cap _ _ _ _ _ _ a ws _ w hk hb.1 hb.2 (hT k hk) hn hc hcap hfl hsh (cnt_le ⟨k, hk⟩) h rfl (fun w => ones_any k hk w) b1 b2 b3 rfl
  · have e : Rl.rdI k ws = Rl.no := Rl.k0_len _ _ _ _ _ _ (fun e => h (by rw [hn]; exact e))
    rw [e]
    exact impl_rdi_far k n cap _ _ a w hk hb.1 hb.2 (hT k hk) (by omega) (cnt_le ⟨k, hk⟩) h (fun w => ones_any k hk w)
set_option maxHeartbeats 400000 in
theorem impl_rdw_len (n cap : Nat) (a : Option Addr) (w : World) (hn : n ≤ 1048576) (h : n ≠ 1) :
    Calls Tryz.prog 99 #[.slice a n cap] w fun e w' => e = .returned Rl.no.val ∧ Below w.heap.size w w' := by
  have h1 : ((n : Int) != 1) = true := by rw [bne_iff_ne]; omega
  clear h
  go_enter Tryz.func99, Tryz.ntmps99
  go_wp2
  exact bodyPost_ret (v := Rl.no.val) (by simp [results, Tryz.results99, go_sem, Rl.A8.val]) rfl ⟨rfl, (Below.refl _ _).alloc (Nat.le_refl _) _⟩
set_option maxHeartbeats 1000000 in
theorem impl_rdw_one (cap : Nat) (a : Option Addr) (x : ByteArray) (V : Value) (w : World) (hfl : Flds w a [x]) (hx : x.size ≤ 1048576) (HV : Hid ((Rl.rdW [x]).val = V)) :
    Calls Tryz.prog 99 #[.slice a 1 cap] w fun e w' => e = .returned V ∧ Below w.heap.size w w' := by
  obtain ⟨bb, oo, rfl, hbl, hcg0⟩ := Flds.head hfl
  have hcg : (w.alloc (.cells #[Value.int .i64 0, .int .i64 0, .int .i64 0, .int .i64 0, .int .i64 0, .int .i64 0, .int .u32 0, .string ⟨#[]⟩] 114)).cell? ⟨bb, oo, none⟩ = some (.string x) := cell_alloc hcg0
  obtain ⟨v, q, HT, hq1, hq0⟩ := fixT (Dc.ans (Tx.nums x) 4294967295)
  have HQ1 : Hid _ := hq1
  have HQ0 : Hid _ := hq0
  clear hq1 hq0 hcg0 hfl
  go_enter Tryz.func99, Tryz.ntmps99
  go_wp2_with fail
  refine (impl_num x 4294967295 _ hx).mono ?_
  rintro e w1 ⟨rfl, hb⟩
  rw [HT.out]
  have hz : ∀ i v, (#[Value.int .i64 0, .int .i64 0, .int .i64 0, .int .i64 0, .int .i64 0, .int .i64 0, .int .u32 0, .string ⟨#[]⟩] : Array Value)[i]? = some v → w1.cell? ⟨w.heap.size, i, none⟩ = some v := fun i v h =>
    (hb.cell (p := ⟨w.heap.size, i, none⟩) (by simp; try omega)).trans (new_cell w _ 114 i v h)
  have hf : ∀ i, w1.frozen? ⟨w.heap.size, i, none⟩ = false := fun i =>
    (hb.frozen (p := ⟨w.heap.size, i, none⟩) (by simp; try omega)).trans (by simp)
  have z0 := hz 0 (.int .i64 0) rfl
  have z1 := hz 1 (.int .i64 0) rfl
  have z2 := hz 2 (.int .i64 0) rfl
  have z3 := hz 3 (.int .i64 0) rfl
  have z4 := hz 4 (.int .i64 0) rfl
  have z5 := hz 5 (.int .i64 0) rfl
  have z6 := hz 6 (.int .u32 0) rfl
  have z7 := hz 7 (.string ⟨#[]⟩) rfl
  clear hz
  have hb0 := ((Below.refl _ w).alloc (Nat.le_refl _) (.cells #[Value.int .i64 0, .int .i64 0, .int .i64 0, .int .i64 0, .int .i64 0, .int .i64 0, .int .u32 0, .string ⟨#[]⟩] 114)).trans (hb.mono (by simp))
  clear hb
  cases q
  · have HV2 : Hid (Rl.no.val = V) := by
      show _ = _
      rw [← HV.out]
      simp only [Rl.rdW, HQ0.out rfl]
    go_wp2
    exact bodyPost_ret (v := Rl.A8.val Rl.no) (by simp [results, Tryz.results99, go_sem, Rl.A8.val, z0, z1, z2, z3, z4, z5, z6, z7]) rfl ⟨ret_val HV2.out, ((((((((hb0).setCell (Nat.le_refl _) _).setCell (Nat.le_refl _) _).setCell (Nat.le_refl _) _).setCell (Nat.le_refl _) _).setCell (Nat.le_refl _) _).setCell (Nat.le_refl _) _).setCell (Nat.le_refl _) _).setCell (Nat.le_refl _) _⟩
  · by_cases hv : v < 0
    · have HV2 : Hid (Rl.no.val = V) := by
        show _ = _
        rw [← HV.out]
        simp [Rl.rdW, HQ1.out rfl, hv]
      go_wp2
      exact bodyPost_ret (v := Rl.A8.val Rl.no) (by simp [results, Tryz.results99, go_sem, Rl.A8.val, z0, z1, z2, z3, z4, z5, z6, z7]) rfl ⟨ret_val HV2.out, ((((((((hb0).setCell (Nat.le_refl _) _).setCell (Nat.le_refl _) _).setCell (Nat.le_refl _) _).setCell (Nat.le_refl _) _).setCell (Nat.le_refl _) _).setCell (Nat.le_refl _) _).setCell (Nat.le_refl _) _).setCell (Nat.le_refl _) _⟩
    · obtain ⟨_, hv1, _⟩ := Rl.ans_dect _ _ _ (HQ1.out rfl)
      have HV2 : Hid (Rl.A8.val ⟨2, 0, 0, 0, 0, 0, v, ⟨#[]⟩⟩ = V) := by
        show _ = _
        rw [← HV.out]
        simp [Rl.rdW, HQ1.out rfl, hv]
      have hv0 : 0 ≤ v := by omega
      go_wp2
      exact bodyPost_ret (v := Rl.A8.val ⟨2, 0, 0, 0, 0, 0, v, ⟨#[]⟩⟩) (by simp [results, Tryz.results99, go_sem, Rl.A8.val, z0, z1, z2, z3, z4, z5, z6, z7]) rfl ⟨ret_val HV2.out, ((((((((hb0).setCell (Nat.le_refl _) _).setCell (Nat.le_refl _) _).setCell (Nat.le_refl _) _).setCell (Nat.le_refl _) _).setCell (Nat.le_refl _) _).setCell (Nat.le_refl _) _).setCell (Nat.le_refl _) _).setCell (Nat.le_refl _) _⟩
theorem impl_rdw (n cap : Nat) (a : Option Addr) (ws : List ByteArray) (w : World) (hn : n = ws.length) (hl : n ≤ 1048576) (hfl : Flds w a ws) (hsh : Short ws) :
    Calls Tryz.prog 99 #[.slice a n cap] w fun e w' => e = .returned (Rl.rdW ws).val ∧ Below w.heap.size w w' := by
  by_cases h : n = 1
  · subst h
    cases ws with
    | nil => cases hn
    | cons x r =>
      cases r with
      | nil => exact impl_rdw_one cap a x _ w hfl (hsh x (by simp)) rfl
      | cons _ _ => simp at hn
  · have e : Rl.rdW ws = Rl.no := by
      unfold Rl.rdW
      split
      · exact absurd hn h
      · rfl
    rw [e]
    exact impl_rdw_len n cap a w hl h
end Go.Proofs.YtdjapcfejmhjnaaGreatDoor
