
/-
  EventOf: the program's answer, and the specification's, at every text: the same. Conditions: texts are at most 1048576 bytes long; the program's table of names and the library's variable lie in memory as the texts lay them.
-/
import Derived.Test.YthlapikcjiajgaaDoorBas
import Derived.Test.YthlapikcjiajgaaDoorEwi
namespace Go.Proofs.YthlapikcjiajgaaDoor
open Go.ChangeShapes Go.WideShapes Go.ChangeAt Go.RowKit Go.Deep
set_option linter.unusedVariables false

namespace Ex
theorem flag_eq (a b c d e f g : Bool) : (((((((false || !a) || !b) || !c) || !d) || !e) || !f) || !g) = !(a && (b && (e && (f && (c && (g && d)))))) := by
  cases a <;> cases b <;> cases c <;> cases d <;> cases e <;> cases f <;> cases g <;> rfl
end Ex
set_option maxRecDepth 40000 in
set_option maxHeartbeats 8000000 in
theorem impl_evof_ne (s : ByteArray) (n : Nat) (ws : List ByteArray) (w : World) (hn : ¬ n = 7) (hn2 : n ≤ 1048577)
    (HSP : Hid (Calls Tryd.prog 26 #[.string s, .string ⟨#[32]⟩] (w.alloc (.cells #[.int .i64 0, .int .i64 0, .int .u32 0, .int .i64 0, .int .i64 0, .int .i64 0, .int .u32 0] 26)) fun e w' => e = .returned (.slice (some ⟨w.heap.size + 1, 0, none⟩) n n) ∧ (∀ j, j < n → w'.cell? ⟨w.heap.size + 1, j, none⟩ = some (.string (Ex.wgt ws j))) ∧ Below (w.heap.size + 1) (w.alloc (.cells #[.int .i64 0, .int .i64 0, .int .u32 0, .int .i64 0, .int .i64 0, .int .i64 0, .int .u32 0] 26)) w')) :
    Calls Tryd.prog 10 #[.string s] w fun e w' => e = .returned (.tuple #[.agg #[.int .i64 0, .int .i64 0, .int .u32 0, .int .i64 0, .int .i64 0, .int .i64 0, .int .u32 0], .bool false]) ∧ Below w.heap.size w w' := by
  have hm1 : ((n : Int) != 7) = true := by rw [bne_iff_ne]; omega
  have HR : Hid ((w.alloc (.cells #[.int .i64 0, .int .i64 0, .int .u32 0, .int .i64 0, .int .i64 0, .int .i64 0, .int .u32 0] 26)).heap[w.heap.size]? = some (.cells #[.int .i64 0, .int .i64 0, .int .u32 0, .int .i64 0, .int .i64 0, .int .i64 0, .int .u32 0] 26 (0, 0))) := new_row w _ _ _ rfl
  have HB : Hid (Below w.heap.size w (w.alloc (.cells #[.int .i64 0, .int .i64 0, .int .u32 0, .int .i64 0, .int .i64 0, .int .i64 0, .int .u32 0] 26))) := (Below.refl _ _).alloc (Nat.le_refl _) _
  have hs1 : (w.alloc (.cells #[.int .i64 0, .int .i64 0, .int .u32 0, .int .i64 0, .int .i64 0, .int .i64 0, .int .u32 0] 26)).heap.size = w.heap.size + 1 := by simp
  have HS1 : Hid _ := hs1
  clear hs1
  go_enter Tryd.func10, Tryd.ntmps10
  go_wp2_with fail
  refine Calls.mono HSP.out ?_
  rintro e W1 ⟨rfl, hcl, hb1⟩
  have HQ1 : Hid (Below (w.alloc (.cells #[.int .i64 0, .int .i64 0, .int .u32 0, .int .i64 0, .int .i64 0, .int .i64 0, .int .u32 0] 26)).heap.size (w.alloc (.cells #[.int .i64 0, .int .i64 0, .int .u32 0, .int .i64 0, .int .i64 0, .int .i64 0, .int .u32 0] 26)) W1) := by show Below _ _ _; rw [HS1.out]; exact hb1
  have HB1 : Hid (Below w.heap.size w W1) := HB.out.trans (HQ1.out.mono HB.out.size)
  have HR1 : Hid (W1.heap[w.heap.size]? = some (.cells #[.int .i64 0, .int .i64 0, .int .u32 0, .int .i64 0, .int .i64 0, .int .i64 0, .int .u32 0] 26 (0, 0))) := row_below HR.out HQ1.out
  have HCL : Hid _ := hcl
  clear hb1 hcl HSP
  have HRF : Hid ((W1.setRow w.heap.size #[.int .i64 0, .int .i64 0, .int .u32 0, .int .i64 0, .int .i64 0, .int .i64 0, .int .u32 0]).heap[w.heap.size]? = some (.cells #[.int .i64 0, .int .i64 0, .int .u32 0, .int .i64 0, .int .i64 0, .int .i64 0, .int .u32 0] 26 (0, 0))) := setRow_heap _ _ _ _ _ _ HR1.out
  have m0 := row_c HRF.out 0 _ rfl
  have m1 := row_c HRF.out 1 _ rfl
  have m2 := row_c HRF.out 2 _ rfl
  have m3 := row_c HRF.out 3 _ rfl
  have m4 := row_c HRF.out 4 _ rfl
  have m5 := row_c HRF.out 5 _ rfl
  have m6 := row_c HRF.out 6 _ rfl
  have HBF : Hid (Below w.heap.size w (W1.setRow w.heap.size #[.int .i64 0, .int .i64 0, .int .u32 0, .int .i64 0, .int .i64 0, .int .i64 0, .int .u32 0])) := below_setRow HB1.out (Nat.le_refl _) _
  go_wp2_with (first | (refine wpList_store_row rfl 26 (.tmp 2) (.tmp 12) rfl w.heap.size #[.int .i64 0, .int .i64 0, .int .u32 0, .int .i64 0, .int .i64 0, .int .i64 0, .int .u32 0] rfl rfl 26 #[.int .i64 0, .int .i64 0, .int .u32 0, .int .i64 0, .int .i64 0, .int .i64 0, .int .u32 0] HR1.out (by kernel_rfl) rfl (by simp [Value.oneCell']) ?_) | fail)
  exact bodyPost_ret (v := .tuple #[.agg #[.int .i64 0, .int .i64 0, .int .u32 0, .int .i64 0, .int .i64 0, .int .i64 0, .int .u32 0], .bool false]) (by simp [results, Tryd.results10, go_sem, m0, m1, m2, m3, m4, m5, m6]) rfl ⟨rfl, HBF.out⟩
set_option maxRecDepth 40000 in
set_option maxHeartbeats 8000000 in
theorem impl_evof_bad (s : ByteArray) (n : Nat) (ws : List ByteArray) (w : World) (hn : n = 7) (hT : TabN w) (hz : ∀ j, (Ex.wgt ws j).size ≤ 1048576) (hg : Ex.good ws = false) (v0 v1 v2 v3 v4 v5 v6 : Int) (hv : Ex.says ws = (v0, v1, v2, v3, v4, v5, v6))
    (HSP : Hid (Calls Tryd.prog 26 #[.string s, .string ⟨#[32]⟩] (w.alloc (.cells #[.int .i64 0, .int .i64 0, .int .u32 0, .int .i64 0, .int .i64 0, .int .i64 0, .int .u32 0] 26)) fun e w' => e = .returned (.slice (some ⟨w.heap.size + 1, 0, none⟩) n n) ∧ (∀ j, j < n → w'.cell? ⟨w.heap.size + 1, j, none⟩ = some (.string (Ex.wgt ws j))) ∧ Below (w.heap.size + 1) (w.alloc (.cells #[.int .i64 0, .int .i64 0, .int .u32 0, .int .i64 0, .int .i64 0, .int .i64 0, .int .u32 0] 26)) w')) :
    Calls Tryd.prog 10 #[.string s] w fun e w' => e = .returned (.tuple #[.agg #[.int .i64 0, .int .i64 0, .int .u32 0, .int .i64 0, .int .i64 0, .int .i64 0, .int .u32 0], .bool false]) ∧ Below w.heap.size w w' := by
  subst hn
  have HT : Hid (∀ X, Below w.heap.size w X → TabN X) := fun X hX i hi => (hX.cell (World.block_lt_of_cell? _ _ (hT i hi))).trans (hT i hi)
  have HZ : Hid (∀ j, (Ex.wgt ws j).size ≤ 1048576) := hz
  have HG : Hid (Ex.good ws = false) := hg
  have HV : Hid (Ex.says ws = (v0, v1, v2, v3, v4, v5, v6)) := hv
  clear hT hz hg hv
  have HR : Hid ((w.alloc (.cells #[.int .i64 0, .int .i64 0, .int .u32 0, .int .i64 0, .int .i64 0, .int .i64 0, .int .u32 0] 26)).heap[w.heap.size]? = some (.cells #[.int .i64 0, .int .i64 0, .int .u32 0, .int .i64 0, .int .i64 0, .int .i64 0, .int .u32 0] 26 (0, 0))) := new_row w _ _ _ rfl
  have HB : Hid (Below w.heap.size w (w.alloc (.cells #[.int .i64 0, .int .i64 0, .int .u32 0, .int .i64 0, .int .i64 0, .int .i64 0, .int .u32 0] 26))) := (Below.refl _ _).alloc (Nat.le_refl _) _
  have hs1 : (w.alloc (.cells #[.int .i64 0, .int .i64 0, .int .u32 0, .int .i64 0, .int .i64 0, .int .i64 0, .int .u32 0] 26)).heap.size = w.heap.size + 1 := by simp
  have HS1 : Hid _ := hs1
  clear hs1
  go_enter Tryd.func10, Tryd.ntmps10
  go_wp2_with fail
  refine Calls.mono HSP.out ?_
  rintro e W1 ⟨rfl, hcl, hb1⟩
  have HQ1 : Hid (Below (w.alloc (.cells #[.int .i64 0, .int .i64 0, .int .u32 0, .int .i64 0, .int .i64 0, .int .i64 0, .int .u32 0] 26)).heap.size (w.alloc (.cells #[.int .i64 0, .int .i64 0, .int .u32 0, .int .i64 0, .int .i64 0, .int .i64 0, .int .u32 0] 26)) W1) := by show Below _ _ _; rw [HS1.out]; exact hb1
  have HB1 : Hid (Below w.heap.size w W1) := HB.out.trans (HQ1.out.mono HB.out.size)
  have HR1 : Hid (W1.heap[w.heap.size]? = some (.cells #[.int .i64 0, .int .i64 0, .int .u32 0, .int .i64 0, .int .i64 0, .int .i64 0, .int .u32 0] 26 (0, 0))) := row_below HR.out HQ1.out
  have HCL : Hid _ := hcl
  clear hb1 hcl HSP
  have HGW : Hid (w.heap.size + 1 < W1.heap.size) := World.block_lt_of_cell? _ _ (HCL.out 0 (by omega))
  have HN : Hid ((W1.alloc (.cells #[.slice none 0 0, .bool false] 50)).heap[W1.heap.size]? = some (.cells #[.slice none 0 0, .bool false] 50 (0, 0))) := new_row W1 _ _ _ rfl
  have hba : Below W1.heap.size W1 ((W1.alloc (.cells #[.slice none 0 0, .bool false] 50)).setRow W1.heap.size #[.slice (some ⟨w.heap.size + 1, 0, none⟩) 7 7, .bool false]) := below_setRow ((Below.refl _ _).alloc (Nat.le_refl _) _) (Nat.le_refl _) _
  have HE0 : Hid (ER (w.alloc (.cells #[.int .i64 0, .int .i64 0, .int .u32 0, .int .i64 0, .int .i64 0, .int .i64 0, .int .u32 0] 26)) ((W1.alloc (.cells #[.slice none 0 0, .bool false] 50)).setRow W1.heap.size #[.slice (some ⟨w.heap.size + 1, 0, none⟩) 7 7, .bool false]) W1.heap.size (w.heap.size + 1) ws false) :=
    ⟨HQ1.out.trans (hba.mono HQ1.out.size), HQ1.out.size, HGW.out, setRow_heap _ _ _ _ _ _ HN.out, fun j hj => (hba.cell (World.block_lt_of_cell? _ _ (HCL.out j hj))).trans (HCL.out j hj)⟩
  clear hba
  go_wp2_with (first | (refine wpList_store_row rfl 50 (.tmp 5) (.tmp 14) rfl W1.heap.size #[.slice (some ⟨w.heap.size + 1, 0, none⟩) 7 7, .bool false] rfl rfl 50 #[.slice none 0 0, .bool false] HN.out (by kernel_rfl) rfl (by simp [Value.oneCell']) ?_) | fail)
  generalize ((W1.alloc (.cells #[.slice none 0 0, .bool false] 50)).setRow W1.heap.size #[.slice (some ⟨w.heap.size + 1, 0, none⟩) 7 7, .bool false]) = U0 at HE0 ⊢
  clear HN HCL HR1 HB1 HQ1
  refine Calls.mono (rd_number (w.alloc (.cells #[.int .i64 0, .int .i64 0, .int .u32 0, .int .i64 0, .int .i64 0, .int .i64 0, .int .u32 0] 26)) U0 _ _ 0 ws _ HE0.out (by omega) (HZ.out 0)) ?_
  rintro e U1 ⟨rfl, he1⟩
  have HE1 : Hid (ER (w.alloc (.cells #[.int .i64 0, .int .i64 0, .int .u32 0, .int .i64 0, .int .i64 0, .int .i64 0, .int .u32 0] 26)) U1 W1.heap.size (w.heap.size + 1) ws (false || !Ex.rdq (Ex.wgt ws 0))) := he1
  clear he1 HE0
  have HV0 : Hid (Ex.rdv (Ex.wgt ws 0) = v0) := congrArg (fun r : evT => r.1) HV.out
  rw [HV0.out]
  go_wp2_with fail
  refine Calls.mono (rd_number (w.alloc (.cells #[.int .i64 0, .int .i64 0, .int .u32 0, .int .i64 0, .int .i64 0, .int .i64 0, .int .u32 0] 26)) U1 _ _ 1 ws _ HE1.out (by omega) (HZ.out 1)) ?_
  rintro e U2 ⟨rfl, he2⟩
  have HE2 : Hid (ER (w.alloc (.cells #[.int .i64 0, .int .i64 0, .int .u32 0, .int .i64 0, .int .i64 0, .int .i64 0, .int .u32 0] 26)) U2 W1.heap.size (w.heap.size + 1) ws ((false || !Ex.rdq (Ex.wgt ws 0)) || !Ex.rdq (Ex.wgt ws 1))) := he2
  clear he2 HE1
  have HV1 : Hid (Ex.rdv (Ex.wgt ws 1) = v1) := congrArg (fun r : evT => r.2.1) HV.out
  rw [HV1.out]
  go_wp2_with fail
  refine Calls.mono (rd_hex (w.alloc (.cells #[.int .i64 0, .int .i64 0, .int .u32 0, .int .i64 0, .int .i64 0, .int .i64 0, .int .u32 0] 26)) U2 _ _ 2 ws _ HE2.out (by omega) (HZ.out 2)) ?_
  rintro e U3 ⟨rfl, he3⟩
  have HE3 : Hid (ER (w.alloc (.cells #[.int .i64 0, .int .i64 0, .int .u32 0, .int .i64 0, .int .i64 0, .int .i64 0, .int .u32 0] 26)) U3 W1.heap.size (w.heap.size + 1) ws (((false || !Ex.rdq (Ex.wgt ws 0)) || !Ex.rdq (Ex.wgt ws 1)) || !Ex.hexq (Ex.wgt ws 2))) := he3
  clear he3 HE2
  have HV2 : Hid (Ex.hexv (Ex.wgt ws 2) = v2) := congrArg (fun r : evT => r.2.2.1) HV.out
  rw [HV2.out]
  go_wp2_with fail
  refine Calls.mono (rd_op (w.alloc (.cells #[.int .i64 0, .int .i64 0, .int .u32 0, .int .i64 0, .int .i64 0, .int .i64 0, .int .u32 0] 26)) U3 _ _ 3 ws _ HE3.out (by omega) (HT.out _ (HB.out.trans (HE3.out.below.mono HB.out.size)))) ?_
  rintro e U4 ⟨rfl, he4⟩
  have HE4 : Hid (ER (w.alloc (.cells #[.int .i64 0, .int .i64 0, .int .u32 0, .int .i64 0, .int .i64 0, .int .i64 0, .int .u32 0] 26)) U4 W1.heap.size (w.heap.size + 1) ws ((((false || !Ex.rdq (Ex.wgt ws 0)) || !Ex.rdq (Ex.wgt ws 1)) || !Ex.hexq (Ex.wgt ws 2)) || !Ex.opq (Ex.wgt ws 3))) := he4
  clear he4 HE3
  have HV3 : Hid (Ex.opf (Ex.wgt ws 3) = v3) := congrArg (fun r : evT => r.2.2.2.1) HV.out
  rw [HV3.out]
  go_wp2_with fail
  refine Calls.mono (rd_number (w.alloc (.cells #[.int .i64 0, .int .i64 0, .int .u32 0, .int .i64 0, .int .i64 0, .int .i64 0, .int .u32 0] 26)) U4 _ _ 4 ws _ HE4.out (by omega) (HZ.out 4)) ?_
  rintro e U5 ⟨rfl, he5⟩
  have HE5 : Hid (ER (w.alloc (.cells #[.int .i64 0, .int .i64 0, .int .u32 0, .int .i64 0, .int .i64 0, .int .i64 0, .int .u32 0] 26)) U5 W1.heap.size (w.heap.size + 1) ws (((((false || !Ex.rdq (Ex.wgt ws 0)) || !Ex.rdq (Ex.wgt ws 1)) || !Ex.hexq (Ex.wgt ws 2)) || !Ex.opq (Ex.wgt ws 3)) || !Ex.rdq (Ex.wgt ws 4))) := he5
  clear he5 HE4
  have HV4 : Hid (Ex.rdv (Ex.wgt ws 4) = v4) := congrArg (fun r : evT => r.2.2.2.2.1) HV.out
  rw [HV4.out]
  go_wp2_with fail
  refine Calls.mono (rd_number (w.alloc (.cells #[.int .i64 0, .int .i64 0, .int .u32 0, .int .i64 0, .int .i64 0, .int .i64 0, .int .u32 0] 26)) U5 _ _ 5 ws _ HE5.out (by omega) (HZ.out 5)) ?_
  rintro e U6 ⟨rfl, he6⟩
  have HE6 : Hid (ER (w.alloc (.cells #[.int .i64 0, .int .i64 0, .int .u32 0, .int .i64 0, .int .i64 0, .int .i64 0, .int .u32 0] 26)) U6 W1.heap.size (w.heap.size + 1) ws ((((((false || !Ex.rdq (Ex.wgt ws 0)) || !Ex.rdq (Ex.wgt ws 1)) || !Ex.hexq (Ex.wgt ws 2)) || !Ex.opq (Ex.wgt ws 3)) || !Ex.rdq (Ex.wgt ws 4)) || !Ex.rdq (Ex.wgt ws 5))) := he6
  clear he6 HE5
  have HV5 : Hid (Ex.rdv (Ex.wgt ws 5) = v5) := congrArg (fun r : evT => r.2.2.2.2.2.1) HV.out
  rw [HV5.out]
  go_wp2_with fail
  refine Calls.mono (rd_hex (w.alloc (.cells #[.int .i64 0, .int .i64 0, .int .u32 0, .int .i64 0, .int .i64 0, .int .i64 0, .int .u32 0] 26)) U6 _ _ 6 ws _ HE6.out (by omega) (HZ.out 6)) ?_
  rintro e U7 ⟨rfl, he7⟩
  have HE7 : Hid (ER (w.alloc (.cells #[.int .i64 0, .int .i64 0, .int .u32 0, .int .i64 0, .int .i64 0, .int .i64 0, .int .u32 0] 26)) U7 W1.heap.size (w.heap.size + 1) ws (((((((false || !Ex.rdq (Ex.wgt ws 0)) || !Ex.rdq (Ex.wgt ws 1)) || !Ex.hexq (Ex.wgt ws 2)) || !Ex.opq (Ex.wgt ws 3)) || !Ex.rdq (Ex.wgt ws 4)) || !Ex.rdq (Ex.wgt ws 5)) || !Ex.hexq (Ex.wgt ws 6))) := he7
  clear he7 HE6
  have HV6 : Hid (Ex.hexv (Ex.wgt ws 6) = v6) := congrArg (fun r : evT => r.2.2.2.2.2.2) HV.out
  rw [HV6.out]
  have HF : Hid ((((((((false || !Ex.rdq (Ex.wgt ws 0)) || !Ex.rdq (Ex.wgt ws 1)) || !Ex.hexq (Ex.wgt ws 2)) || !Ex.opq (Ex.wgt ws 3)) || !Ex.rdq (Ex.wgt ws 4)) || !Ex.rdq (Ex.wgt ws 5)) || !Ex.hexq (Ex.wgt ws 6)) = !false) := by
    show _ = _
    rw [Ex.flag_eq]
    exact congrArg Bool.not HG.out
  have HE : Hid (ER (w.alloc (.cells #[.int .i64 0, .int .i64 0, .int .u32 0, .int .i64 0, .int .i64 0, .int .i64 0, .int .u32 0] 26)) U7 W1.heap.size (w.heap.size + 1) ws (!false)) := by
    have := HE7.out
    rw [HF.out] at this
    exact this
  clear HE7 HF
  have HN7 : Hid ((U7.alloc (.cells #[.int .i64 0, .int .i64 0, .int .u32 0, .int .i64 0, .int .i64 0, .int .i64 0, .int .u32 0] 26)).heap[U7.heap.size]? = some (.cells #[.int .i64 0, .int .i64 0, .int .u32 0, .int .i64 0, .int .i64 0, .int .i64 0, .int .u32 0] 26 (0, 0))) := new_row U7 _ _ _ rfl
  have hb7 : Below U7.heap.size U7 ((U7.alloc (.cells #[.int .i64 0, .int .i64 0, .int .u32 0, .int .i64 0, .int .i64 0, .int .i64 0, .int .u32 0] 26)).setRow U7.heap.size #[.int .i64 v0, .int .i64 v1, .int .u32 v2, .int .i64 v3, .int .i64 v4, .int .i64 v5, .int .u32 v6]) := below_setRow ((Below.refl _ _).alloc (Nat.le_refl _) _) (Nat.le_refl _) _
  have HC7 : Hid (((U7.alloc (.cells #[.int .i64 0, .int .i64 0, .int .u32 0, .int .i64 0, .int .i64 0, .int .i64 0, .int .u32 0] 26)).setRow U7.heap.size #[.int .i64 v0, .int .i64 v1, .int .u32 v2, .int .i64 v3, .int .i64 v4, .int .i64 v5, .int .u32 v6]).heap[U7.heap.size]? = some (.cells #[.int .i64 v0, .int .i64 v1, .int .u32 v2, .int .i64 v3, .int .i64 v4, .int .i64 v5, .int .u32 v6] 26 (0, 0))) := setRow_heap _ _ _ _ _ _ HN7.out
  have HE8 : Hid (ER (w.alloc (.cells #[.int .i64 0, .int .i64 0, .int .u32 0, .int .i64 0, .int .i64 0, .int .i64 0, .int .u32 0] 26)) ((U7.alloc (.cells #[.int .i64 0, .int .i64 0, .int .u32 0, .int .i64 0, .int .i64 0, .int .i64 0, .int .u32 0] 26)).setRow U7.heap.size #[.int .i64 v0, .int .i64 v1, .int .u32 v2, .int .i64 v3, .int .i64 v4, .int .i64 v5, .int .u32 v6]) W1.heap.size (w.heap.size + 1) ws (!false)) := HE.out.grown hb7
  have HR8 : Hid (((U7.alloc (.cells #[.int .i64 0, .int .i64 0, .int .u32 0, .int .i64 0, .int .i64 0, .int .i64 0, .int .u32 0] 26)).setRow U7.heap.size #[.int .i64 v0, .int .i64 v1, .int .u32 v2, .int .i64 v3, .int .i64 v4, .int .i64 v5, .int .u32 v6]).heap[w.heap.size]? = some (.cells #[.int .i64 0, .int .i64 0, .int .u32 0, .int .i64 0, .int .i64 0, .int .i64 0, .int .u32 0] 26 (0, 0))) := row_below HR.out HE8.out.below
  have HB8 : Hid (Below w.heap.size w ((U7.alloc (.cells #[.int .i64 0, .int .i64 0, .int .u32 0, .int .i64 0, .int .i64 0, .int .i64 0, .int .u32 0] 26)).setRow U7.heap.size #[.int .i64 v0, .int .i64 v1, .int .u32 v2, .int .i64 v3, .int .i64 v4, .int .i64 v5, .int .u32 v6])) := HB.out.trans (HE8.out.below.mono HB.out.size)
  have c1 : ((U7.alloc (.cells #[.int .i64 0, .int .i64 0, .int .u32 0, .int .i64 0, .int .i64 0, .int .i64 0, .int .u32 0] 26)).setRow U7.heap.size #[.int .i64 v0, .int .i64 v1, .int .u32 v2, .int .i64 v3, .int .i64 v4, .int .i64 v5, .int .u32 v6]).cell? ⟨W1.heap.size, 1, none⟩ = some (.bool (!false)) := row_c HE8.out.row 1 _ rfl
  have HC1 : Hid _ := c1
  clear c1 HE HE8 hb7 HR HB
  go_wp2_with (first | (refine wpList_store_row rfl 26 (.tmp 6) (.tmp 22) rfl U7.heap.size #[.int .i64 v0, .int .i64 v1, .int .u32 v2, .int .i64 v3, .int .i64 v4, .int .i64 v5, .int .u32 v6] rfl rfl 26 #[.int .i64 0, .int .i64 0, .int .u32 0, .int .i64 0, .int .i64 0, .int .i64 0, .int .u32 0] HN7.out (by kernel_rfl) rfl (by simp [Value.oneCell']) ?_; generalize ((U7.alloc (.cells #[.int .i64 0, .int .i64 0, .int .u32 0, .int .i64 0, .int .i64 0, .int .i64 0, .int .u32 0] 26)).setRow U7.heap.size #[.int .i64 v0, .int .i64 v1, .int .u32 v2, .int .i64 v3, .int .i64 v4, .int .i64 v5, .int .u32 v6]) = U9 at HC7 HR8 HB8 HC1 ⊢; have c1 := HC1.out; simp only [Bool.not_false] at c1) | (refine wpList_store_row rfl 26 (.tmp 2) (.tmp 25) rfl w.heap.size #[.int .i64 0, .int .i64 0, .int .u32 0, .int .i64 0, .int .i64 0, .int .i64 0, .int .u32 0] rfl rfl 26 #[.int .i64 0, .int .i64 0, .int .u32 0, .int .i64 0, .int .i64 0, .int .i64 0, .int .u32 0] HR8.out (by kernel_rfl) rfl (by simp [Value.oneCell']) ?_; have HRF : Hid ((U9.setRow w.heap.size #[.int .i64 0, .int .i64 0, .int .u32 0, .int .i64 0, .int .i64 0, .int .i64 0, .int .u32 0]).heap[w.heap.size]? = some (.cells #[.int .i64 0, .int .i64 0, .int .u32 0, .int .i64 0, .int .i64 0, .int .i64 0, .int .u32 0] 26 (0, 0))) := setRow_heap _ _ _ _ _ _ HR8.out; have m0 := row_c HRF.out 0 _ rfl; have m1 := row_c HRF.out 1 _ rfl; have m2 := row_c HRF.out 2 _ rfl; have m3 := row_c HRF.out 3 _ rfl; have m4 := row_c HRF.out 4 _ rfl; have m5 := row_c HRF.out 5 _ rfl; have m6 := row_c HRF.out 6 _ rfl; have HBF : Hid (Below w.heap.size w (U9.setRow w.heap.size #[.int .i64 0, .int .i64 0, .int .u32 0, .int .i64 0, .int .i64 0, .int .i64 0, .int .u32 0])) := below_setRow HB8.out (Nat.le_refl _) _) | fail)
  exact bodyPost_ret (v := .tuple #[.agg #[.int .i64 0, .int .i64 0, .int .u32 0, .int .i64 0, .int .i64 0, .int .i64 0, .int .u32 0], .bool false]) (by simp [results, Tryd.results10, go_sem, m0, m1, m2, m3, m4, m5, m6]) rfl ⟨rfl, HBF.out⟩
set_option maxRecDepth 40000 in
set_option maxHeartbeats 8000000 in
theorem impl_evof_good (s : ByteArray) (n : Nat) (ws : List ByteArray) (w : World) (hn : n = 7) (hT : TabN w) (hz : ∀ j, (Ex.wgt ws j).size ≤ 1048576) (hg : Ex.good ws = true) (v0 v1 v2 v3 v4 v5 v6 : Int) (hv : Ex.says ws = (v0, v1, v2, v3, v4, v5, v6))
    (HSP : Hid (Calls Tryd.prog 26 #[.string s, .string ⟨#[32]⟩] (w.alloc (.cells #[.int .i64 0, .int .i64 0, .int .u32 0, .int .i64 0, .int .i64 0, .int .i64 0, .int .u32 0] 26)) fun e w' => e = .returned (.slice (some ⟨w.heap.size + 1, 0, none⟩) n n) ∧ (∀ j, j < n → w'.cell? ⟨w.heap.size + 1, j, none⟩ = some (.string (Ex.wgt ws j))) ∧ Below (w.heap.size + 1) (w.alloc (.cells #[.int .i64 0, .int .i64 0, .int .u32 0, .int .i64 0, .int .i64 0, .int .i64 0, .int .u32 0] 26)) w')) :
    Calls Tryd.prog 10 #[.string s] w fun e w' => e = .returned (.tuple #[.agg #[.int .i64 v0, .int .i64 v1, .int .u32 v2, .int .i64 v3, .int .i64 v4, .int .i64 v5, .int .u32 v6], .bool true]) ∧ Below w.heap.size w w' := by
  subst hn
  have HT : Hid (∀ X, Below w.heap.size w X → TabN X) := fun X hX i hi => (hX.cell (World.block_lt_of_cell? _ _ (hT i hi))).trans (hT i hi)
  have HZ : Hid (∀ j, (Ex.wgt ws j).size ≤ 1048576) := hz
  have HG : Hid (Ex.good ws = true) := hg
  have HV : Hid (Ex.says ws = (v0, v1, v2, v3, v4, v5, v6)) := hv
  clear hT hz hg hv
  have HR : Hid ((w.alloc (.cells #[.int .i64 0, .int .i64 0, .int .u32 0, .int .i64 0, .int .i64 0, .int .i64 0, .int .u32 0] 26)).heap[w.heap.size]? = some (.cells #[.int .i64 0, .int .i64 0, .int .u32 0, .int .i64 0, .int .i64 0, .int .i64 0, .int .u32 0] 26 (0, 0))) := new_row w _ _ _ rfl
  have HB : Hid (Below w.heap.size w (w.alloc (.cells #[.int .i64 0, .int .i64 0, .int .u32 0, .int .i64 0, .int .i64 0, .int .i64 0, .int .u32 0] 26))) := (Below.refl _ _).alloc (Nat.le_refl _) _
  have hs1 : (w.alloc (.cells #[.int .i64 0, .int .i64 0, .int .u32 0, .int .i64 0, .int .i64 0, .int .i64 0, .int .u32 0] 26)).heap.size = w.heap.size + 1 := by simp
  have HS1 : Hid _ := hs1
  clear hs1
  go_enter Tryd.func10, Tryd.ntmps10
  go_wp2_with fail
  refine Calls.mono HSP.out ?_
  rintro e W1 ⟨rfl, hcl, hb1⟩
  have HQ1 : Hid (Below (w.alloc (.cells #[.int .i64 0, .int .i64 0, .int .u32 0, .int .i64 0, .int .i64 0, .int .i64 0, .int .u32 0] 26)).heap.size (w.alloc (.cells #[.int .i64 0, .int .i64 0, .int .u32 0, .int .i64 0, .int .i64 0, .int .i64 0, .int .u32 0] 26)) W1) := by show Below _ _ _; rw [HS1.out]; exact hb1
  have HB1 : Hid (Below w.heap.size w W1) := HB.out.trans (HQ1.out.mono HB.out.size)
  have HR1 : Hid (W1.heap[w.heap.size]? = some (.cells #[.int .i64 0, .int .i64 0, .int .u32 0, .int .i64 0, .int .i64 0, .int .i64 0, .int .u32 0] 26 (0, 0))) := row_below HR.out HQ1.out
  have HCL : Hid _ := hcl
  clear hb1 hcl HSP
  have HGW : Hid (w.heap.size + 1 < W1.heap.size) := World.block_lt_of_cell? _ _ (HCL.out 0 (by omega))
  have HN : Hid ((W1.alloc (.cells #[.slice none 0 0, .bool false] 50)).heap[W1.heap.size]? = some (.cells #[.slice none 0 0, .bool false] 50 (0, 0))) := new_row W1 _ _ _ rfl
  have hba : Below W1.heap.size W1 ((W1.alloc (.cells #[.slice none 0 0, .bool false] 50)).setRow W1.heap.size #[.slice (some ⟨w.heap.size + 1, 0, none⟩) 7 7, .bool false]) := below_setRow ((Below.refl _ _).alloc (Nat.le_refl _) _) (Nat.le_refl _) _
  have HE0 : Hid (ER (w.alloc (.cells #[.int .i64 0, .int .i64 0, .int .u32 0, .int .i64 0, .int .i64 0, .int .i64 0, .int .u32 0] 26)) ((W1.alloc (.cells #[.slice none 0 0, .bool false] 50)).setRow W1.heap.size #[.slice (some ⟨w.heap.size + 1, 0, none⟩) 7 7, .bool false]) W1.heap.size (w.heap.size + 1) ws false) :=
    ⟨HQ1.out.trans (hba.mono HQ1.out.size), HQ1.out.size, HGW.out, setRow_heap _ _ _ _ _ _ HN.out, fun j hj => (hba.cell (World.block_lt_of_cell? _ _ (HCL.out j hj))).trans (HCL.out j hj)⟩
  clear hba
  go_wp2_with (first | (refine wpList_store_row rfl 50 (.tmp 5) (.tmp 14) rfl W1.heap.size #[.slice (some ⟨w.heap.size + 1, 0, none⟩) 7 7, .bool false] rfl rfl 50 #[.slice none 0 0, .bool false] HN.out (by kernel_rfl) rfl (by simp [Value.oneCell']) ?_) | fail)
  generalize ((W1.alloc (.cells #[.slice none 0 0, .bool false] 50)).setRow W1.heap.size #[.slice (some ⟨w.heap.size + 1, 0, none⟩) 7 7, .bool false]) = U0 at HE0 ⊢
  clear HN HCL HR1 HB1 HQ1
  refine Calls.mono (rd_number (w.alloc (.cells #[.int .i64 0, .int .i64 0, .int .u32 0, .int .i64 0, .int .i64 0, .int .i64 0, .int .u32 0] 26)) U0 _ _ 0 ws _ HE0.out (by omega) (HZ.out 0)) ?_
  rintro e U1 ⟨rfl, he1⟩
  have HE1 : Hid (ER (w.alloc (.cells #[.int .i64 0, .int .i64 0, .int .u32 0, .int .i64 0, .int .i64 0, .int .i64 0, .int .u32 0] 26)) U1 W1.heap.size (w.heap.size + 1) ws (false || !Ex.rdq (Ex.wgt ws 0))) := he1
  clear he1 HE0
  have HV0 : Hid (Ex.rdv (Ex.wgt ws 0) = v0) := congrArg (fun r : evT => r.1) HV.out
  rw [HV0.out]
  go_wp2_with fail
  refine Calls.mono (rd_number (w.alloc (.cells #[.int .i64 0, .int .i64 0, .int .u32 0, .int .i64 0, .int .i64 0, .int .i64 0, .int .u32 0] 26)) U1 _ _ 1 ws _ HE1.out (by omega) (HZ.out 1)) ?_
  rintro e U2 ⟨rfl, he2⟩
  have HE2 : Hid (ER (w.alloc (.cells #[.int .i64 0, .int .i64 0, .int .u32 0, .int .i64 0, .int .i64 0, .int .i64 0, .int .u32 0] 26)) U2 W1.heap.size (w.heap.size + 1) ws ((false || !Ex.rdq (Ex.wgt ws 0)) || !Ex.rdq (Ex.wgt ws 1))) := he2
  clear he2 HE1
  have HV1 : Hid (Ex.rdv (Ex.wgt ws 1) = v1) := congrArg (fun r : evT => r.2.1) HV.out
  rw [HV1.out]
  go_wp2_with fail
  refine Calls.mono (rd_hex (w.alloc (.cells #[.int .i64 0, .int .i64 0, .int .u32 0, .int .i64 0, .int .i64 0, .int .i64 0, .int .u32 0] 26)) U2 _ _ 2 ws _ HE2.out (by omega) (HZ.out 2)) ?_
  rintro e U3 ⟨rfl, he3⟩
  have HE3 : Hid (ER (w.alloc (.cells #[.int .i64 0, .int .i64 0, .int .u32 0, .int .i64 0, .int .i64 0, .int .i64 0, .int .u32 0] 26)) U3 W1.heap.size (w.heap.size + 1) ws (((false || !Ex.rdq (Ex.wgt ws 0)) || !Ex.rdq (Ex.wgt ws 1)) || !Ex.hexq (Ex.wgt ws 2))) := he3
  clear he3 HE2
  have HV2 : Hid (Ex.hexv (Ex.wgt ws 2) = v2) := congrArg (fun r : evT => r.2.2.1) HV.out
  rw [HV2.out]
  go_wp2_with fail
  refine Calls.mono (rd_op (w.alloc (.cells #[.int .i64 0, .int .i64 0, .int .u32 0, .int .i64 0, .int .i64 0, .int .i64 0, .int .u32 0] 26)) U3 _ _ 3 ws _ HE3.out (by omega) (HT.out _ (HB.out.trans (HE3.out.below.mono HB.out.size)))) ?_
  rintro e U4 ⟨rfl, he4⟩
  have HE4 : Hid (ER (w.alloc (.cells #[.int .i64 0, .int .i64 0, .int .u32 0, .int .i64 0, .int .i64 0, .int .i64 0, .int .u32 0] 26)) U4 W1.heap.size (w.heap.size + 1) ws ((((false || !Ex.rdq (Ex.wgt ws 0)) || !Ex.rdq (Ex.wgt ws 1)) || !Ex.hexq (Ex.wgt ws 2)) || !Ex.opq (Ex.wgt ws 3))) := he4
  clear he4 HE3
  have HV3 : Hid (Ex.opf (Ex.wgt ws 3) = v3) := congrArg (fun r : evT => r.2.2.2.1) HV.out
  rw [HV3.out]
  go_wp2_with fail
  refine Calls.mono (rd_number (w.alloc (.cells #[.int .i64 0, .int .i64 0, .int .u32 0, .int .i64 0, .int .i64 0, .int .i64 0, .int .u32 0] 26)) U4 _ _ 4 ws _ HE4.out (by omega) (HZ.out 4)) ?_
  rintro e U5 ⟨rfl, he5⟩
  have HE5 : Hid (ER (w.alloc (.cells #[.int .i64 0, .int .i64 0, .int .u32 0, .int .i64 0, .int .i64 0, .int .i64 0, .int .u32 0] 26)) U5 W1.heap.size (w.heap.size + 1) ws (((((false || !Ex.rdq (Ex.wgt ws 0)) || !Ex.rdq (Ex.wgt ws 1)) || !Ex.hexq (Ex.wgt ws 2)) || !Ex.opq (Ex.wgt ws 3)) || !Ex.rdq (Ex.wgt ws 4))) := he5
  clear he5 HE4
  have HV4 : Hid (Ex.rdv (Ex.wgt ws 4) = v4) := congrArg (fun r : evT => r.2.2.2.2.1) HV.out
  rw [HV4.out]
  go_wp2_with fail
  refine Calls.mono (rd_number (w.alloc (.cells #[.int .i64 0, .int .i64 0, .int .u32 0, .int .i64 0, .int .i64 0, .int .i64 0, .int .u32 0] 26)) U5 _ _ 5 ws _ HE5.out (by omega) (HZ.out 5)) ?_
  rintro e U6 ⟨rfl, he6⟩
  have HE6 : Hid (ER (w.alloc (.cells #[.int .i64 0, .int .i64 0, .int .u32 0, .int .i64 0, .int .i64 0, .int .i64 0, .int .u32 0] 26)) U6 W1.heap.size (w.heap.size + 1) ws ((((((false || !Ex.rdq (Ex.wgt ws 0)) || !Ex.rdq (Ex.wgt ws 1)) || !Ex.hexq (Ex.wgt ws 2)) || !Ex.opq (Ex.wgt ws 3)) || !Ex.rdq (Ex.wgt ws 4)) || !Ex.rdq (Ex.wgt ws 5))) := he6
  clear he6 HE5
  have HV5 : Hid (Ex.rdv (Ex.wgt ws 5) = v5) := congrArg (fun r : evT => r.2.2.2.2.2.1) HV.out
  rw [HV5.out]
  go_wp2_with fail
  refine Calls.mono (rd_hex (w.alloc (.cells #[.int .i64 0, .int .i64 0, .int .u32 0, .int .i64 0, .int .i64 0, .int .i64 0, .int .u32 0] 26)) U6 _ _ 6 ws _ HE6.out (by omega) (HZ.out 6)) ?_
  rintro e U7 ⟨rfl, he7⟩
  have HE7 : Hid (ER (w.alloc (.cells #[.int .i64 0, .int .i64 0, .int .u32 0, .int .i64 0, .int .i64 0, .int .i64 0, .int .u32 0] 26)) U7 W1.heap.size (w.heap.size + 1) ws (((((((false || !Ex.rdq (Ex.wgt ws 0)) || !Ex.rdq (Ex.wgt ws 1)) || !Ex.hexq (Ex.wgt ws 2)) || !Ex.opq (Ex.wgt ws 3)) || !Ex.rdq (Ex.wgt ws 4)) || !Ex.rdq (Ex.wgt ws 5)) || !Ex.hexq (Ex.wgt ws 6))) := he7
  clear he7 HE6
  have HV6 : Hid (Ex.hexv (Ex.wgt ws 6) = v6) := congrArg (fun r : evT => r.2.2.2.2.2.2) HV.out
  rw [HV6.out]
  have HF : Hid ((((((((false || !Ex.rdq (Ex.wgt ws 0)) || !Ex.rdq (Ex.wgt ws 1)) || !Ex.hexq (Ex.wgt ws 2)) || !Ex.opq (Ex.wgt ws 3)) || !Ex.rdq (Ex.wgt ws 4)) || !Ex.rdq (Ex.wgt ws 5)) || !Ex.hexq (Ex.wgt ws 6)) = !true) := by
    show _ = _
    rw [Ex.flag_eq]
    exact congrArg Bool.not HG.out
  have HE : Hid (ER (w.alloc (.cells #[.int .i64 0, .int .i64 0, .int .u32 0, .int .i64 0, .int .i64 0, .int .i64 0, .int .u32 0] 26)) U7 W1.heap.size (w.heap.size + 1) ws (!true)) := by
    have := HE7.out
    rw [HF.out] at this
    exact this
  clear HE7 HF
  have HN7 : Hid ((U7.alloc (.cells #[.int .i64 0, .int .i64 0, .int .u32 0, .int .i64 0, .int .i64 0, .int .i64 0, .int .u32 0] 26)).heap[U7.heap.size]? = some (.cells #[.int .i64 0, .int .i64 0, .int .u32 0, .int .i64 0, .int .i64 0, .int .i64 0, .int .u32 0] 26 (0, 0))) := new_row U7 _ _ _ rfl
  have hb7 : Below U7.heap.size U7 ((U7.alloc (.cells #[.int .i64 0, .int .i64 0, .int .u32 0, .int .i64 0, .int .i64 0, .int .i64 0, .int .u32 0] 26)).setRow U7.heap.size #[.int .i64 v0, .int .i64 v1, .int .u32 v2, .int .i64 v3, .int .i64 v4, .int .i64 v5, .int .u32 v6]) := below_setRow ((Below.refl _ _).alloc (Nat.le_refl _) _) (Nat.le_refl _) _
  have HC7 : Hid (((U7.alloc (.cells #[.int .i64 0, .int .i64 0, .int .u32 0, .int .i64 0, .int .i64 0, .int .i64 0, .int .u32 0] 26)).setRow U7.heap.size #[.int .i64 v0, .int .i64 v1, .int .u32 v2, .int .i64 v3, .int .i64 v4, .int .i64 v5, .int .u32 v6]).heap[U7.heap.size]? = some (.cells #[.int .i64 v0, .int .i64 v1, .int .u32 v2, .int .i64 v3, .int .i64 v4, .int .i64 v5, .int .u32 v6] 26 (0, 0))) := setRow_heap _ _ _ _ _ _ HN7.out
  have HE8 : Hid (ER (w.alloc (.cells #[.int .i64 0, .int .i64 0, .int .u32 0, .int .i64 0, .int .i64 0, .int .i64 0, .int .u32 0] 26)) ((U7.alloc (.cells #[.int .i64 0, .int .i64 0, .int .u32 0, .int .i64 0, .int .i64 0, .int .i64 0, .int .u32 0] 26)).setRow U7.heap.size #[.int .i64 v0, .int .i64 v1, .int .u32 v2, .int .i64 v3, .int .i64 v4, .int .i64 v5, .int .u32 v6]) W1.heap.size (w.heap.size + 1) ws (!true)) := HE.out.grown hb7
  have HR8 : Hid (((U7.alloc (.cells #[.int .i64 0, .int .i64 0, .int .u32 0, .int .i64 0, .int .i64 0, .int .i64 0, .int .u32 0] 26)).setRow U7.heap.size #[.int .i64 v0, .int .i64 v1, .int .u32 v2, .int .i64 v3, .int .i64 v4, .int .i64 v5, .int .u32 v6]).heap[w.heap.size]? = some (.cells #[.int .i64 0, .int .i64 0, .int .u32 0, .int .i64 0, .int .i64 0, .int .i64 0, .int .u32 0] 26 (0, 0))) := row_below HR.out HE8.out.below
  have HB8 : Hid (Below w.heap.size w ((U7.alloc (.cells #[.int .i64 0, .int .i64 0, .int .u32 0, .int .i64 0, .int .i64 0, .int .i64 0, .int .u32 0] 26)).setRow U7.heap.size #[.int .i64 v0, .int .i64 v1, .int .u32 v2, .int .i64 v3, .int .i64 v4, .int .i64 v5, .int .u32 v6])) := HB.out.trans (HE8.out.below.mono HB.out.size)
  have c1 : ((U7.alloc (.cells #[.int .i64 0, .int .i64 0, .int .u32 0, .int .i64 0, .int .i64 0, .int .i64 0, .int .u32 0] 26)).setRow U7.heap.size #[.int .i64 v0, .int .i64 v1, .int .u32 v2, .int .i64 v3, .int .i64 v4, .int .i64 v5, .int .u32 v6]).cell? ⟨W1.heap.size, 1, none⟩ = some (.bool (!true)) := row_c HE8.out.row 1 _ rfl
  have HC1 : Hid _ := c1
  clear c1 HE HE8 hb7 HR HB
  go_wp2_with (first | (refine wpList_store_row rfl 26 (.tmp 6) (.tmp 22) rfl U7.heap.size #[.int .i64 v0, .int .i64 v1, .int .u32 v2, .int .i64 v3, .int .i64 v4, .int .i64 v5, .int .u32 v6] rfl rfl 26 #[.int .i64 0, .int .i64 0, .int .u32 0, .int .i64 0, .int .i64 0, .int .i64 0, .int .u32 0] HN7.out (by kernel_rfl) rfl (by simp [Value.oneCell']) ?_; generalize ((U7.alloc (.cells #[.int .i64 0, .int .i64 0, .int .u32 0, .int .i64 0, .int .i64 0, .int .i64 0, .int .u32 0] 26)).setRow U7.heap.size #[.int .i64 v0, .int .i64 v1, .int .u32 v2, .int .i64 v3, .int .i64 v4, .int .i64 v5, .int .u32 v6]) = U9 at HC7 HR8 HB8 HC1 ⊢; have c1 := HC1.out; simp only [Bool.not_true] at c1) | (refine wpList_load_row rfl 26 (.tmp 6) rfl U7.heap.size rfl 26 #[.int .i64 v0, .int .i64 v1, .int .u32 v2, .int .i64 v3, .int .i64 v4, .int .i64 v5, .int .u32 v6] (0, 0) _ HC7.out Tryd.underlying26 rfl (by kernel_rfl) ?_) | (refine wpList_store_row rfl 26 (.tmp 2) (.tmp 26) rfl w.heap.size #[.int .i64 v0, .int .i64 v1, .int .u32 v2, .int .i64 v3, .int .i64 v4, .int .i64 v5, .int .u32 v6] rfl rfl 26 #[.int .i64 0, .int .i64 0, .int .u32 0, .int .i64 0, .int .i64 0, .int .i64 0, .int .u32 0] HR8.out (by kernel_rfl) rfl (by simp [Value.oneCell']) ?_; have HRF : Hid ((U9.setRow w.heap.size #[.int .i64 v0, .int .i64 v1, .int .u32 v2, .int .i64 v3, .int .i64 v4, .int .i64 v5, .int .u32 v6]).heap[w.heap.size]? = some (.cells #[.int .i64 v0, .int .i64 v1, .int .u32 v2, .int .i64 v3, .int .i64 v4, .int .i64 v5, .int .u32 v6] 26 (0, 0))) := setRow_heap _ _ _ _ _ _ HR8.out; have m0 := row_c HRF.out 0 _ rfl; have m1 := row_c HRF.out 1 _ rfl; have m2 := row_c HRF.out 2 _ rfl; have m3 := row_c HRF.out 3 _ rfl; have m4 := row_c HRF.out 4 _ rfl; have m5 := row_c HRF.out 5 _ rfl; have m6 := row_c HRF.out 6 _ rfl; have HBF : Hid (Below w.heap.size w (U9.setRow w.heap.size #[.int .i64 v0, .int .i64 v1, .int .u32 v2, .int .i64 v3, .int .i64 v4, .int .i64 v5, .int .u32 v6])) := below_setRow HB8.out (Nat.le_refl _) _) | fail)
  exact bodyPost_ret (v := .tuple #[.agg #[.int .i64 v0, .int .i64 v1, .int .u32 v2, .int .i64 v3, .int .i64 v4, .int .i64 v5, .int .u32 v6], .bool true]) (by simp [results, Tryd.results10, go_sem, m0, m1, m2, m3, m4, m5, m6]) rfl ⟨rfl, HBF.out⟩
end Go.Proofs.YthlapikcjiajgaaDoor
