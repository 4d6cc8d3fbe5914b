/-
  The line of an instruction: what ShowInstr returns, the specification's and the program's own. Conditions: the program's tables of forms and names and the library's table of powers of ten lie in memory as their texts lay them.
-/
import Derived.Test.YtdjapcfejmhjnaaGreatDoorEnc
import Derived.Test.YtdjapcfejmhjnaaGreatDoorNames
import Derived.Test.YtdjapcfejmhjnaaGreatDoorItoa
import Derived.Below
namespace Go.Proofs.YtdjapcfejmhjnaaGreatDoor
open Go.ChangeShapes Go.WideShapes Go.ChangeAt Go.RowKit
set_option linter.unusedVariables false
set_option maxRecDepth 20000

namespace Sh
def rT (q : Bool) (x : Int) : ByteArray := if q then ⟨#[32, 114]⟩ ++ Tx.txt (Dc.dect x) else ⟨#[]⟩
def mT (q : Bool) (x : Int) : ByteArray := if q then ⟨#[32]⟩ ++ Tx.txt (Dc.dect x) else ⟨#[]⟩
/-- The line of an instruction. -/
def line (k : Nat) (a b c m f : Int) : ByteArray := nm k ++ rT (f % 2 == 1) a ++ rT (f / 2 % 2 == 1) b ++ rT (f / 4 % 2 == 1) c ++ mT (f / 8 % 2 == 1) m
theorem app_nil (s : ByteArray) : s ++ (⟨#[]⟩ : ByteArray) = s := by apply ByteArray.ext; simp
theorem rT_no (s : ByteArray) (x : Int) : s ++ rT false x = s := app_nil s
theorem mT_no (s : ByteArray) (x : Int) : s ++ mT false x = s := app_nil s
theorem rT_yes (s : ByteArray) (x : Int) : s ++ rT true x = s ++ (⟨#[32, 114]⟩ ++ Tx.txt (Dc.dect x)) := rfl
theorem mT_yes (s : ByteArray) (x : Int) : s ++ mT true x = s ++ (⟨#[32]⟩ ++ Tx.txt (Dc.dect x)) := rfl
theorem nm_size : ∀ k : Fin 33, (nm k.val).size ≤ 5 := by decide +kernel
theorem app_size (s t : ByteArray) : (s ++ t).size = s.size + t.size := ByteArray.size_append
theorem dg_len : ∀ f n, (Dc.dg f n).length ≤ f
  | 0, n => by simp [Dc.dg]
  | f + 1, n => by
    unfold Dc.dg
    split
    · simp
    · have := dg_len f (n / 10)
      simp
      omega
theorem dect_len (n : Int) : (Dc.dect n).length ≤ 21 := by
  have := dg_len 20 n.natAbs
  unfold Dc.dect
  split
  · simp
  · split <;> simp <;> omega
theorem dect_size (n : Int) : (Tx.txt (Dc.dect n)).size ≤ 21 := by rw [Tx.txt_size]; exact dect_len n
end Sh
def TabP (w : World) : Prop := Lib.TabIs Tryz.prog w "internal/strconv.uint64pow10" .u64 Lib.pow10Tab
theorem gP : Tryz.prog.globalNamed "internal/strconv.uint64pow10" = some 4 := by kernel_rfl
theorem TabP.below {w w' : World} (h : TabP w) (hb : Below w.heap.size w w') : TabP w' := by
  unfold TabP Lib.TabIs at *
  have hlt : 4 < w.heap.size := World.block_lt_of_cell? w _ (World.var?_cell gP h 0 |>.trans (by rfl))
  simp only [World.var?, gP, Option.bind_some] at h ⊢
  rw [hb.block 4 hlt]
  exact h
theorem idx0 (x y z : Value) (w : World) : (Instr.index 126 (.agg #[x, y, z]) (.int .i64 0)).run Tryz.prog w = .ok x w := by kernel_rfl
theorem idx1 (x y z : Value) (w : World) : (Instr.index 126 (.agg #[x, y, z]) (.int .i64 1)).run Tryz.prog w = .ok y w := by kernel_rfl
theorem idx2 (x y z : Value) (w : World) : (Instr.index 126 (.agg #[x, y, z]) (.int .i64 2)).run Tryz.prog w = .ok z w := by kernel_rfl
set_option maxHeartbeats 1000000 in
theorem impl_show_at (k : Nat) (a b c m f : Int) (nmb L : ByteArray) (qa qb qc qm : Bool) (w : World) (hT : Tab w) (hP : TabP w) (hk : k < 33) (hcn : w.cell? ⟨2, k, none⟩ = some (.string nmb)) (hcf : w.cell? ⟨1, k, none⟩ = some (.int .i64 f)) (hs : nmb.size ≤ 5)
    (h : instrOk k a b c m = true) (hqa : (bits .and .i64 f 1 != 0) = qa) (hqb : (bits .and .i64 f 2 != 0) = qb) (hqc : (bits .and .i64 f 4 != 0) = qc) (hqm : (bits .and .i64 f 8 != 0) = qm)
    (HL : Hid (L = nmb ++ Sh.rT qa a ++ Sh.rT qb b ++ Sh.rT qc c ++ Sh.mT qm m)) :
    Calls Tryz.prog 44 #[ins k a b c m] w fun e w' => e = .returned (.string L) ∧ Below w.heap.size w w' := by
  obtain ⟨h1, h2, h3, h4, h5, h6, h7, h8, h9, h10⟩ := instrOk_bounds _ a b c m h
  have HQ : Hid _ := h
  have HT : Hid _ := hT
  have HP : Hid _ := hP
  have HA : Hid _ := hqa
  have HB : Hid _ := hqb
  have HC : Hid _ := hqc
  have HM : Hid _ := hqm
  have HN : Hid _ := hcn
  have HF : Hid _ := hcf
  clear h hT hP hqa hqb hqc hqm hcn hcf
  go_enter Tryz.func44, Tryz.ntmps44
  go_wp2_with fail
  refine (impl_ok k a b c m _ (Tab.below HT.out ((Below.refl _ w).alloc (Nat.le_refl _) _))).mono ?_
  rintro e w1 ⟨rfl, hb⟩
  rw [HQ.out]
  have hb0 := ((Below.refl _ w).alloc (Nat.le_refl _) (row k a b c m)).trans (hb.mono (by simp))
  have hr : ∀ i v, (#[Value.int .i64 k, .int .i64 a, .int .i64 b, .int .i64 c, .int .i64 m] : Array Value)[i]? = some v → w1.cell? ⟨w.heap.size, i, none⟩ = some v := fun i v h =>
    (hb.cell (p := ⟨w.heap.size, i, none⟩) (by simp)).trans (new_cell w _ 46 i v h)
  have c0 := hr 0 (.int .i64 k) rfl
  have c1 := hr 1 (.int .i64 a) rfl
  have c2 := hr 2 (.int .i64 b) rfl
  have c3 := hr 3 (.int .i64 c) rfl
  have c4 := hr 4 (.int .i64 m) rfl
  have cn := (hb0.cell (p := ⟨2, k, none⟩) (World.block_lt_of_cell? w _ HN.out)).trans HN.out
  have cf := (hb0.cell (p := ⟨1, k, none⟩) (World.block_lt_of_cell? w _ HF.out)).trans HF.out
  have hp1 : TabP w1 := TabP.below HP.out hb0
  have HP1 : Hid _ := hp1
  have hsz : w.heap.size < w1.heap.size := World.block_lt_of_cell? w1 _ c4
  clear hr hb hp1
  go_wp2
  go_loopw [4, 5, 6, 25] (fun t at' r i wr => ∃ (j : Nat) (s : ByteArray), i = .int .i64 j ∧ j ≤ 3 ∧ t = .string s ∧ s.size ≤ 5 + 23 * j ∧ Below w1.heap.size w1 wr ∧
      Hid (s = match j with | 0 => nmb | 1 => nmb ++ Sh.rT qa a | 2 => nmb ++ Sh.rT qa a ++ Sh.rT qb b | _ => nmb ++ Sh.rT qa a ++ Sh.rT qb b ++ Sh.rT qc c)) (fun _ _ _ i _ => (3 - intOf i).toNat)
  case atStart => exact ⟨0, nmb, rfl, by omega, rfl, by omega, Below.refl _ _, rfl⟩
  case round =>
    obtain ⟨j, s, rfl, hj, rfl, hss, hbr, HS⟩ := hrel
    have HPr : Hid _ := TabP.below HP1.out hbr
    have hdA := Sh.dect_size a
    have hdB := Sh.dect_size b
    have hdC := Sh.dect_size c
    have hdM := Sh.dect_size m
    obtain rfl | rfl | rfl | rfl : j = 0 ∨ j = 1 ∨ j = 2 ∨ j = 3 := by omega
    · cases qa
      · have hq := HA.out
        have hx := idx0 (.int .i64 a) (.int .i64 b) (.int .i64 c)
        go_wp2
        go_roundw
        case rel => exact ⟨1, s, by go_num, by omega, rfl, by omega, hbr, by show s = _; rw [Sh.rT_no]; exact HS.out⟩
        case measure => simp [intOf]
      · have hq := HA.out
        have hx := idx0 (.int .i64 a) (.int .i64 b) (.int .i64 c)
        go_wp2_with fail
        refine (impl_text _ _ (by omega) (by omega) HPr.out).mono ?_
        rintro e w2 ⟨rfl, hb2⟩
        have HS2 : Hid (s ++ (⟨#[32, 114]⟩ ++ Tx.txt (Dc.dect a)) = nmb ++ Sh.rT true a) := by show _ = _; rw [Sh.rT_yes, show s = _ from HS.out]
        have hbb := hbr.trans (hb2.mono hbr.size)
        generalize Tx.txt (Dc.dect a) = dX at hdA HS2
        go_wp2
        go_roundw
        case rel => exact ⟨1, _, by go_num, by omega, rfl, by rw [Sh.app_size, Sh.app_size, show (⟨#[32, 114]⟩ : ByteArray).size = 2 from rfl]; omega, hbb, HS2⟩
        case measure => simp [intOf]
    · cases qb
      · have hq := HB.out
        have hx := idx1 (.int .i64 a) (.int .i64 b) (.int .i64 c)
        go_wp2
        go_roundw
        case rel => exact ⟨2, s, by go_num, by omega, rfl, by omega, hbr, by show s = _; rw [Sh.rT_no]; exact HS.out⟩
        case measure => simp [intOf]
      · have hq := HB.out
        have hx := idx1 (.int .i64 a) (.int .i64 b) (.int .i64 c)
        go_wp2_with fail
        refine (impl_text _ _ (by omega) (by omega) HPr.out).mono ?_
        rintro e w2 ⟨rfl, hb2⟩
        have HS2 : Hid (s ++ (⟨#[32, 114]⟩ ++ Tx.txt (Dc.dect b)) = nmb ++ Sh.rT qa a ++ Sh.rT true b) := by show _ = _; rw [Sh.rT_yes, show s = _ from HS.out]
        have hbb := hbr.trans (hb2.mono hbr.size)
        generalize Tx.txt (Dc.dect b) = dX at hdB HS2
        go_wp2
        go_roundw
        case rel => exact ⟨2, _, by go_num, by omega, rfl, by rw [Sh.app_size, Sh.app_size, show (⟨#[32, 114]⟩ : ByteArray).size = 2 from rfl]; omega, hbb, HS2⟩
        case measure => simp [intOf]
    · cases qc
      · have hq := HC.out
        have hx := idx2 (.int .i64 a) (.int .i64 b) (.int .i64 c)
        go_wp2
        go_roundw
        case rel => exact ⟨3, s, by go_num, by omega, rfl, by omega, hbr, by show s = _; rw [Sh.rT_no]; exact HS.out⟩
        case measure => simp [intOf]
      · have hq := HC.out
        have hx := idx2 (.int .i64 a) (.int .i64 b) (.int .i64 c)
        go_wp2_with fail
        refine (impl_text _ _ (by omega) (by omega) HPr.out).mono ?_
        rintro e w2 ⟨rfl, hb2⟩
        have HS2 : Hid (s ++ (⟨#[32, 114]⟩ ++ Tx.txt (Dc.dect c)) = nmb ++ Sh.rT qa a ++ Sh.rT qb b ++ Sh.rT true c) := by show _ = _; rw [Sh.rT_yes, show s = _ from HS.out]
        have hbb := hbr.trans (hb2.mono hbr.size)
        generalize Tx.txt (Dc.dect c) = dX at hdC HS2
        go_wp2
        go_roundw
        case rel => exact ⟨3, _, by go_num, by omega, rfl, by rw [Sh.app_size, Sh.app_size, show (⟨#[32, 114]⟩ : ByteArray).size = 2 from rfl]; omega, hbb, HS2⟩
        case measure => simp [intOf]
    · have hc4 := (hbr.cell (p := ⟨w.heap.size, 4, none⟩) hsz).trans c4
      cases qm
      · have hq := HM.out
        have HE : Hid (s = L) := by show _ = _; rw [HL.out, Sh.mT_no]; exact HS.out
        go_wp2
        go_ret
        exact ⟨ret_str HE.out, hb0.trans (hbr.mono (by omega))⟩
      · have hq := HM.out
        go_wp2_with fail
        refine (impl_text _ _ (by omega) (by omega) HPr.out).mono ?_
        rintro e w2 ⟨rfl, hb2⟩
        have HE : Hid (s ++ (⟨#[32]⟩ ++ Tx.txt (Dc.dect m)) = L) := by show _ = _; rw [HL.out, Sh.mT_yes, show s = _ from HS.out]
        have hbb := hb0.trans ((hbr.trans (hb2.mono hbr.size)).mono (by omega))
        generalize Tx.txt (Dc.dect m) = dX at hdM HE
        go_wp2
        go_ret
        exact ⟨ret_str HE.out, hbb⟩
set_option maxHeartbeats 1000000 in
theorem spec_show_0 (k : Nat) (a b c m : Int) (nmb L : ByteArray) (w : World) (hk : k < 33) (hf : forms.getD k 0 = 0) (hn : nm k = nmb) (hs : nmb.size ≤ 5) (h : instrOk k a b c m = true)
    (HL : Hid (L = nmb)) :
    Calls Tryz.prog 82 #[ins k a b c m] w fun e w' => e = .returned (.string L) ∧ Below w.heap.size w w' := by
  obtain ⟨h1, h2, h3, h4, h5, h6, h7, h8, h9, h10⟩ := instrOk_bounds _ a b c m h
  have HQ : Hid _ := h
  have HF : Hid _ := hf
  have HN : Hid _ := hn
  have HE : Hid (nmb = L) := by show _ = _; rw [HL.out]
  clear h hf hn
  go_enter Tryz.func82, Tryz.ntmps82
  go_wp2_with fail
  refine (spec_ok k a b c m _).mono ?_
  rintro e w1 ⟨rfl, hb⟩
  rw [HQ.out]
  have hb0 := ((Below.refl _ w).alloc (Nat.le_refl _) (row k a b c m)).trans (hb.mono (by simp))
  have hr : ∀ i v, (#[Value.int .i64 k, .int .i64 a, .int .i64 b, .int .i64 c, .int .i64 m] : Array Value)[i]? = some v → w1.cell? ⟨w.heap.size, i, none⟩ = some v := fun i v h =>
    (hb.cell (p := ⟨w.heap.size, i, none⟩) (by simp)).trans (new_cell w _ 46 i v h)
  have c0 := hr 0 (.int .i64 k) rfl
  have c1 := hr 1 (.int .i64 a) rfl
  have c2 := hr 2 (.int .i64 b) rfl
  have c3 := hr 3 (.int .i64 c) rfl
  have c4 := hr 4 (.int .i64 m) rfl
  clear hr hb
  go_wp2_with fail
  refine (spec_form k 0 _ hk HF.out).mono ?_
  rintro e w2 ⟨rfl, hb2⟩
  have d10 := (hb2.cell (p := ⟨w.heap.size, 0, none⟩) (World.block_lt_of_cell? w1 _ c0)).trans c0
  have d11 := (hb2.cell (p := ⟨w.heap.size, 1, none⟩) (World.block_lt_of_cell? w1 _ c1)).trans c1
  have d12 := (hb2.cell (p := ⟨w.heap.size, 2, none⟩) (World.block_lt_of_cell? w1 _ c2)).trans c2
  have d13 := (hb2.cell (p := ⟨w.heap.size, 3, none⟩) (World.block_lt_of_cell? w1 _ c3)).trans c3
  have d14 := (hb2.cell (p := ⟨w.heap.size, 4, none⟩) (World.block_lt_of_cell? w1 _ c4)).trans c4
  have hbb2 := hb0.trans (hb2.mono hb0.size)
  clear c0 c1 c2 c3 c4 hb2
  go_wp2_with fail
  refine (spec_name k nmb _ hk HN.out).mono ?_
  rintro e w3 ⟨rfl, hb3⟩
  have d20 := (hb3.cell (p := ⟨w.heap.size, 0, none⟩) (World.block_lt_of_cell? w2 _ d10)).trans d10
  have d21 := (hb3.cell (p := ⟨w.heap.size, 1, none⟩) (World.block_lt_of_cell? w2 _ d11)).trans d11
  have d22 := (hb3.cell (p := ⟨w.heap.size, 2, none⟩) (World.block_lt_of_cell? w2 _ d12)).trans d12
  have d23 := (hb3.cell (p := ⟨w.heap.size, 3, none⟩) (World.block_lt_of_cell? w2 _ d13)).trans d13
  have d24 := (hb3.cell (p := ⟨w.heap.size, 4, none⟩) (World.block_lt_of_cell? w2 _ d14)).trans d14
  have hbb3 := hbb2.trans (hb3.mono hbb2.size)
  clear d10 d11 d12 d13 d14 hb3
  go_wp2
  go_ret
  exact ⟨ret_str HE.out, hbb3⟩
set_option maxHeartbeats 1000000 in
theorem spec_show_7 (k : Nat) (a b c m : Int) (nmb L : ByteArray) (w : World) (hk : k < 33) (hf : forms.getD k 0 = 7) (hn : nm k = nmb) (hs : nmb.size ≤ 5) (h : instrOk k a b c m = true)
    (HL : Hid (L = nmb ++ (⟨#[32, 114]⟩ ++ Tx.txt (Dc.dect a)) ++ (⟨#[32, 114]⟩ ++ Tx.txt (Dc.dect b)) ++ (⟨#[32, 114]⟩ ++ Tx.txt (Dc.dect c)))) :
    Calls Tryz.prog 82 #[ins k a b c m] w fun e w' => e = .returned (.string L) ∧ Below w.heap.size w w' := by
  obtain ⟨h1, h2, h3, h4, h5, h6, h7, h8, h9, h10⟩ := instrOk_bounds _ a b c m h
  have HQ : Hid _ := h
  have HF : Hid _ := hf
  have HN : Hid _ := hn
  have HE : Hid ((((nmb ++ ⟨#[32, 114]⟩) ++ Tx.txt (Dc.dect a) ++ ⟨#[32, 114]⟩) ++ Tx.txt (Dc.dect b) ++ ⟨#[32, 114]⟩) ++ Tx.txt (Dc.dect c) = L) := by show _ = _; rw [HL.out]; simp only [ByteArray.append_assoc]
  clear h hf hn
  go_enter Tryz.func82, Tryz.ntmps82
  go_wp2_with fail
  refine (spec_ok k a b c m _).mono ?_
  rintro e w1 ⟨rfl, hb⟩
  rw [HQ.out]
  have hb0 := ((Below.refl _ w).alloc (Nat.le_refl _) (row k a b c m)).trans (hb.mono (by simp))
  have hr : ∀ i v, (#[Value.int .i64 k, .int .i64 a, .int .i64 b, .int .i64 c, .int .i64 m] : Array Value)[i]? = some v → w1.cell? ⟨w.heap.size, i, none⟩ = some v := fun i v h =>
    (hb.cell (p := ⟨w.heap.size, i, none⟩) (by simp)).trans (new_cell w _ 46 i v h)
  have c0 := hr 0 (.int .i64 k) rfl
  have c1 := hr 1 (.int .i64 a) rfl
  have c2 := hr 2 (.int .i64 b) rfl
  have c3 := hr 3 (.int .i64 c) rfl
  have c4 := hr 4 (.int .i64 m) rfl
  clear hr hb
  go_wp2_with fail
  refine (spec_form k 7 _ hk HF.out).mono ?_
  rintro e w2 ⟨rfl, hb2⟩
  have d10 := (hb2.cell (p := ⟨w.heap.size, 0, none⟩) (World.block_lt_of_cell? w1 _ c0)).trans c0
  have d11 := (hb2.cell (p := ⟨w.heap.size, 1, none⟩) (World.block_lt_of_cell? w1 _ c1)).trans c1
  have d12 := (hb2.cell (p := ⟨w.heap.size, 2, none⟩) (World.block_lt_of_cell? w1 _ c2)).trans c2
  have d13 := (hb2.cell (p := ⟨w.heap.size, 3, none⟩) (World.block_lt_of_cell? w1 _ c3)).trans c3
  have d14 := (hb2.cell (p := ⟨w.heap.size, 4, none⟩) (World.block_lt_of_cell? w1 _ c4)).trans c4
  have hbb2 := hb0.trans (hb2.mono hb0.size)
  clear c0 c1 c2 c3 c4 hb2
  go_wp2_with fail
  refine (spec_name k nmb _ hk HN.out).mono ?_
  rintro e w3 ⟨rfl, hb3⟩
  have d20 := (hb3.cell (p := ⟨w.heap.size, 0, none⟩) (World.block_lt_of_cell? w2 _ d10)).trans d10
  have d21 := (hb3.cell (p := ⟨w.heap.size, 1, none⟩) (World.block_lt_of_cell? w2 _ d11)).trans d11
  have d22 := (hb3.cell (p := ⟨w.heap.size, 2, none⟩) (World.block_lt_of_cell? w2 _ d12)).trans d12
  have d23 := (hb3.cell (p := ⟨w.heap.size, 3, none⟩) (World.block_lt_of_cell? w2 _ d13)).trans d13
  have d24 := (hb3.cell (p := ⟨w.heap.size, 4, none⟩) (World.block_lt_of_cell? w2 _ d14)).trans d14
  have hbb3 := hbb2.trans (hb3.mono hbb2.size)
  clear d10 d11 d12 d13 d14 hb3
  have hd_a := Sh.dect_size a
  go_wp2_with fail
  refine (spec_text a _ (by omega) (by omega)).mono ?_
  rintro e w4 ⟨rfl, rfl⟩
  generalize Tx.txt (Dc.dect a) = d_a at hd_a HE
  have hd_b := Sh.dect_size b
  go_wp2_with fail
  refine (spec_text b _ (by omega) (by omega)).mono ?_
  rintro e w4 ⟨rfl, rfl⟩
  generalize Tx.txt (Dc.dect b) = d_b at hd_b HE
  have hd_c := Sh.dect_size c
  go_wp2_with fail
  refine (spec_text c _ (by omega) (by omega)).mono ?_
  rintro e w4 ⟨rfl, rfl⟩
  generalize Tx.txt (Dc.dect c) = d_c at hd_c HE
  go_wp2
  go_ret
  exact ⟨ret_str HE.out, hbb3⟩
set_option maxHeartbeats 1000000 in
theorem spec_show_11 (k : Nat) (a b c m : Int) (nmb L : ByteArray) (w : World) (hk : k < 33) (hf : forms.getD k 0 = 11) (hn : nm k = nmb) (hs : nmb.size ≤ 5) (h : instrOk k a b c m = true)
    (HL : Hid (L = nmb ++ (⟨#[32, 114]⟩ ++ Tx.txt (Dc.dect a)) ++ (⟨#[32, 114]⟩ ++ Tx.txt (Dc.dect b)) ++ (⟨#[32]⟩ ++ Tx.txt (Dc.dect m)))) :
    Calls Tryz.prog 82 #[ins k a b c m] w fun e w' => e = .returned (.string L) ∧ Below w.heap.size w w' := by
  obtain ⟨h1, h2, h3, h4, h5, h6, h7, h8, h9, h10⟩ := instrOk_bounds _ a b c m h
  have HQ : Hid _ := h
  have HF : Hid _ := hf
  have HN : Hid _ := hn
  have HE : Hid ((((nmb ++ ⟨#[32, 114]⟩) ++ Tx.txt (Dc.dect a) ++ ⟨#[32, 114]⟩) ++ Tx.txt (Dc.dect b) ++ ⟨#[32]⟩) ++ Tx.txt (Dc.dect m) = L) := by show _ = _; rw [HL.out]; simp only [ByteArray.append_assoc]
  clear h hf hn
  go_enter Tryz.func82, Tryz.ntmps82
  go_wp2_with fail
  refine (spec_ok k a b c m _).mono ?_
  rintro e w1 ⟨rfl, hb⟩
  rw [HQ.out]
  have hb0 := ((Below.refl _ w).alloc (Nat.le_refl _) (row k a b c m)).trans (hb.mono (by simp))
  have hr : ∀ i v, (#[Value.int .i64 k, .int .i64 a, .int .i64 b, .int .i64 c, .int .i64 m] : Array Value)[i]? = some v → w1.cell? ⟨w.heap.size, i, none⟩ = some v := fun i v h =>
    (hb.cell (p := ⟨w.heap.size, i, none⟩) (by simp)).trans (new_cell w _ 46 i v h)
  have c0 := hr 0 (.int .i64 k) rfl
  have c1 := hr 1 (.int .i64 a) rfl
  have c2 := hr 2 (.int .i64 b) rfl
  have c3 := hr 3 (.int .i64 c) rfl
  have c4 := hr 4 (.int .i64 m) rfl
  clear hr hb
  go_wp2_with fail
  refine (spec_form k 11 _ hk HF.out).mono ?_
  rintro e w2 ⟨rfl, hb2⟩
  have d10 := (hb2.cell (p := ⟨w.heap.size, 0, none⟩) (World.block_lt_of_cell? w1 _ c0)).trans c0
  have d11 := (hb2.cell (p := ⟨w.heap.size, 1, none⟩) (World.block_lt_of_cell? w1 _ c1)).trans c1
  have d12 := (hb2.cell (p := ⟨w.heap.size, 2, none⟩) (World.block_lt_of_cell? w1 _ c2)).trans c2
  have d13 := (hb2.cell (p := ⟨w.heap.size, 3, none⟩) (World.block_lt_of_cell? w1 _ c3)).trans c3
  have d14 := (hb2.cell (p := ⟨w.heap.size, 4, none⟩) (World.block_lt_of_cell? w1 _ c4)).trans c4
  have hbb2 := hb0.trans (hb2.mono hb0.size)
  clear c0 c1 c2 c3 c4 hb2
  go_wp2_with fail
  refine (spec_name k nmb _ hk HN.out).mono ?_
  rintro e w3 ⟨rfl, hb3⟩
  have d20 := (hb3.cell (p := ⟨w.heap.size, 0, none⟩) (World.block_lt_of_cell? w2 _ d10)).trans d10
  have d21 := (hb3.cell (p := ⟨w.heap.size, 1, none⟩) (World.block_lt_of_cell? w2 _ d11)).trans d11
  have d22 := (hb3.cell (p := ⟨w.heap.size, 2, none⟩) (World.block_lt_of_cell? w2 _ d12)).trans d12
  have d23 := (hb3.cell (p := ⟨w.heap.size, 3, none⟩) (World.block_lt_of_cell? w2 _ d13)).trans d13
  have d24 := (hb3.cell (p := ⟨w.heap.size, 4, none⟩) (World.block_lt_of_cell? w2 _ d14)).trans d14
  have hbb3 := hbb2.trans (hb3.mono hbb2.size)
  clear d10 d11 d12 d13 d14 hb3
  have hd_a := Sh.dect_size a
  go_wp2_with fail
  refine (spec_text a _ (by omega) (by omega)).mono ?_
  rintro e w4 ⟨rfl, rfl⟩
  generalize Tx.txt (Dc.dect a) = d_a at hd_a HE
  have hd_b := Sh.dect_size b
  go_wp2_with fail
  refine (spec_text b _ (by omega) (by omega)).mono ?_
  rintro e w4 ⟨rfl, rfl⟩
  generalize Tx.txt (Dc.dect b) = d_b at hd_b HE
  have hd_m := Sh.dect_size m
  go_wp2_with fail
  refine (spec_text m _ (by omega) (by omega)).mono ?_
  rintro e w4 ⟨rfl, rfl⟩
  generalize Tx.txt (Dc.dect m) = d_m at hd_m HE
  go_wp2
  go_ret
  exact ⟨ret_str HE.out, hbb3⟩
set_option maxHeartbeats 1000000 in
theorem spec_show_9 (k : Nat) (a b c m : Int) (nmb L : ByteArray) (w : World) (hk : k < 33) (hf : forms.getD k 0 = 9) (hn : nm k = nmb) (hs : nmb.size ≤ 5) (h : instrOk k a b c m = true)
    (HL : Hid (L = nmb ++ (⟨#[32, 114]⟩ ++ Tx.txt (Dc.dect a)) ++ (⟨#[32]⟩ ++ Tx.txt (Dc.dect m)))) :
    Calls Tryz.prog 82 #[ins k a b c m] w fun e w' => e = .returned (.string L) ∧ Below w.heap.size w w' := by
  obtain ⟨h1, h2, h3, h4, h5, h6, h7, h8, h9, h10⟩ := instrOk_bounds _ a b c m h
  have HQ : Hid _ := h
  have HF : Hid _ := hf
  have HN : Hid _ := hn
  have HE : Hid (((nmb ++ ⟨#[32, 114]⟩) ++ Tx.txt (Dc.dect a) ++ ⟨#[32]⟩) ++ Tx.txt (Dc.dect m) = L) := by show _ = _; rw [HL.out]; simp only [ByteArray.append_assoc]
  clear h hf hn
  go_enter Tryz.func82, Tryz.ntmps82
  go_wp2_with fail
  refine (spec_ok k a b c m _).mono ?_
  rintro e w1 ⟨rfl, hb⟩
  rw [HQ.out]
  have hb0 := ((Below.refl _ w).alloc (Nat.le_refl _) (row k a b c m)).trans (hb.mono (by simp))
  have hr : ∀ i v, (#[Value.int .i64 k, .int .i64 a, .int .i64 b, .int .i64 c, .int .i64 m] : Array Value)[i]? = some v → w1.cell? ⟨w.heap.size, i, none⟩ = some v := fun i v h =>
    (hb.cell (p := ⟨w.heap.size, i, none⟩) (by simp)).trans (new_cell w _ 46 i v h)
  have c0 := hr 0 (.int .i64 k) rfl
  have c1 := hr 1 (.int .i64 a) rfl
  have c2 := hr 2 (.int .i64 b) rfl
  have c3 := hr 3 (.int .i64 c) rfl
  have c4 := hr 4 (.int .i64 m) rfl
  clear hr hb
  go_wp2_with fail
  refine (spec_form k 9 _ hk HF.out).mono ?_
  rintro e w2 ⟨rfl, hb2⟩
  have d10 := (hb2.cell (p := ⟨w.heap.size, 0, none⟩) (World.block_lt_of_cell? w1 _ c0)).trans c0
  have d11 := (hb2.cell (p := ⟨w.heap.size, 1, none⟩) (World.block_lt_of_cell? w1 _ c1)).trans c1
  have d12 := (hb2.cell (p := ⟨w.heap.size, 2, none⟩) (World.block_lt_of_cell? w1 _ c2)).trans c2
  have d13 := (hb2.cell (p := ⟨w.heap.size, 3, none⟩) (World.block_lt_of_cell? w1 _ c3)).trans c3
  have d14 := (hb2.cell (p := ⟨w.heap.size, 4, none⟩) (World.block_lt_of_cell? w1 _ c4)).trans c4
  have hbb2 := hb0.trans (hb2.mono hb0.size)
  clear c0 c1 c2 c3 c4 hb2
  go_wp2_with fail
  refine (spec_name k nmb _ hk HN.out).mono ?_
  rintro e w3 ⟨rfl, hb3⟩
  have d20 := (hb3.cell (p := ⟨w.heap.size, 0, none⟩) (World.block_lt_of_cell? w2 _ d10)).trans d10
  have d21 := (hb3.cell (p := ⟨w.heap.size, 1, none⟩) (World.block_lt_of_cell? w2 _ d11)).trans d11
  have d22 := (hb3.cell (p := ⟨w.heap.size, 2, none⟩) (World.block_lt_of_cell? w2 _ d12)).trans d12
  have d23 := (hb3.cell (p := ⟨w.heap.size, 3, none⟩) (World.block_lt_of_cell? w2 _ d13)).trans d13
  have d24 := (hb3.cell (p := ⟨w.heap.size, 4, none⟩) (World.block_lt_of_cell? w2 _ d14)).trans d14
  have hbb3 := hbb2.trans (hb3.mono hbb2.size)
  clear d10 d11 d12 d13 d14 hb3
  have hd_a := Sh.dect_size a
  go_wp2_with fail
  refine (spec_text a _ (by omega) (by omega)).mono ?_
  rintro e w4 ⟨rfl, rfl⟩
  generalize Tx.txt (Dc.dect a) = d_a at hd_a HE
  have hd_m := Sh.dect_size m
  go_wp2_with fail
  refine (spec_text m _ (by omega) (by omega)).mono ?_
  rintro e w4 ⟨rfl, rfl⟩
  generalize Tx.txt (Dc.dect m) = d_m at hd_m HE
  go_wp2
  go_ret
  exact ⟨ret_str HE.out, hbb3⟩
set_option maxHeartbeats 1000000 in
theorem spec_show_10 (k : Nat) (a b c m : Int) (nmb L : ByteArray) (w : World) (hk : k < 33) (hf : forms.getD k 0 = 10) (hn : nm k = nmb) (hs : nmb.size ≤ 5) (h : instrOk k a b c m = true)
    (HL : Hid (L = nmb ++ (⟨#[32, 114]⟩ ++ Tx.txt (Dc.dect b)) ++ (⟨#[32]⟩ ++ Tx.txt (Dc.dect m)))) :
    Calls Tryz.prog 82 #[ins k a b c m] w fun e w' => e = .returned (.string L) ∧ Below w.heap.size w w' := by
  obtain ⟨h1, h2, h3, h4, h5, h6, h7, h8, h9, h10⟩ := instrOk_bounds _ a b c m h
  have HQ : Hid _ := h
  have HF : Hid _ := hf
  have HN : Hid _ := hn
  have HE : Hid (((nmb ++ ⟨#[32, 114]⟩) ++ Tx.txt (Dc.dect b) ++ ⟨#[32]⟩) ++ Tx.txt (Dc.dect m) = L) := by show _ = _; rw [HL.out]; simp only [ByteArray.append_assoc]
  clear h hf hn
  go_enter Tryz.func82, Tryz.ntmps82
  go_wp2_with fail
  refine (spec_ok k a b c m _).mono ?_
  rintro e w1 ⟨rfl, hb⟩
  rw [HQ.out]
  have hb0 := ((Below.refl _ w).alloc (Nat.le_refl _) (row k a b c m)).trans (hb.mono (by simp))
  have hr : ∀ i v, (#[Value.int .i64 k, .int .i64 a, .int .i64 b, .int .i64 c, .int .i64 m] : Array Value)[i]? = some v → w1.cell? ⟨w.heap.size, i, none⟩ = some v := fun i v h =>
    (hb.cell (p := ⟨w.heap.size, i, none⟩) (by simp)).trans (new_cell w _ 46 i v h)
  have c0 := hr 0 (.int .i64 k) rfl
  have c1 := hr 1 (.int .i64 a) rfl
  have c2 := hr 2 (.int .i64 b) rfl
  have c3 := hr 3 (.int .i64 c) rfl
  have c4 := hr 4 (.int .i64 m) rfl
  clear hr hb
  go_wp2_with fail
  refine (spec_form k 10 _ hk HF.out).mono ?_
  rintro e w2 ⟨rfl, hb2⟩
  have d10 := (hb2.cell (p := ⟨w.heap.size, 0, none⟩) (World.block_lt_of_cell? w1 _ c0)).trans c0
  have d11 := (hb2.cell (p := ⟨w.heap.size, 1, none⟩) (World.block_lt_of_cell? w1 _ c1)).trans c1
  have d12 := (hb2.cell (p := ⟨w.heap.size, 2, none⟩) (World.block_lt_of_cell? w1 _ c2)).trans c2
  have d13 := (hb2.cell (p := ⟨w.heap.size, 3, none⟩) (World.block_lt_of_cell? w1 _ c3)).trans c3
  have d14 := (hb2.cell (p := ⟨w.heap.size, 4, none⟩) (World.block_lt_of_cell? w1 _ c4)).trans c4
  have hbb2 := hb0.trans (hb2.mono hb0.size)
  clear c0 c1 c2 c3 c4 hb2
  go_wp2_with fail
  refine (spec_name k nmb _ hk HN.out).mono ?_
  rintro e w3 ⟨rfl, hb3⟩
  have d20 := (hb3.cell (p := ⟨w.heap.size, 0, none⟩) (World.block_lt_of_cell? w2 _ d10)).trans d10
  have d21 := (hb3.cell (p := ⟨w.heap.size, 1, none⟩) (World.block_lt_of_cell? w2 _ d11)).trans d11
  have d22 := (hb3.cell (p := ⟨w.heap.size, 2, none⟩) (World.block_lt_of_cell? w2 _ d12)).trans d12
  have d23 := (hb3.cell (p := ⟨w.heap.size, 3, none⟩) (World.block_lt_of_cell? w2 _ d13)).trans d13
  have d24 := (hb3.cell (p := ⟨w.heap.size, 4, none⟩) (World.block_lt_of_cell? w2 _ d14)).trans d14
  have hbb3 := hbb2.trans (hb3.mono hbb2.size)
  clear d10 d11 d12 d13 d14 hb3
  have hd_b := Sh.dect_size b
  go_wp2_with fail
  refine (spec_text b _ (by omega) (by omega)).mono ?_
  rintro e w4 ⟨rfl, rfl⟩
  generalize Tx.txt (Dc.dect b) = d_b at hd_b HE
  have hd_m := Sh.dect_size m
  go_wp2_with fail
  refine (spec_text m _ (by omega) (by omega)).mono ?_
  rintro e w4 ⟨rfl, rfl⟩
  generalize Tx.txt (Dc.dect m) = d_m at hd_m HE
  go_wp2
  go_ret
  exact ⟨ret_str HE.out, hbb3⟩
set_option maxHeartbeats 1000000 in
theorem spec_show_1 (k : Nat) (a b c m : Int) (nmb L : ByteArray) (w : World) (hk : k < 33) (hf : forms.getD k 0 = 1) (hn : nm k = nmb) (hs : nmb.size ≤ 5) (h : instrOk k a b c m = true)
    (HL : Hid (L = nmb ++ (⟨#[32, 114]⟩ ++ Tx.txt (Dc.dect a)))) :
    Calls Tryz.prog 82 #[ins k a b c m] w fun e w' => e = .returned (.string L) ∧ Below w.heap.size w w' := by
  obtain ⟨h1, h2, h3, h4, h5, h6, h7, h8, h9, h10⟩ := instrOk_bounds _ a b c m h
  have HQ : Hid _ := h
  have HF : Hid _ := hf
  have HN : Hid _ := hn
  have HE : Hid ((nmb ++ ⟨#[32, 114]⟩) ++ Tx.txt (Dc.dect a) = L) := by show _ = _; rw [HL.out]; simp only [ByteArray.append_assoc]
  clear h hf hn
  go_enter Tryz.func82, Tryz.ntmps82
  go_wp2_with fail
  refine (spec_ok k a b c m _).mono ?_
  rintro e w1 ⟨rfl, hb⟩
  rw [HQ.out]
  have hb0 := ((Below.refl _ w).alloc (Nat.le_refl _) (row k a b c m)).trans (hb.mono (by simp))
  have hr : ∀ i v, (#[Value.int .i64 k, .int .i64 a, .int .i64 b, .int .i64 c, .int .i64 m] : Array Value)[i]? = some v → w1.cell? ⟨w.heap.size, i, none⟩ = some v := fun i v h =>
    (hb.cell (p := ⟨w.heap.size, i, none⟩) (by simp)).trans (new_cell w _ 46 i v h)
  have c0 := hr 0 (.int .i64 k) rfl
  have c1 := hr 1 (.int .i64 a) rfl
  have c2 := hr 2 (.int .i64 b) rfl
  have c3 := hr 3 (.int .i64 c) rfl
  have c4 := hr 4 (.int .i64 m) rfl
  clear hr hb
  go_wp2_with fail
  refine (spec_form k 1 _ hk HF.out).mono ?_
  rintro e w2 ⟨rfl, hb2⟩
  have d10 := (hb2.cell (p := ⟨w.heap.size, 0, none⟩) (World.block_lt_of_cell? w1 _ c0)).trans c0
  have d11 := (hb2.cell (p := ⟨w.heap.size, 1, none⟩) (World.block_lt_of_cell? w1 _ c1)).trans c1
  have d12 := (hb2.cell (p := ⟨w.heap.size, 2, none⟩) (World.block_lt_of_cell? w1 _ c2)).trans c2
  have d13 := (hb2.cell (p := ⟨w.heap.size, 3, none⟩) (World.block_lt_of_cell? w1 _ c3)).trans c3
  have d14 := (hb2.cell (p := ⟨w.heap.size, 4, none⟩) (World.block_lt_of_cell? w1 _ c4)).trans c4
  have hbb2 := hb0.trans (hb2.mono hb0.size)
  clear c0 c1 c2 c3 c4 hb2
  go_wp2_with fail
  refine (spec_name k nmb _ hk HN.out).mono ?_
  rintro e w3 ⟨rfl, hb3⟩
  have d20 := (hb3.cell (p := ⟨w.heap.size, 0, none⟩) (World.block_lt_of_cell? w2 _ d10)).trans d10
  have d21 := (hb3.cell (p := ⟨w.heap.size, 1, none⟩) (World.block_lt_of_cell? w2 _ d11)).trans d11
  have d22 := (hb3.cell (p := ⟨w.heap.size, 2, none⟩) (World.block_lt_of_cell? w2 _ d12)).trans d12
  have d23 := (hb3.cell (p := ⟨w.heap.size, 3, none⟩) (World.block_lt_of_cell? w2 _ d13)).trans d13
  have d24 := (hb3.cell (p := ⟨w.heap.size, 4, none⟩) (World.block_lt_of_cell? w2 _ d14)).trans d14
  have hbb3 := hbb2.trans (hb3.mono hbb2.size)
  clear d10 d11 d12 d13 d14 hb3
  have hd_a := Sh.dect_size a
  go_wp2_with fail
  refine (spec_text a _ (by omega) (by omega)).mono ?_
  rintro e w4 ⟨rfl, rfl⟩
  generalize Tx.txt (Dc.dect a) = d_a at hd_a HE
  go_wp2
  go_ret
  exact ⟨ret_str HE.out, hbb3⟩
set_option maxHeartbeats 1000000 in
theorem spec_show_8 (k : Nat) (a b c m : Int) (nmb L : ByteArray) (w : World) (hk : k < 33) (hf : forms.getD k 0 = 8) (hn : nm k = nmb) (hs : nmb.size ≤ 5) (h : instrOk k a b c m = true)
    (HL : Hid (L = nmb ++ (⟨#[32]⟩ ++ Tx.txt (Dc.dect m)))) :
    Calls Tryz.prog 82 #[ins k a b c m] w fun e w' => e = .returned (.string L) ∧ Below w.heap.size w w' := by
  obtain ⟨h1, h2, h3, h4, h5, h6, h7, h8, h9, h10⟩ := instrOk_bounds _ a b c m h
  have HQ : Hid _ := h
  have HF : Hid _ := hf
  have HN : Hid _ := hn
  have HE : Hid ((nmb ++ ⟨#[32]⟩) ++ Tx.txt (Dc.dect m) = L) := by show _ = _; rw [HL.out]; simp only [ByteArray.append_assoc]
  clear h hf hn
  go_enter Tryz.func82, Tryz.ntmps82
  go_wp2_with fail
  refine (spec_ok k a b c m _).mono ?_
  rintro e w1 ⟨rfl, hb⟩
  rw [HQ.out]
  have hb0 := ((Below.refl _ w).alloc (Nat.le_refl _) (row k a b c m)).trans (hb.mono (by simp))
  have hr : ∀ i v, (#[Value.int .i64 k, .int .i64 a, .int .i64 b, .int .i64 c, .int .i64 m] : Array Value)[i]? = some v → w1.cell? ⟨w.heap.size, i, none⟩ = some v := fun i v h =>
    (hb.cell (p := ⟨w.heap.size, i, none⟩) (by simp)).trans (new_cell w _ 46 i v h)
  have c0 := hr 0 (.int .i64 k) rfl
  have c1 := hr 1 (.int .i64 a) rfl
  have c2 := hr 2 (.int .i64 b) rfl
  have c3 := hr 3 (.int .i64 c) rfl
  have c4 := hr 4 (.int .i64 m) rfl
  clear hr hb
  go_wp2_with fail
  refine (spec_form k 8 _ hk HF.out).mono ?_
  rintro e w2 ⟨rfl, hb2⟩
  have d10 := (hb2.cell (p := ⟨w.heap.size, 0, none⟩) (World.block_lt_of_cell? w1 _ c0)).trans c0
  have d11 := (hb2.cell (p := ⟨w.heap.size, 1, none⟩) (World.block_lt_of_cell? w1 _ c1)).trans c1
  have d12 := (hb2.cell (p := ⟨w.heap.size, 2, none⟩) (World.block_lt_of_cell? w1 _ c2)).trans c2
  have d13 := (hb2.cell (p := ⟨w.heap.size, 3, none⟩) (World.block_lt_of_cell? w1 _ c3)).trans c3
  have d14 := (hb2.cell (p := ⟨w.heap.size, 4, none⟩) (World.block_lt_of_cell? w1 _ c4)).trans c4
  have hbb2 := hb0.trans (hb2.mono hb0.size)
  clear c0 c1 c2 c3 c4 hb2
  go_wp2_with fail
  refine (spec_name k nmb _ hk HN.out).mono ?_
  rintro e w3 ⟨rfl, hb3⟩
  have d20 := (hb3.cell (p := ⟨w.heap.size, 0, none⟩) (World.block_lt_of_cell? w2 _ d10)).trans d10
  have d21 := (hb3.cell (p := ⟨w.heap.size, 1, none⟩) (World.block_lt_of_cell? w2 _ d11)).trans d11
  have d22 := (hb3.cell (p := ⟨w.heap.size, 2, none⟩) (World.block_lt_of_cell? w2 _ d12)).trans d12
  have d23 := (hb3.cell (p := ⟨w.heap.size, 3, none⟩) (World.block_lt_of_cell? w2 _ d13)).trans d13
  have d24 := (hb3.cell (p := ⟨w.heap.size, 4, none⟩) (World.block_lt_of_cell? w2 _ d14)).trans d14
  have hbb3 := hbb2.trans (hb3.mono hbb2.size)
  clear d10 d11 d12 d13 d14 hb3
  have hd_m := Sh.dect_size m
  go_wp2_with fail
  refine (spec_text m _ (by omega) (by omega)).mono ?_
  rintro e w4 ⟨rfl, rfl⟩
  generalize Tx.txt (Dc.dect m) = d_m at hd_m HE
  go_wp2
  go_ret
  exact ⟨ret_str HE.out, hbb3⟩
/-- The line of an instruction that is right. -/
def lineOf (op a b c m : Int) : ByteArray := Sh.line op.toNat a b c m (forms.getD op.toNat 0)
theorem form_bits : ∀ k : Fin 33, (bits .and .i64 (forms.getD k.val 0) 1 != 0) = (forms.getD k.val 0 % 2 == 1) ∧ (bits .and .i64 (forms.getD k.val 0) 2 != 0) = (forms.getD k.val 0 / 2 % 2 == 1) ∧ (bits .and .i64 (forms.getD k.val 0) 4 != 0) = (forms.getD k.val 0 / 4 % 2 == 1) ∧ (bits .and .i64 (forms.getD k.val 0) 8 != 0) = (forms.getD k.val 0 / 8 % 2 == 1) := by decide +kernel
theorem form_seven : ∀ k : Fin 33, forms.getD k.val 0 = 0 ∨ forms.getD k.val 0 = 7 ∨ forms.getD k.val 0 = 11 ∨ forms.getD k.val 0 = 9 ∨ forms.getD k.val 0 = 10 ∨ forms.getD k.val 0 = 1 ∨ forms.getD k.val 0 = 8 := by decide +kernel
theorem ok_nat (op a b c m : Int) (h : instrOk op a b c m = true) : ∃ k : Nat, op = k ∧ k < 33 := by
  obtain ⟨h1, h2, _⟩ := instrOk_bounds op a b c m h
  exact ⟨op.toNat, by omega, by omega⟩
theorem impl_show (op a b c m : Int) (w : World) (hT : Tab w) (hN : TabN w) (hP : TabP w) (h : instrOk op a b c m = true) :
    Calls Tryz.prog 44 #[ins op a b c m] w fun e w' => e = .returned (.string (lineOf op a b c m)) ∧ Below w.heap.size w w' := by
  obtain ⟨k, rfl, hk⟩ := ok_nat op a b c m h
  obtain ⟨b1, b2, b3, b4⟩ := form_bits ⟨k, hk⟩
  exact impl_show_at k a b c m (forms.getD k 0) (nm k) _ _ _ _ _ w hT hP hk (hN k hk) (hT k hk) (Sh.nm_size ⟨k, hk⟩) h b1 b2 b3 b4 rfl
theorem spec_show (op a b c m : Int) (w : World) (h : instrOk op a b c m = true) :
    Calls Tryz.prog 82 #[ins op a b c m] w fun e w' => e = .returned (.string (lineOf op a b c m)) ∧ Below w.heap.size w w' := by
  obtain ⟨k, rfl, hk⟩ := ok_nat op a b c m h
  have hs := Sh.nm_size ⟨k, hk⟩
  have e : lineOf (k : Int) a b c m = Sh.line k a b c m (forms.getD k 0) := rfl
  rcases form_seven ⟨k, hk⟩ with hf | hf | hf | hf | hf | hf | hf
  · refine spec_show_0 k a b c m (nm k) _ w hk hf rfl hs h ?_
    show _ = _; rw [e, hf]; simp [Sh.line, Sh.rT, Sh.mT, Sh.app_nil]
  · refine spec_show_7 k a b c m (nm k) _ w hk hf rfl hs h ?_
    show _ = _; rw [e, hf]; simp [Sh.line, Sh.rT, Sh.mT, Sh.app_nil]
  · refine spec_show_11 k a b c m (nm k) _ w hk hf rfl hs h ?_
    show _ = _; rw [e, hf]; simp [Sh.line, Sh.rT, Sh.mT, Sh.app_nil]
  · refine spec_show_9 k a b c m (nm k) _ w hk hf rfl hs h ?_
    show _ = _; rw [e, hf]; simp [Sh.line, Sh.rT, Sh.mT, Sh.app_nil]
  · refine spec_show_10 k a b c m (nm k) _ w hk hf rfl hs h ?_
    show _ = _; rw [e, hf]; simp [Sh.line, Sh.rT, Sh.mT, Sh.app_nil]
  · refine spec_show_1 k a b c m (nm k) _ w hk hf rfl hs h ?_
    show _ = _; rw [e, hf]; simp [Sh.line, Sh.rT, Sh.mT, Sh.app_nil]
  · refine spec_show_8 k a b c m (nm k) _ w hk hf rfl hs h ?_
    show _ = _; rw [e, hf]; simp [Sh.line, Sh.rT, Sh.mT, Sh.app_nil]
theorem impl_show_no (op a b c m : Int) (w : World) (ht : Tab w) (h : instrOk op a b c m = false) : Calls Tryz.prog 44 #[ins op a b c m] w fun e w' => e = .returned (.string ⟨#[]⟩) ∧ Below w.heap.size w w' := by
  have HQ : Hid _ := h
  have HT : Hid _ := ht
  clear h ht
  go_enter Tryz.func44, Tryz.ntmps44
  go_wp2_with fail
  refine (impl_ok op a b c m _ (Tab.below HT.out ((Below.refl _ w).alloc (Nat.le_refl _) _))).mono ?_
  rintro e w1 ⟨rfl, hb⟩
  rw [HQ.out]
  have hb0 := ((Below.refl _ w).alloc (Nat.le_refl _) (row op a b c m)).trans (hb.mono (by simp))
  go_wp2
  go_ret
  exact ⟨rfl, hb0⟩
theorem spec_show_no (op a b c m : Int) (w : World) (h : instrOk op a b c m = false) : Calls Tryz.prog 82 #[ins op a b c m] w fun e w' => e = .returned (.string ⟨#[]⟩) ∧ Below w.heap.size w w' := by
  have HQ : Hid _ := h
  clear h
  go_enter Tryz.func82, Tryz.ntmps82
  go_wp2_with fail
  refine (spec_ok op a b c m _).mono ?_
  rintro e w1 ⟨rfl, hb⟩
  rw [HQ.out]
  have hb0 := ((Below.refl _ w).alloc (Nat.le_refl _) (row op a b c m)).trans (hb.mono (by simp))
  go_wp2
  go_ret
  exact ⟨rfl, hb0⟩
end Go.Proofs.YtdjapcfejmhjnaaGreatDoor
