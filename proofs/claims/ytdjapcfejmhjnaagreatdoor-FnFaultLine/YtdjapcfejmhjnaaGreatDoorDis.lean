/-
  The instruction of a word: what the specification's and the program's own Decode return, one instruction and one truth value, at every word. Condition: the program's table of forms lies in memory as the program's text lays it.
  The line of a word: what ShowWord returns, the specification's and the program's own. Conditions: the program's tables of forms and names and the library's table of powers of ten lie in memory as their texts lay them.
  A strings.Builder that the call made: what copyCheck and WriteString of this program do to it. Conditions: the builder is one of the call's own; its length stays below Go's limit.
  The contract of String of a strings.Builder at this program, laid by the shelf's own tools: the function's text is the one that the contract was proved of. Condition: the builder is one of the call's own.
  The text of a list of words: what Disassemble returns, the specification's and the program's own. Conditions: the tables lie in memory as their texts lay them; the list reads as words and is at most 1048576 long.
-/
import Derived.Test.YtdjapcfejmhjnaaGreatDoorInstr
import Derived.Test.YtdjapcfejmhjnaaGreatDoorShow
import Derived.Test.YtdjapcfejmhjnaaGreatDoorProg
import Derived.Shelf.Strings.Builder1
import Derived.Below
import Derived.ProofKit
import Derived.Test.YtdjapcfejmhjnaaGreatDoorSegs
import Derived.OpenShut
namespace Go.Proofs.YtdjapcfejmhjnaaGreatDoor
open Go.ChangeShapes Go.WideShapes Go.ChangeAt Go.RowKit
set_option linter.unusedVariables false
set_option maxRecDepth 20000

def sx (y : Int) : Int := if 8192 ≤ y then y - 16384 else y
theorem sext_any (x : Int) (w : World) (h0 : 0 ≤ x) (h1 : x ≤ 4294967295) : Calls Tryz.prog 64 #[.int .u32 x, .int .i64 14] w fun e w' => e = .returned (.int .u32 (sx (x % 16384) % 4294967296)) ∧ w' = w := by
  have HE : Hid (wrap32 (x * 262144 % 4294967296) / 262144 % 4294967296 = sx (x % 16384) % 4294967296) := by
    show _ = _
    unfold wrap32 sx
    split <;> omega
  go_enter Tryz.func64, Tryz.ntmps64
  go_wp2
  go_ret
  exact ⟨ret_int HE.out, rfl⟩
theorem and_4 (z : Int) (h0 : 0 ≤ z) (h1 : z ≤ 4294967295) : wrap64 (bits .and .u32 z 15) = z % 16 := by
  have h31 : (BitVec.ofInt 32 15).toNat = 2 ^ 4 - 1 := by decide
  have key : (BitVec.ofInt 32 z &&& BitVec.ofInt 32 15).toNat = (z % ((2 ^ 32 : Nat) : Int)).toNat % 2 ^ 4 := by
    rw [BitVec.toNat_and, BitVec.toNat_ofInt, h31, Nat.and_two_pow_sub_one_eq_mod]
  have e : bits .and .u32 z 15 = z % 16 := by
    show IntKind.u32.wrap ((BitVec.ofInt 32 z &&& BitVec.ofInt 32 15).toNat : Nat) = z % 16
    rw [key, IntKind.wrap_u32]
    omega
  rw [e]
  unfold wrap64
  omega
theorem sx_back (y : Int) (h0 : 0 ≤ y) (h1 : y < 16384) : wrap64 (wrap32 (sx y % 4294967296)) = sx y := by
  unfold wrap64 wrap32 sx
  split <;> omega
set_option maxHeartbeats 1000000 in
theorem impl_dec (x : Int) (q : Bool) (w : World) (ht : Tab w) (h0 : 0 ≤ x) (h1 : x ≤ 4294967295) (HQ : Hid (instrOk (x / 67108864) (x / 4194304 % 16) (x / 262144 % 16) (x / 16384 % 16) (sx (x % 16384)) = q)) :
    Calls Tryz.prog 42 #[.int .u32 x] w fun e w' => e = .returned (.tuple #[if q then ins (x / 67108864) (x / 4194304 % 16) (x / 262144 % 16) (x / 16384 % 16) (sx (x % 16384)) else ins 0 0 0 0 0, .bool q]) ∧ Below w.heap.size w w' := by
  have HT : Hid _ := ht
  have E1 : Hid _ := and_4 (x / 4194304) (by omega) (by omega)
  have E2 : Hid _ := and_4 (x / 262144) (by omega) (by omega)
  have E3 : Hid _ := and_4 (x / 16384) (by omega) (by omega)
  have E4 : Hid _ := sx_back (x % 16384) (by omega) (by omega)
  clear ht
  go_enter Tryz.func42, Tryz.ntmps42
  go_wp2_with fail
  refine (sext_any x _ h0 h1).mono ?_
  rintro e w0 ⟨rfl, rfl⟩
  go_wp2_with fail
  rw [E1.out, E2.out, E3.out, E4.out]
  refine (impl_ok _ _ _ _ _ _ (Tab.below HT.out (((Below.refl _ w).alloc (Nat.le_refl _) _).alloc (by simp) _))).mono ?_
  rintro e w1 ⟨rfl, hb⟩
  rw [HQ.out]
  have hb0 := (((Below.refl _ w).alloc (Nat.le_refl _) (row 0 0 0 0 0)).alloc (by simp) (row (x / 67108864) (x / 4194304 % 16) (x / 262144 % 16) (x / 16384 % 16) (sx (x % 16384)))).trans (hb.mono (by simp; omega))
  have hz : ∀ i v, (#[Value.int .i64 0, .int .i64 0, .int .i64 0, .int .i64 0, .int .i64 0] : Array Value)[i]? = some v → w1.cell? ⟨w.heap.size, i, none⟩ = some v := fun i v h =>
    (hb.cell (p := ⟨w.heap.size, i, none⟩) (by simp; omega)).trans (cell_alloc (new_cell w _ 46 i v h))
  have hf : ∀ i, w1.frozen? ⟨w.heap.size, i, none⟩ = false := fun i =>
    (hb.frozen (p := ⟨w.heap.size, i, none⟩) (by simp; omega)).trans (by simp)
  have hr : ∀ i v, (#[Value.int .i64 (x / 67108864), .int .i64 (x / 4194304 % 16), .int .i64 (x / 262144 % 16), .int .i64 (x / 16384 % 16), .int .i64 (sx (x % 16384))] : Array Value)[i]? = some v → w1.cell? ⟨w.heap.size + 1, i, none⟩ = some v := fun i v h =>
    (hb.cell (p := ⟨w.heap.size + 1, i, none⟩) (by simp)).trans (by have := new_cell (w.alloc (row 0 0 0 0 0)) _ 46 i v h; simpa using this)
  have z0 := hz 0 (.int .i64 0) rfl
  have z1 := hz 1 (.int .i64 0) rfl
  have z2 := hz 2 (.int .i64 0) rfl
  have z3 := hz 3 (.int .i64 0) rfl
  have z4 := hz 4 (.int .i64 0) rfl
  have r0 := hr 0 (.int .i64 (x / 67108864)) rfl
  have r1 := hr 1 (.int .i64 (x / 4194304 % 16)) rfl
  have r2 := hr 2 (.int .i64 (x / 262144 % 16)) rfl
  have r3 := hr 3 (.int .i64 (x / 16384 % 16)) rfl
  have r4 := hr 4 (.int .i64 (sx (x % 16384))) rfl
  clear hr hz hb
  cases q
  · go_wp2
    exact bodyPost_ret (v := .tuple #[ins 0 0 0 0 0, .bool false]) (by simp [results, Tryz.results42, go_sem, z0, z1, z2, z3, z4]) rfl ⟨rfl, ((((hb0.setCell (Nat.le_refl _) _).setCell (Nat.le_refl _) _).setCell (Nat.le_refl _) _).setCell (Nat.le_refl _) _).setCell (Nat.le_refl _) _⟩
  · go_wp2
    exact bodyPost_ret (v := .tuple #[ins (x / 67108864) (x / 4194304 % 16) (x / 262144 % 16) (x / 16384 % 16) (sx (x % 16384)), .bool true]) (by simp [results, Tryz.results42, go_sem, z0, z1, z2, z3, z4]) rfl ⟨rfl, ((((hb0.setCell (Nat.le_refl _) _).setCell (Nat.le_refl _) _).setCell (Nat.le_refl _) _).setCell (Nat.le_refl _) _).setCell (Nat.le_refl _) _⟩
end Go.Proofs.YtdjapcfejmhjnaaGreatDoor
namespace Go.Proofs.YtdjapcfejmhjnaaGreatDoor
open Go.ChangeShapes Go.WideShapes Go.ChangeAt Go.RowKit
set_option linter.unusedVariables false
set_option maxRecDepth 20000

/-- The tables lie as their texts lay them. -/
def Tabs (w : World) : Prop := Tab w ∧ TabN w ∧ TabP w
theorem Tabs.below {w w' : World} (h : Tabs w) (hb : Below w.heap.size w w') : Tabs w' := ⟨h.1.below hb, h.2.1.below hb, h.2.2.below hb⟩
theorem Below.hop {w w1 w2 : World} (h1 : Below w.heap.size w w1) (h2 : Below w1.heap.size w1 w2) : Below w.heap.size w w2 := h1.trans (h2.mono h1.size)
abbrev wOk (x : Int) : Bool := instrOk (x / 67108864) (x / 4194304 % 16) (x / 262144 % 16) (x / 16384 % 16) (sx (x % 16384))
def dotWord (x : Int) : ByteArray := ⟨#[46, 119, 111, 114, 100, 32]⟩ ++ Tx.txt (Dc.dect x)
/-- The line of a word. -/
def wordLine (x : Int) : ByteArray := if wOk x = true then lineOf (x / 67108864) (x / 4194304 % 16) (x / 262144 % 16) (x / 16384 % 16) (sx (x % 16384)) else dotWord x
set_option maxHeartbeats 400000 in
theorem impl_sw_yes (x op a b c m : Int) (T : ByteArray) (HTT : Hid (lineOf op a b c m = T)) (w : World) (hT : Tabs w) (h : instrOk op a b c m = true)
    (HD : Hid (Calls Tryz.prog 42 #[.int .u32 x] w fun e w' => e = .returned (.tuple #[ins op a b c m, .bool true]) ∧ Below w.heap.size w w')) :
    Calls Tryz.prog 26 #[.int .u32 x] w fun e w' => e = .returned (.string T) ∧ Below w.heap.size w w' := by
  have HT : Hid _ := hT
  have HQ : Hid _ := h
  clear hT h
  go_enter Tryz.func26, Tryz.ntmps26
  go_wp2_with fail
  refine Calls.mono HD.out ?_
  rintro e w1 ⟨rfl, hb1⟩
  have hb2 := hb1.alloc hb1.size (row op a b c m)
  have ht2 := Tabs.below HT.out hb2
  have HT2 : Hid _ := ht2
  clear ht2
  go_wp2_with fail
  refine (impl_show op a b c m _ HT2.out.1 HT2.out.2.1 HT2.out.2.2 HQ.out).mono ?_
  rintro e w3 ⟨rfl, hb3⟩
  have hb4 := Below.hop hb2 hb3
  rw [HTT.out]
  go_wp2
  go_ret
  exact ⟨rfl, hb4⟩
set_option maxHeartbeats 400000 in
theorem impl_sw_no (x : Int) (w : World) (hT : Tabs w) (h0 : 0 ≤ x) (h1 : x ≤ 4294967295)
    (HD : Hid (Calls Tryz.prog 42 #[.int .u32 x] w fun e w' => e = .returned (.tuple #[ins 0 0 0 0 0, .bool false]) ∧ Below w.heap.size w w')) :
    Calls Tryz.prog 26 #[.int .u32 x] w fun e w' => e = .returned (.string (dotWord x)) ∧ Below w.heap.size w w' := by
  have HT : Hid _ := hT
  clear hT
  have hd := Sh.dect_size x
  go_enter Tryz.func26, Tryz.ntmps26
  go_wp2_with fail
  refine Calls.mono HD.out ?_
  rintro e w1 ⟨rfl, hb1⟩
  have hb2 := hb1.alloc hb1.size (row 0 0 0 0 0)
  have ht2 := Tabs.below HT.out hb2
  have HT2 : Hid _ := ht2
  clear ht2
  go_wp2_with fail
  refine (impl_text x _ (by omega) (by omega) HT2.out.2.2).mono ?_
  rintro e w3 ⟨rfl, hb3⟩
  have hb4 := Below.hop hb2 hb3
  have HE : Hid (⟨#[46, 119, 111, 114, 100, 32]⟩ ++ Tx.txt (Dc.dect x) = dotWord x) := rfl
  generalize Tx.txt (Dc.dect x) = d at hd HE
  go_wp2
  go_ret
  exact ⟨ret_str HE.out, hb4⟩
theorem impl_sw (x : Int) (w : World) (hT : Tabs w) (h0 : 0 ≤ x) (h1 : x ≤ 4294967295) :
    Calls Tryz.prog 26 #[.int .u32 x] w fun e w' => e = .returned (.string (wordLine x)) ∧ Below w.heap.size w w' := by
  unfold wordLine
  by_cases h : wOk x = true
  · rw [if_pos h]
    exact impl_sw_yes x _ _ _ _ _ _ rfl w hT h (impl_dec x true w hT.1 h0 h1 h)
  · rw [if_neg h]
    exact impl_sw_no x w hT h0 h1 (impl_dec x false w hT.1 h0 h1 (show _ = _ from Bool.eq_false_iff.2 h))
end Go.Proofs.YtdjapcfejmhjnaaGreatDoor
namespace Go.Proofs.YtdjapcfejmhjnaaGreatDoor
open Go.ChangeShapes Go.WideShapes Go.ChangeAt Go.RowKit Go.Shelf
set_option linter.unusedVariables false
set_option maxRecDepth 100000

theorem bInfo : (Tryz.prog.info? 51).map (·.size) = some 2 := by kernel_rfl
theorem bLies : liesAt Tryz.prog Tryz.prog.depth 51 (2 / Tryz.prog.cellsOf 51) 0 51 1 = true := by kernel_rfl
theorem byteInfo : (Tryz.prog.info? 5).map (fun i => (i.zero, i.size, i.bytes)) = some (some (.int .u8 0), 1, 1) := by kernel_rfl
set_option maxHeartbeats 1000000 in
theorem check_used (b : Nat) (w : World) (h0 : w.cell? ⟨b, 0, none⟩ = some (.pointer (some ⟨b, 0, none⟩))) :
    Calls Tryz.prog 41 #[.pointer (some ⟨b, 0, none⟩)] w fun e w' => e = .returned (.tuple #[]) ∧ w' = w := by
  obtain ⟨j, hj, _⟩ := Option.map_eq_some_iff.1 bInfo
  go_enter Tryz.func41, Tryz.ntmps41
  go_wp2
  rw [Lib.run_neq_ptr_same w _ Tryz.underlying49 hj]
  go_wp2
  go_end0
  exact ⟨rfl, rfl⟩
set_option maxHeartbeats 1000000 in
theorem check_fresh (b : Nat) (w : World) (h0 : w.cell? ⟨b, 0, none⟩ = some (.pointer none)) (hsh : w.shape? b = some (51, 2)) (hfz : w.frozen? ⟨b, 0, none⟩ = false) :
    Calls Tryz.prog 41 #[.pointer (some ⟨b, 0, none⟩)] w fun e w' => e = .returned (.tuple #[]) ∧ w' = w.setCell ⟨b, 0, none⟩ (.pointer (some ⟨b, 0, none⟩)) := by
  obtain ⟨j, hj, hjs⟩ := Option.map_eq_some_iff.1 bInfo
  go_enter Tryz.func41, Tryz.ntmps41
  go_wp2
  rw [Lib.run_to_unsafe w ⟨b, 0, none⟩ Tryz.underlying49 Tryz.underlying95 hj (by rw [hjs]; decide) hsh (Nat.zero_lt_succ 1)]
  simp only [Result.andThen]
  rw [Oper.upon_value]
  go_wp2
  rw [run_callFunc_extern Tryz.func63 (by kernel_rfl) (by kernel_rfl) (by kernel_rfl) (e := Extern.AbiNoEscape.same) (by kernel_rfl)]
  rw [Lib.run_noEscape]
  simp only [Result.andThen]
  rw [Oper.upon_value]
  go_wp2
  rw [Lib.run_from_unsafe w ⟨b, 0, none⟩ Tryz.underlying95 Tryz.underlying49 hj hsh bLies]
  simp only [Result.andThen]
  rw [Oper.upon_value]
  go_wp2
  go_end0
  exact ⟨rfl, rfl⟩
theorem check_any (B b : Nat) (bs : List Value) (w : World) (h : Lib.IsBuilder 51 5 B b bs w) :
    Calls Tryz.prog 41 #[.pointer (some ⟨b, 0, none⟩)] w fun e w' => e = .returned (.tuple #[]) ∧ (Lib.BuilderAt 51 5 B b (.pointer (some ⟨b, 0, none⟩)) bs w' ∧ Below B w w') := by
  rcases h with h | h
  · refine (check_fresh b w h.cell0 h.shape h.frozen0).mono ?_
    rintro e w' ⟨rfl, rfl⟩
    exact ⟨rfl, h.used _, (Below.refl B w).setCell (p := ⟨b, 0, none⟩) h.1 _⟩
  · refine (check_used b w h.cell0).mono ?_
    rintro e w' ⟨rfl, rfl⟩
    exact ⟨rfl, h, Below.refl B _⟩
set_option maxHeartbeats 2000000 in
theorem write_str (B b : Nat) (bs : List Value) (s : ByteArray) (w : World) (h : Lib.IsBuilder 51 5 B b bs w) (hlen : bs.length + s.size ≤ 140737488355328) (hBw : B ≤ w.heap.size) :
    Calls Tryz.prog 25 #[.pointer (some ⟨b, 0, none⟩), .string s] w fun e w' => e = .returned (.tuple #[.int .i64 s.size, .nilIface]) ∧ (Lib.BuilderAt 51 5 B b (.pointer (some ⟨b, 0, none⟩)) (bs ++ Lib.strCells s) w' ∧ Below B w w') := by
  obtain ⟨i0, hi, hz0, hz1, hz2⟩ := info_parts byteInfo
  have HH : Hid _ := h
  clear h
  go_enter Tryz.func25, Tryz.ntmps25
  go_wp2_with fail
  refine (check_any B b bs _ HH.out).mono ?_
  rintro e w1 ⟨rfl, h1, hb1⟩
  obtain ⟨hB, v, hbk, hown, hne⟩ := h1
  have c0 : w1.cell? ⟨b, 0, none⟩ = some (.pointer (some ⟨b, 0, none⟩)) := by rw [Lib.cell_of_heap hbk]; rfl
  have c1 : w1.cell? ⟨b, 1, none⟩ = some v := by rw [Lib.cell_of_heap hbk]; rfl
  go_wp2_with (at_builtin; refine Lib.wpList_append_own_string _ rfl _ _ 22 9 rfl B 5 i0 Tryz.underlying22 Tryz.underlying9 hi hz0 hz1 hz2 _ _ _ rfl hown s rfl ?c3 ?c4 ?c5 ?_)
  case c3 => unfold maxLen; omega
  case c4 => omega
  case c5 => have := hb1.size; omega
  intro v' w2 hown' hgrow _
  have hlt : b < w1.heap.size := by
    rcases Nat.lt_or_ge b w1.heap.size with h' | h'
    · exact h'
    · simp [Array.getElem?_eq_none h'] at hbk
  have hb2 : w2.heap[b]? = some (.cells #[.pointer (some ⟨b, 0, none⟩), v] 51 (0, 0)) := by
    rw [hgrow.block b hlt (fun e => hne e.symm)]
    exact hbk
  have d0 : w2.cell? ⟨b, 0, none⟩ = some (.pointer (some ⟨b, 0, none⟩)) := by rw [Lib.cell_of_heap hb2]; rfl
  have d1 : w2.cell? ⟨b, 1, none⟩ = some v := by rw [Lib.cell_of_heap hb2]; rfl
  have f1 : w2.frozen? ⟨b, 1, none⟩ = false := Lib.frozen_of_heap hb2 1
  obtain ⟨ao, n', cap, rfl⟩ : ∃ ao n' cap, v' = .slice ao n' cap := by
    rcases hown'.2 with ⟨hv, _⟩ | ⟨g, cap, cur, hv, _⟩
    · exact ⟨_, _, _, hv⟩
    · exact ⟨_, _, _, hv⟩
  go_wp2
  go_ret2
  refine ⟨rfl, ?_, ?_⟩
  · exact Lib.BuilderAt.put (T := 51) (e := 5) hB hb2 (bs' := bs ++ Lib.strCells s) (by simpa [Lib.strCells_length] using hown') (by decide)
  · exact (hb1.grown hgrow (by have := hb1.size; omega) (fun k hk => (hown.lt k hk).1)).setCell (p := ⟨b, 1, none⟩) hB _
end Go.Proofs.YtdjapcfejmhjnaaGreatDoor
namespace Go.Proofs
open Go.Shelf Go.RowKit
def Tryz.lays169_ren : Go.Shelf.Ren := ⟨fun | 169 => 27 | n => n, fun | 70 => 49 | 9 => 9 | 0 => 0 | 72 => 51 | 37 => 22 | 127 => 87 | 3 => 3 | 5 => 5 | n => n, fun | n => n⟩
theorem Tryz.lays169 : Go.Proofs.Lays.n169 Tryz.prog Tryz.lays169_ren := {
  mixed := by kernel_rfl
  f169 := Tryz.func27.trans (congrArg some (by kernel_rfl))
  t0 := Tryz.underlying0
  a0 := Tryz.isAgg0
  z0 := Tryz.sizeOf0
  v0 := Tryz.zeroValue0
  t3 := Tryz.underlying3
  a3 := Tryz.isAgg3
  z3 := Tryz.sizeOf3
  v3 := Tryz.zeroValue3
  t9 := Tryz.underlying9
  a9 := Tryz.isAgg9
  z9 := Tryz.sizeOf9
  v9 := Tryz.zeroValue9
  t37 := Tryz.underlying22
  a37 := Tryz.isAgg22
  z37 := Tryz.sizeOf22
  v37 := Tryz.zeroValue22
  t70 := Tryz.underlying49
  a70 := Tryz.isAgg49
  z70 := Tryz.sizeOf49
  v70 := Tryz.zeroValue49
  t72 := Tryz.underlying51
  a72 := Tryz.isAgg51
  z72 := Tryz.sizeOf51
  v72 := Tryz.zeroValue51
  t127 := Tryz.underlying87
  a127 := Tryz.isAgg87
  z127 := Tryz.sizeOf87
  v127 := Tryz.zeroValue87 }
theorem Tryz.Builder_Extra_169 : Builder.Extra Tryz.prog Tryz.lays169_ren := {
  sizeBuilder := by kernel_rfl
  liesBuilder := by kernel_rfl
  t5 := Tryz.underlying5
  a5 := Tryz.isAgg5
  z5 := Tryz.sizeOf5
  v5 := Tryz.zeroValue5
  infoByte := by kernel_rfl
  cellsByte := by kernel_rfl
  sizeByte := by kernel_rfl
  neB5 := by decide }
theorem Tryz.Builder_String_any (B b : Nat) (l : List UInt8) (w : World) (h : Lib.IsBuilder 51 5 B b (Lib.byteCells l) w) (hBw : B ≤ w.heap.size) :
    Calls Tryz.prog 27 #[.pointer (some ⟨b, 0, none⟩)] w fun e w' => e = .returned (.string ⟨l.toArray⟩) ∧ Below B w w' := Any.Builder_String_any Tryz.lays169 Tryz.Builder_Extra_169 B b l w h hBw
end Go.Proofs
namespace Go.Proofs.YtdjapcfejmhjnaaGreatDoor
open Go.ChangeShapes Go.WideShapes Go.ChangeAt Go.RowKit
set_option linter.unusedVariables false
set_option maxRecDepth 20000

namespace Dz
/-- The text of words, a line each. -/
def text : List Int → ByteArray
  | [] => ⟨#[]⟩
  | x :: l => wordLine x ++ ⟨#[10]⟩ ++ text l
theorem text_snoc : ∀ (l : List Int) (x : Int), text (l ++ [x]) = text l ++ (wordLine x ++ ⟨#[10]⟩)
  | [], x => by
    show wordLine x ++ ⟨#[10]⟩ ++ ⟨#[]⟩ = ⟨#[]⟩ ++ (wordLine x ++ ⟨#[10]⟩)
    apply ByteArray.ext
    simp
  | y :: l, x => by
    show wordLine y ++ ⟨#[10]⟩ ++ text (l ++ [x]) = wordLine y ++ ⟨#[10]⟩ ++ text l ++ _
    rw [text_snoc l x]
    simp only [ByteArray.append_assoc]
theorem nm_all (k : Nat) : (nm k).size ≤ 5 := by
  by_cases h : k < 33
  · exact Sh.nm_size ⟨k, h⟩
  · have : names.getD k [] = [] := by simp [List.getD, names, h]
    unfold nm
    rw [this]
    decide
theorem rT_size (q : Bool) (x : Int) : (Sh.rT q x).size ≤ 23 := by
  unfold Sh.rT
  split
  · have := Sh.dect_size x
    rw [Sh.app_size, show (⟨#[32, 114]⟩ : ByteArray).size = 2 from rfl]
    omega
  · decide
theorem mT_size (q : Bool) (x : Int) : (Sh.mT q x).size ≤ 22 := by
  unfold Sh.mT
  split
  · have := Sh.dect_size x
    rw [Sh.app_size, show (⟨#[32]⟩ : ByteArray).size = 1 from rfl]
    omega
  · decide
theorem line_size (op a b c m : Int) : (lineOf op a b c m).size ≤ 96 := by
  unfold lineOf Sh.line
  simp only [Sh.app_size]
  have := nm_all op.toNat
  have h1 := rT_size (forms.getD op.toNat 0 % 2 == 1) a
  have h2 := rT_size (forms.getD op.toNat 0 / 2 % 2 == 1) b
  have h3 := rT_size (forms.getD op.toNat 0 / 4 % 2 == 1) c
  have h4 := mT_size (forms.getD op.toNat 0 / 8 % 2 == 1) m
  omega
theorem word_size (x : Int) : (wordLine x).size ≤ 96 := by
  unfold wordLine
  split
  · exact line_size _ _ _ _ _
  · have := Sh.dect_size x
    unfold dotWord
    rw [Sh.app_size, show (⟨#[46, 119, 111, 114, 100, 32]⟩ : ByteArray).size = 6 from rfl]
    omega
theorem text_size : ∀ l : List Int, (text l).size ≤ 97 * l.length
  | [] => by decide
  | x :: l => by
    have := text_size l
    have h := word_size x
    show (wordLine x ++ ⟨#[10]⟩ ++ text l).size ≤ _
    rw [Sh.app_size, Sh.app_size, show (⟨#[10]⟩ : ByteArray).size = 1 from rfl, List.length_cons]
    omega
theorem text_take (zs : List Int) (k : Nat) (h : k < zs.length) : text (zs.take (k + 1)) = text (zs.take k) ++ (wordLine (zs.getD k 0) ++ ⟨#[10]⟩) := by
  rw [take_getD zs k h, text_snoc]
end Dz
theorem isBuilder_below {T e : TypeId} {B b : Nat} {bs : List Value} {w w' : World} (h : Lib.IsBuilder T e B b bs w) (hb : Below w.heap.size w w') : Lib.IsBuilder T e B b bs w' := by
  have hk : ∀ k o, w.heap[k]? = some o → w'.heap[k]? = some o := fun k o ho => by
    have hlt : k < w.heap.size := by
      rcases Nat.lt_or_ge k w.heap.size with h' | h'
      · exact h'
      · rw [Array.getElem?_eq_none h'] at ho
        cases ho
    rw [hb.block k hlt]
    exact ho
  have one : ∀ p, Lib.BuilderAt T e B b p bs w → Lib.BuilderAt T e B b p bs w' := fun p ⟨hB, v, hbk, hown, hne⟩ => by
    refine ⟨hB, v, hk _ _ hbk, ⟨hown.1, ?_⟩, hne⟩
    rcases hown.2 with h0 | ⟨g, cap, cur, hv, hg, hh, r⟩
    · exact .inl h0
    · exact .inr ⟨g, cap, cur, hv, hg, hk _ _ hh, r⟩
  rcases h with h | h
  · exact .inl (one _ h)
  · exact .inr (one _ h)
/-- The numbers are words. -/
def Words (zs : List Int) : Prop := ∀ n ∈ zs, (Lit.int .u32 n).wf = true
theorem Words.at {zs : List Int} (h : Words zs) (k : Nat) (hk : k < zs.length) : 0 ≤ zs.getD k 0 ∧ zs.getD k 0 ≤ 4294967295 := bounds_u32 (h _ (getD_mem zs k hk))
set_option maxHeartbeats 400000 in
theorem impl_dis_long (a : Option Addr) (n cap : Nat) (w : World) (h : 256 < n) (hn : n ≤ 1048576) :
    Calls Tryz.prog 8 #[.slice a n cap] w fun e w' => e = .returned (.tuple #[.string ⟨#[]⟩, .bool false]) ∧ Below w.heap.size w w' := by
  go_enter Tryz.func8, Tryz.ntmps8
  go_wp2
  go_ret2
  exact ⟨rfl, Below.refl _ _⟩
theorem ret_txt {a b : ByteArray} {c : Bool} (h : a = b) : Ending.returned (.tuple #[.string a, .bool c]) = .returned (.tuple #[.string b, .bool c]) := by rw [h]
set_option maxHeartbeats 1000000 in
theorem impl_dis (a : Option Addr) (cap n : Nat) (zs : List Int) (w : World) (hT : Tabs w) (hs : Seg .u32 w a zs) (hw : Words zs) (Hn : Hid (n = zs.length)) (h : n ≤ 256) :
    Calls Tryz.prog 8 #[.slice a n cap] w fun e w' => e = .returned (.tuple #[.string (Dz.text zs), .bool true]) ∧ Below w.heap.size w w' := by
  have Hw : Hid _ := hw
  have Hs : Hid _ := hs
  have HT : Hid _ := hT
  clear hw hs hT
  have HB0 : Hid _ := Lib.fresh_isBuilder 51 5 w
  go_enter Tryz.func8, Tryz.ntmps8
  go_wp2
  go_loopw [6, 12] (fun r i wr => ∃ (k : Nat), k ≤ n ∧ i = .int .i64 k ∧ Below w.heap.size w wr ∧ w.heap.size ≤ wr.heap.size ∧ Hid (Lib.IsBuilder 51 5 w.heap.size w.heap.size (Lib.byteCells (Dz.text (zs.take k)).data.toList) wr)) (fun _ i _ => n - (intOf i).toNat)
  case atStart => exact ⟨0, by omega, rfl, (Below.refl _ _).alloc (Nat.le_refl _) _, by simp, HB0⟩
  case round =>
    obtain ⟨k, hk, rfl, hb, hsz0, HB⟩ := hrel
    by_cases hlt : k < n
    · have hl : k < zs.length := by rw [← Hn.out]; exact hlt
      obtain ⟨b, off, rfl, hbl, hc⟩ := Seg.at (Seg.below Hs.out hb) k hl
      obtain ⟨hx0, hx1⟩ := Words.at Hw.out k hl
      have HX : Hid (Dz.text (zs.take (k + 1)) = Dz.text (zs.take k) ++ (wordLine (zs.getD k 0) ++ ⟨#[10]⟩)) := Dz.text_take zs k hl
      have hsz := Dz.word_size (zs.getD k 0)
      have hts := Dz.text_size (zs.take k)
      rw [List.length_take] at hts
      generalize zs.getD k 0 = x at hc hx0 hx1 HX hsz
      clear hl
      go_wp2_with fail
      refine (impl_sw x _ (Tabs.below HT.out hb) hx0 hx1).mono ?_
      rintro e w2 ⟨rfl, hb2⟩
      have HB2 : Hid _ := isBuilder_below HB.out hb2
      have hbb := hb.trans (hb2.mono hb.size)
      have hszz := hbb.size
      generalize wordLine x = L at HX hsz
      clear hc hb2
      go_wp2_with fail
      refine (write_str w.heap.size w.heap.size _ _ _ HB2.out (by
        rw [Lib.byteCells_length, show (Dz.text (zs.take k)).data.toList.length = (Dz.text (zs.take k)).size from rfl, Sh.app_size, show (⟨#[10]⟩ : ByteArray).size = 1 from rfl]
        omega) hszz).mono ?_
      rintro e w3 ⟨rfl, hbd, hb3⟩
      have HB3 : Hid (Lib.IsBuilder 51 5 w.heap.size w.heap.size (Lib.byteCells (Dz.text (zs.take (k + 1))).data.toList) w3) := by
        rw [HX.out]
        refine .inr ?_
        have e : Lib.byteCells (Dz.text (zs.take k) ++ (L ++ ⟨#[10]⟩)).data.toList = Lib.byteCells (Dz.text (zs.take k)).data.toList ++ Lib.strCells (L ++ ⟨#[10]⟩) := by
          rw [Lib.strCells_eq]
          simp [Lib.byteCells]
        rw [e]
        exact hbd
      have hb4 := hbb.trans hb3
      have hs4 := hb4.size
      clear hbd
      go_wp2
      go_roundw
      case rel => exact ⟨k + 1, by omega, by go_num, hb4, hs4, HB3⟩
      case measure => simp [intOf]; omega
    · have HE : Hid (Dz.text (zs.take k) = Dz.text zs) := by
        show _ = _
        rw [List.take_of_length_le (by rw [← Hn.out]; omega)]
      go_wp2_with fail
      refine (Tryz.Builder_String_any w.heap.size w.heap.size _ _ HB.out hsz0).mono ?_
      rintro e w2 ⟨rfl, hb2⟩
      have hbb := hb.trans hb2
      have HE2 : Hid ((⟨(Dz.text (zs.take k)).data.toList.toArray⟩ : ByteArray) = Dz.text zs) := by
        show _ = _
        rw [HE.out]
      generalize (⟨(Dz.text (zs.take k)).data.toList.toArray⟩ : ByteArray) = t at HE2
      go_wp2
      go_ret2
      exact ⟨ret_txt HE2.out, hbb⟩
end Go.Proofs.YtdjapcfejmhjnaaGreatDoor
