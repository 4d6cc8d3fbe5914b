/-
  What the specification's ReadLine returns at lines that are too long, labels, words and no instructions. Condition: the line is at most 1048576 bytes long.
-/
import Derived.Test.YtdjapcfejmhjnaaGreatDoorSpl
import Derived.Deep.QuietTactic
import Derived.BigQuiet
namespace Go.Proofs.YtdjapcfejmhjnaaGreatDoor
open Go.ChangeShapes Go.WideShapes Go.ChangeAt Go.RowKit Go.Deep
set_option linter.unusedVariables false
set_option maxRecDepth 20000

/-- The world of the specification's reader: the answer's cells, the cells of nothing, the words. -/
structure RS (w wr : World) (ws : List ByteArray) (ad : Option Addr) : Prop where
  below : Below w.heap.size w wr
  lt : w.heap.size + 1 < wr.heap.size
  cell : ∀ i v, (#[Value.int .i64 0, .int .i64 0, .int .i64 0, .int .i64 0, .int .i64 0, .int .i64 0, .int .u32 0, .string ⟨#[]⟩] : Array Value)[i]? = some v → wr.cell? ⟨w.heap.size, i, none⟩ = some v
  free : ∀ i, wr.frozen? ⟨w.heap.size, i, none⟩ = false
  non : ∀ i v, (#[Value.int .i64 0, .int .i64 0, .int .i64 0, .int .i64 0, .int .i64 0, .int .i64 0, .int .u32 0, .string ⟨#[]⟩] : Array Value)[i]? = some v → wr.cell? ⟨w.heap.size + 1, i, none⟩ = some v
  fl : Flds wr ad ws
theorem RS.hop {w wr w2 : World} {ws : List ByteArray} {ad : Option Addr} (h : RS w wr ws ad) (hb : Below wr.heap.size wr w2) : RS w w2 ws ad :=
  ⟨h.below.trans (hb.mono h.below.size), Nat.lt_of_lt_of_le h.lt hb.size, fun i v e => (hb.cell (p := ⟨w.heap.size, i, none⟩) (by have := h.lt; simp; omega)).trans (h.cell i v e), fun i => (hb.frozen (p := ⟨w.heap.size, i, none⟩) (by have := h.lt; simp; omega)).trans (h.free i),
    fun i v e => (hb.cell (p := ⟨w.heap.size + 1, i, none⟩) h.lt).trans (h.non i v e), h.fl.below hb⟩
theorem RS.mk' {w w1 : World} {ws : List ByteArray} {ad : Option Addr} (hb : Below ((w.alloc (.cells #[Value.int .i64 0, .int .i64 0, .int .i64 0, .int .i64 0, .int .i64 0, .int .i64 0, .int .u32 0, .string ⟨#[]⟩] 114)).alloc (.cells #[Value.int .i64 0, .int .i64 0, .int .i64 0, .int .i64 0, .int .i64 0, .int .i64 0, .int .u32 0, .string ⟨#[]⟩] 114)).heap.size ((w.alloc (.cells #[Value.int .i64 0, .int .i64 0, .int .i64 0, .int .i64 0, .int .i64 0, .int .i64 0, .int .u32 0, .string ⟨#[]⟩] 114)).alloc (.cells #[Value.int .i64 0, .int .i64 0, .int .i64 0, .int .i64 0, .int .i64 0, .int .i64 0, .int .u32 0, .string ⟨#[]⟩] 114)) w1) (hf : Flds w1 ad ws) : RS w w1 ws ad := by
  have hs := hb.size
  refine ⟨(((Below.refl _ w).alloc (Nat.le_refl _) _).alloc (by simp) _).trans (hb.mono (by simp; omega)), by simp at hs; omega, fun i v h => (hb.cell (p := ⟨w.heap.size, i, none⟩) (by simp; omega)).trans (cell_alloc (new_cell w _ 114 i v h)),
    fun i => (hb.frozen (p := ⟨w.heap.size, i, none⟩) (by simp; omega)).trans (by simp), fun i v h => (hb.cell (p := ⟨w.heap.size + 1, i, none⟩) (by simp)).trans ?_, hf⟩
  have := new_cell (w.alloc (.cells #[Value.int .i64 0, .int .i64 0, .int .i64 0, .int .i64 0, .int .i64 0, .int .i64 0, .int .u32 0, .string ⟨#[]⟩] 114)) _ 114 i v h
  simpa using this
theorem Flds.at {w : World} {a : Option Addr} {ws : List ByteArray} (h : Flds w a ws) (h0 : 0 < ws.length) : ∃ b off, a = some ⟨b, off, none⟩ ∧ b < w.heap.size ∧ ∀ i x, ws[i]? = some x → w.cell? ⟨b, off + i, none⟩ = some (.string x) := h h0
set_option maxHeartbeats 400000 in
theorem spec_rl_long (s : ByteArray) (w : World) (hs : s.size ≤ 1048576) (h : 80 < s.size) : Calls Tryz.prog 58 #[.string s] w fun e w' => e = .returned Rl.no.val ∧ Below w.heap.size w w' := by
  go_enter Tryz.func58, Tryz.ntmps58
  go_wp2
  exact bodyPost_ret (v := Rl.no.val) (by simp [results, Tryz.results58, go_sem, Rl.A8.val]) rfl ⟨rfl, ((Below.refl _ _).alloc (Nat.le_refl _) _).alloc (by simp) _⟩
namespace Sp
theorem cut_one (c : UInt8) : ∀ l x, cut c l = [x] → x = l
  | [], x, h => by simp [cut] at h; first | exact h | exact h.symm
  | b :: l, x, h => by
    unfold cut at h
    split at h
    · injection h with h1 h2
      exact absurd h2 (cut_ne c l)
    · cases hc : cut c l with
      | nil => exact absurd hc (cut_ne c l)
      | cons y r =>
        rw [hc] at h
        simp only [glue, List.cons.injEq] at h
        obtain ⟨h1, h2⟩ := h
        subst h2
        rw [← h1, cut_one c l y hc]
        rfl
theorem texts_one (c : UInt8) (s x : ByteArray) (h : texts c s = [x]) : x = s := by
  unfold texts at h
  cases hc : cut c s.data.toList with
  | nil => exact absurd hc (cut_ne c _)
  | cons y r =>
    rw [hc] at h
    simp only [List.map_cons, List.cons.injEq, List.map_eq_nil_iff] at h
    obtain ⟨h1, h2⟩ := h
    subst h2
    rw [← h1, cut_one c _ _ hc]
end Sp
theorem wrap_pred (n : Nat) (h1 : 1 ≤ n) (h2 : n ≤ 1048576) : IntKind.i64.wrap ((n : Int) - 1) = ((n - 1 : Nat) : Int) := by
  rw [IntKind.wrap_i64]
  omega
/-- What is asked of a line ahead of its words: one word, of more than one byte, that ends in a colon. -/
def isColon (s : ByteArray) (n : Nat) : Bool := decide (n = 1) && (decide (1 < s.size) && Rl.colon s)
theorem last_eq (s : ByteArray) (h : 1 ≤ s.size) : Rl.colon s = ((s[s.size - 1].toNat : Int) == 58) := by
  unfold Rl.colon
  have hz : s.data.toList.length = s.size := rfl
  have e : s.data.toList.getLast? = some s[s.size - 1] := by
    rw [List.getLast?_eq_getElem?, List.getElem?_eq_getElem (by omega)]
    rfl
  rw [e, Bool.eq_iff_iff]
  simp only [beq_iff_eq, Option.some.injEq]
  constructor
  · intro h; rw [h]; rfl
  · intro h
    rw [← UInt8.toNat_inj]
    simpa using (by omega : s[s.size - 1].toNat = 58)
set_option maxHeartbeats 2000000 in
theorem spec_rl_label (s : ByteArray) (q : Bool) (V : Value) (w : World) (h1 : 1 < s.size) (h80 : s.size ≤ 80) (hs : s.size ≤ 1048576) (HW : Hid (Sp.texts 32 s = [s])) (hc : Rl.colon s = true) (HL : Hid (Lab.ok (Tx.nums (Rl.ahead s)) = q))
    (HV : Hid ((if q then (⟨1, 0, 0, 0, 0, 0, 0, Rl.ahead s⟩ : Rl.A8) else Rl.no).val = V)) :
    Calls Tryz.prog 58 #[.string s] w fun e w' => e = .returned V ∧ Below w.heap.size w w' := by
  have hlast : ((s[s.size - 1].toNat : Int) == 58) = true := by rw [← last_eq s (by omega)]; exact hc
  have HA : Hid (s.extract 0 (s.size - 1) = Rl.ahead s) := rfl
  have hnx : (Rl.ahead s).size ≤ 1048576 := by unfold Rl.ahead; rw [ByteArray.size_extract]; omega
  clear hc
  go_enter Tryz.func58, Tryz.ntmps58
  go_wp2_with fail
  refine (spec_split s _ hs).mono ?_
  rintro e w3 ⟨ad, cap, rfl, hcap, hfl, hb3⟩
  rw [HW.out] at hfl hcap ⊢
  have HR : Hid _ := RS.mk' hb3 hfl
  obtain ⟨bb, oo, rfl, hbl, hcx⟩ := Flds.head hfl
  simp only [List.length_cons, List.length_nil, Nat.zero_add] at hcap ⊢
  clear hfl hb3
  have hd1 : decide (1 < (s.size : Int)) = true := decide_eq_true (by omega)
  have hwr : IntKind.i64.wrap ((s.size : Int) - 1) = ((s.size - 1 : Nat) : Int) := wrap_pred s.size (by omega) (by omega)
  have hlt1 : s.size - 1 < s.size := by omega
  go_wp2
  go_quiet (fail)
  go_wp2
  go_quiet (fail)
  go_wp2_with fail
  rw [HA.out]
  refine (spec_lab (Rl.ahead s) _ hnx).mono ?_
  rintro e w4 ⟨rfl, rfl⟩
  rw [HL.out]
  have z0 := (HR.out).cell 0 (.int .i64 0) rfl
  have n0 := (HR.out).non 0 (.int .i64 0) rfl
  have z1 := (HR.out).cell 1 (.int .i64 0) rfl
  have n1 := (HR.out).non 1 (.int .i64 0) rfl
  have z2 := (HR.out).cell 2 (.int .i64 0) rfl
  have n2 := (HR.out).non 2 (.int .i64 0) rfl
  have z3 := (HR.out).cell 3 (.int .i64 0) rfl
  have n3 := (HR.out).non 3 (.int .i64 0) rfl
  have z4 := (HR.out).cell 4 (.int .i64 0) rfl
  have n4 := (HR.out).non 4 (.int .i64 0) rfl
  have z5 := (HR.out).cell 5 (.int .i64 0) rfl
  have n5 := (HR.out).non 5 (.int .i64 0) rfl
  have z6 := (HR.out).cell 6 (.int .u32 0) rfl
  have n6 := (HR.out).non 6 (.int .u32 0) rfl
  have z7 := (HR.out).cell 7 (.string ⟨#[]⟩) rfl
  have n7 := (HR.out).non 7 (.string ⟨#[]⟩) rfl
  have hf := (HR.out).free
  have hbz := (HR.out).below
  cases q
  · have HV2 : Hid (Rl.no.val = V) := HV.out
    go_wp2
    exact bodyPost_ret (v := Rl.A8.val Rl.no) (by simp [results, Tryz.results58, go_sem, Rl.A8.val, z0, z1, z2, z3, z4, z5, z6, z7]) rfl ⟨ret_val HV2.out, ((((((((below_drewN hbz _).setCell (Nat.le_refl _) _).setCell (Nat.le_refl _) _).setCell (Nat.le_refl _) _).setCell (Nat.le_refl _) _).setCell (Nat.le_refl _) _).setCell (Nat.le_refl _) _).setCell (Nat.le_refl _) _).setCell (Nat.le_refl _) _⟩
  · have HV2 : Hid (Rl.A8.val ⟨1, 0, 0, 0, 0, 0, 0, Rl.ahead s⟩ = V) := HV.out
    go_wp2
    exact bodyPost_ret (v := Rl.A8.val ⟨1, 0, 0, 0, 0, 0, 0, Rl.ahead s⟩) (by simp [results, Tryz.results58, go_sem, Rl.A8.val, z0, z1, z2, z3, z4, z5, z6, z7]) rfl ⟨ret_val HV2.out, ((((((((below_drewN hbz _).setCell (Nat.le_refl _) _).setCell (Nat.le_refl _) _).setCell (Nat.le_refl _) _).setCell (Nat.le_refl _) _).setCell (Nat.le_refl _) _).setCell (Nat.le_refl _) _).setCell (Nat.le_refl _) _).setCell (Nat.le_refl _) _⟩
set_option maxHeartbeats 2000000 in
theorem spec_rl_word_a (s w0 : ByteArray) (r : List ByteArray) (n : Nat) (V : Value) (w : World) (h80 : s.size ≤ 80) (hs : s.size ≤ 1048576) (HW : Hid (Sp.texts 32 s = w0 :: r)) (HN : Hid (n = (w0 :: r).length)) (hn80 : n ≤ 81) (hsh : Short (w0 :: r)) (hw0 : w0 = Rl.dotW) (hn1 : n ≠ 1) (h2 : n ≠ 2) (HV : Hid (Rl.no.val = V)) :
    Calls Tryz.prog 58 #[.string s] w fun e w' => e = .returned V ∧ Below w.heap.size w w' := by
  have hdw : (w0.toList == [46, 119, 111, 114, 100]) = true := by rw [hw0, dotW_list]; rfl
  clear hw0
  have h22 : ((n : Int) != 2) = true := by rw [bne_iff_ne]; omega
  clear h2
  have hn0 : 0 < n := by rw [HN.out]; simp
  have hg : ((n : Int) == 1) = false := beq_eq_false_iff_ne.2 (by omega)
  go_enter Tryz.func58, Tryz.ntmps58
  go_wp2_with fail
  refine (spec_split s _ hs).mono ?_
  rintro e w3 ⟨ad, cap, rfl, hcap, hfl, hb3⟩
  rw [HW.out] at hfl hcap ⊢
  rw [← HN.out] at hcap ⊢
  have HR : Hid _ := RS.mk' hb3 hfl
  have HFL : Hid _ := hfl
  obtain ⟨bb, oo, rfl, hbl, hcx⟩ := Flds.head hfl
  clear hfl hb3
  go_wp2
  first | go_quiet (fail) | fail
  have z0 := (HR.out).cell 0 (.int .i64 0) rfl
  have n0 := (HR.out).non 0 (.int .i64 0) rfl
  have z1 := (HR.out).cell 1 (.int .i64 0) rfl
  have n1 := (HR.out).non 1 (.int .i64 0) rfl
  have z2 := (HR.out).cell 2 (.int .i64 0) rfl
  have n2 := (HR.out).non 2 (.int .i64 0) rfl
  have z3 := (HR.out).cell 3 (.int .i64 0) rfl
  have n3 := (HR.out).non 3 (.int .i64 0) rfl
  have z4 := (HR.out).cell 4 (.int .i64 0) rfl
  have n4 := (HR.out).non 4 (.int .i64 0) rfl
  have z5 := (HR.out).cell 5 (.int .i64 0) rfl
  have n5 := (HR.out).non 5 (.int .i64 0) rfl
  have z6 := (HR.out).cell 6 (.int .u32 0) rfl
  have n6 := (HR.out).non 6 (.int .u32 0) rfl
  have z7 := (HR.out).cell 7 (.string ⟨#[]⟩) rfl
  have n7 := (HR.out).non 7 (.string ⟨#[]⟩) rfl
  have hf := (HR.out).free
  have hbz := (HR.out).below
  go_wp2
  exact bodyPost_ret (v := Rl.A8.val Rl.no) (by simp [results, Tryz.results58, go_sem, Rl.A8.val, z0, z1, z2, z3, z4, z5, z6, z7]) rfl ⟨ret_val HV.out, ((((((((below_drewN hbz _).setCell (Nat.le_refl _) _).setCell (Nat.le_refl _) _).setCell (Nat.le_refl _) _).setCell (Nat.le_refl _) _).setCell (Nat.le_refl _) _).setCell (Nat.le_refl _) _).setCell (Nat.le_refl _) _).setCell (Nat.le_refl _) _⟩
set_option maxHeartbeats 2000000 in
theorem spec_rl_noop_a (s w0 : ByteArray) (r : List ByteArray) (n : Nat) (V : Value) (w : World) (h80 : s.size ≤ 80) (hs : s.size ≤ 1048576) (HW : Hid (Sp.texts 32 s = w0 :: r)) (HN : Hid (n = (w0 :: r).length)) (hn80 : n ≤ 81) (hsh : Short (w0 :: r)) (hw0 : w0 ≠ Rl.dotW) (hn1 : n ≠ 1) (HO : Hid (∀ X, Calls Tryz.prog 86 #[.string w0] X fun e w' => e = .returned (.int .i64 (-1)) ∧ Below X.heap.size X w')) (HV : Hid (Rl.no.val = V)) :
    Calls Tryz.prog 58 #[.string s] w fun e w' => e = .returned V ∧ Below w.heap.size w w' := by
  have hdw : (w0.toList == [46, 119, 111, 114, 100]) = false := by
    have := Tx.list_ne w0 Rl.dotW hw0
    rw [dotW_list] at this
    exact this
  clear hw0
  have hn0 : 0 < n := by rw [HN.out]; simp
  have hg : ((n : Int) == 1) = false := beq_eq_false_iff_ne.2 (by omega)
  go_enter Tryz.func58, Tryz.ntmps58
  go_wp2_with fail
  refine (spec_split s _ hs).mono ?_
  rintro e w3 ⟨ad, cap, rfl, hcap, hfl, hb3⟩
  rw [HW.out] at hfl hcap ⊢
  rw [← HN.out] at hcap ⊢
  have HR : Hid _ := RS.mk' hb3 hfl
  have HFL : Hid _ := hfl
  obtain ⟨bb, oo, rfl, hbl, hcx⟩ := Flds.head hfl
  clear hfl hb3
  go_wp2
  first | go_quiet (fail) | fail
  go_wp2_with fail
  refine (HO.out _).mono ?_
  rintro e w4 ⟨rfl, hb4⟩
  have HR4 : Hid _ := RS.hop (RS.hop HR.out (below_drewN (Below.refl _ _) _)) hb4
  clear hb4
  have z0 := (HR4.out).cell 0 (.int .i64 0) rfl
  have n0 := (HR4.out).non 0 (.int .i64 0) rfl
  have z1 := (HR4.out).cell 1 (.int .i64 0) rfl
  have n1 := (HR4.out).non 1 (.int .i64 0) rfl
  have z2 := (HR4.out).cell 2 (.int .i64 0) rfl
  have n2 := (HR4.out).non 2 (.int .i64 0) rfl
  have z3 := (HR4.out).cell 3 (.int .i64 0) rfl
  have n3 := (HR4.out).non 3 (.int .i64 0) rfl
  have z4 := (HR4.out).cell 4 (.int .i64 0) rfl
  have n4 := (HR4.out).non 4 (.int .i64 0) rfl
  have z5 := (HR4.out).cell 5 (.int .i64 0) rfl
  have n5 := (HR4.out).non 5 (.int .i64 0) rfl
  have z6 := (HR4.out).cell 6 (.int .u32 0) rfl
  have n6 := (HR4.out).non 6 (.int .u32 0) rfl
  have z7 := (HR4.out).cell 7 (.string ⟨#[]⟩) rfl
  have n7 := (HR4.out).non 7 (.string ⟨#[]⟩) rfl
  have hf := (HR4.out).free
  have hbz := (HR4.out).below
  go_wp2
  exact bodyPost_ret (v := Rl.A8.val Rl.no) (by simp [results, Tryz.results58, go_sem, Rl.A8.val, z0, z1, z2, z3, z4, z5, z6, z7]) rfl ⟨ret_val HV.out, ((((((((hbz).setCell (Nat.le_refl _) _).setCell (Nat.le_refl _) _).setCell (Nat.le_refl _) _).setCell (Nat.le_refl _) _).setCell (Nat.le_refl _) _).setCell (Nat.le_refl _) _).setCell (Nat.le_refl _) _).setCell (Nat.le_refl _) _⟩
set_option maxHeartbeats 2000000 in
theorem spec_rl_word_b (s w0 : ByteArray) (r : List ByteArray) (n : Nat) (V : Value) (w : World) (h80 : s.size ≤ 80) (hs : s.size ≤ 1048576) (HW : Hid (Sp.texts 32 s = w0 :: r)) (HN : Hid (n = (w0 :: r).length)) (hn80 : n ≤ 81) (hsh : Short (w0 :: r)) (hw0 : w0 = Rl.dotW) (hn1 : n = 1) (hs1 : s.size ≤ 1) (hw0s : w0 = s) (h2 : n ≠ 2) (HV : Hid (Rl.no.val = V)) :
    Calls Tryz.prog 58 #[.string s] w fun e w' => e = .returned V ∧ Below w.heap.size w w' := by
  have hdw : (w0.toList == [46, 119, 111, 114, 100]) = true := by rw [hw0, dotW_list]; rfl
  clear hw0
  have h22 : ((n : Int) != 2) = true := by rw [bne_iff_ne]; omega
  clear h2
  subst hn1 hw0s
  have hg : decide (1 < (w0.size : Int)) = false := decide_eq_false (by omega)
  go_enter Tryz.func58, Tryz.ntmps58
  go_wp2_with fail
  refine (spec_split w0 _ hs).mono ?_
  rintro e w3 ⟨ad, cap, rfl, hcap, hfl, hb3⟩
  rw [HW.out] at hfl hcap ⊢
  rw [← HN.out] at hcap ⊢
  have HR : Hid _ := RS.mk' hb3 hfl
  have HFL : Hid _ := hfl
  obtain ⟨bb, oo, rfl, hbl, hcx⟩ := Flds.head hfl
  clear hfl hb3
  go_wp2
  first | go_quiet (fail) | fail
  have z0 := (HR.out).cell 0 (.int .i64 0) rfl
  have n0 := (HR.out).non 0 (.int .i64 0) rfl
  have z1 := (HR.out).cell 1 (.int .i64 0) rfl
  have n1 := (HR.out).non 1 (.int .i64 0) rfl
  have z2 := (HR.out).cell 2 (.int .i64 0) rfl
  have n2 := (HR.out).non 2 (.int .i64 0) rfl
  have z3 := (HR.out).cell 3 (.int .i64 0) rfl
  have n3 := (HR.out).non 3 (.int .i64 0) rfl
  have z4 := (HR.out).cell 4 (.int .i64 0) rfl
  have n4 := (HR.out).non 4 (.int .i64 0) rfl
  have z5 := (HR.out).cell 5 (.int .i64 0) rfl
  have n5 := (HR.out).non 5 (.int .i64 0) rfl
  have z6 := (HR.out).cell 6 (.int .u32 0) rfl
  have n6 := (HR.out).non 6 (.int .u32 0) rfl
  have z7 := (HR.out).cell 7 (.string ⟨#[]⟩) rfl
  have n7 := (HR.out).non 7 (.string ⟨#[]⟩) rfl
  have hf := (HR.out).free
  have hbz := (HR.out).below
  go_wp2
  exact bodyPost_ret (v := Rl.A8.val Rl.no) (by simp [results, Tryz.results58, go_sem, Rl.A8.val, z0, z1, z2, z3, z4, z5, z6, z7]) rfl ⟨ret_val HV.out, ((((((((below_drewN hbz _).setCell (Nat.le_refl _) _).setCell (Nat.le_refl _) _).setCell (Nat.le_refl _) _).setCell (Nat.le_refl _) _).setCell (Nat.le_refl _) _).setCell (Nat.le_refl _) _).setCell (Nat.le_refl _) _).setCell (Nat.le_refl _) _⟩
set_option maxHeartbeats 2000000 in
theorem spec_rl_noop_b (s w0 : ByteArray) (r : List ByteArray) (n : Nat) (V : Value) (w : World) (h80 : s.size ≤ 80) (hs : s.size ≤ 1048576) (HW : Hid (Sp.texts 32 s = w0 :: r)) (HN : Hid (n = (w0 :: r).length)) (hn80 : n ≤ 81) (hsh : Short (w0 :: r)) (hw0 : w0 ≠ Rl.dotW) (hn1 : n = 1) (hs1 : s.size ≤ 1) (hw0s : w0 = s) (HO : Hid (∀ X, Calls Tryz.prog 86 #[.string w0] X fun e w' => e = .returned (.int .i64 (-1)) ∧ Below X.heap.size X w')) (HV : Hid (Rl.no.val = V)) :
    Calls Tryz.prog 58 #[.string s] w fun e w' => e = .returned V ∧ Below w.heap.size w w' := by
  have hdw : (w0.toList == [46, 119, 111, 114, 100]) = false := by
    have := Tx.list_ne w0 Rl.dotW hw0
    rw [dotW_list] at this
    exact this
  clear hw0
  subst hn1 hw0s
  have hg : decide (1 < (w0.size : Int)) = false := decide_eq_false (by omega)
  go_enter Tryz.func58, Tryz.ntmps58
  go_wp2_with fail
  refine (spec_split w0 _ hs).mono ?_
  rintro e w3 ⟨ad, cap, rfl, hcap, hfl, hb3⟩
  rw [HW.out] at hfl hcap ⊢
  rw [← HN.out] at hcap ⊢
  have HR : Hid _ := RS.mk' hb3 hfl
  have HFL : Hid _ := hfl
  obtain ⟨bb, oo, rfl, hbl, hcx⟩ := Flds.head hfl
  clear hfl hb3
  go_wp2
  first | go_quiet (fail) | fail
  go_wp2_with fail
  refine (HO.out _).mono ?_
  rintro e w4 ⟨rfl, hb4⟩
  have HR4 : Hid _ := RS.hop (RS.hop HR.out (below_drewN (Below.refl _ _) _)) hb4
  clear hb4
  have z0 := (HR4.out).cell 0 (.int .i64 0) rfl
  have n0 := (HR4.out).non 0 (.int .i64 0) rfl
  have z1 := (HR4.out).cell 1 (.int .i64 0) rfl
  have n1 := (HR4.out).non 1 (.int .i64 0) rfl
  have z2 := (HR4.out).cell 2 (.int .i64 0) rfl
  have n2 := (HR4.out).non 2 (.int .i64 0) rfl
  have z3 := (HR4.out).cell 3 (.int .i64 0) rfl
  have n3 := (HR4.out).non 3 (.int .i64 0) rfl
  have z4 := (HR4.out).cell 4 (.int .i64 0) rfl
  have n4 := (HR4.out).non 4 (.int .i64 0) rfl
  have z5 := (HR4.out).cell 5 (.int .i64 0) rfl
  have n5 := (HR4.out).non 5 (.int .i64 0) rfl
  have z6 := (HR4.out).cell 6 (.int .u32 0) rfl
  have n6 := (HR4.out).non 6 (.int .u32 0) rfl
  have z7 := (HR4.out).cell 7 (.string ⟨#[]⟩) rfl
  have n7 := (HR4.out).non 7 (.string ⟨#[]⟩) rfl
  have hf := (HR4.out).free
  have hbz := (HR4.out).below
  go_wp2
  exact bodyPost_ret (v := Rl.A8.val Rl.no) (by simp [results, Tryz.results58, go_sem, Rl.A8.val, z0, z1, z2, z3, z4, z5, z6, z7]) rfl ⟨ret_val HV.out, ((((((((hbz).setCell (Nat.le_refl _) _).setCell (Nat.le_refl _) _).setCell (Nat.le_refl _) _).setCell (Nat.le_refl _) _).setCell (Nat.le_refl _) _).setCell (Nat.le_refl _) _).setCell (Nat.le_refl _) _).setCell (Nat.le_refl _) _⟩
set_option maxHeartbeats 2000000 in
theorem spec_rl_word_c (s w0 : ByteArray) (r : List ByteArray) (n : Nat) (V : Value) (w : World) (h80 : s.size ≤ 80) (hs : s.size ≤ 1048576) (HW : Hid (Sp.texts 32 s = w0 :: r)) (HN : Hid (n = (w0 :: r).length)) (hn80 : n ≤ 81) (hsh : Short (w0 :: r)) (hw0 : w0 = Rl.dotW) (hn1 : n = 1) (hs1 : 1 < s.size) (hcol : Rl.colon s = false) (hw0s : w0 = s) (h2 : n ≠ 2) (HV : Hid (Rl.no.val = V)) :
    Calls Tryz.prog 58 #[.string s] w fun e w' => e = .returned V ∧ Below w.heap.size w w' := by
  have hdw : (w0.toList == [46, 119, 111, 114, 100]) = true := by rw [hw0, dotW_list]; rfl
  clear hw0
  have h22 : ((n : Int) != 2) = true := by rw [bne_iff_ne]; omega
  clear h2
  subst hn1 hw0s
  have hg : decide (1 < (w0.size : Int)) = true := decide_eq_true (by omega)
  have hlast : ((w0[w0.size - 1].toNat : Int) == 58) = false := by rw [← last_eq w0 (by omega)]; exact hcol
  have hwr : IntKind.i64.wrap ((w0.size : Int) - 1) = ((w0.size - 1 : Nat) : Int) := wrap_pred w0.size (by omega) (by omega)
  have hlt1 : w0.size - 1 < w0.size := by omega
  clear hcol
  go_enter Tryz.func58, Tryz.ntmps58
  go_wp2_with fail
  refine (spec_split w0 _ hs).mono ?_
  rintro e w3 ⟨ad, cap, rfl, hcap, hfl, hb3⟩
  rw [HW.out] at hfl hcap ⊢
  rw [← HN.out] at hcap ⊢
  have HR : Hid _ := RS.mk' hb3 hfl
  have HFL : Hid _ := hfl
  obtain ⟨bb, oo, rfl, hbl, hcx⟩ := Flds.head hfl
  clear hfl hb3
  go_wp2
  first | go_quiet (fail) | fail
  have z0 := (HR.out).cell 0 (.int .i64 0) rfl
  have n0 := (HR.out).non 0 (.int .i64 0) rfl
  have z1 := (HR.out).cell 1 (.int .i64 0) rfl
  have n1 := (HR.out).non 1 (.int .i64 0) rfl
  have z2 := (HR.out).cell 2 (.int .i64 0) rfl
  have n2 := (HR.out).non 2 (.int .i64 0) rfl
  have z3 := (HR.out).cell 3 (.int .i64 0) rfl
  have n3 := (HR.out).non 3 (.int .i64 0) rfl
  have z4 := (HR.out).cell 4 (.int .i64 0) rfl
  have n4 := (HR.out).non 4 (.int .i64 0) rfl
  have z5 := (HR.out).cell 5 (.int .i64 0) rfl
  have n5 := (HR.out).non 5 (.int .i64 0) rfl
  have z6 := (HR.out).cell 6 (.int .u32 0) rfl
  have n6 := (HR.out).non 6 (.int .u32 0) rfl
  have z7 := (HR.out).cell 7 (.string ⟨#[]⟩) rfl
  have n7 := (HR.out).non 7 (.string ⟨#[]⟩) rfl
  have hf := (HR.out).free
  have hbz := (HR.out).below
  go_wp2
  exact bodyPost_ret (v := Rl.A8.val Rl.no) (by simp [results, Tryz.results58, go_sem, Rl.A8.val, z0, z1, z2, z3, z4, z5, z6, z7]) rfl ⟨ret_val HV.out, ((((((((below_drewN hbz _).setCell (Nat.le_refl _) _).setCell (Nat.le_refl _) _).setCell (Nat.le_refl _) _).setCell (Nat.le_refl _) _).setCell (Nat.le_refl _) _).setCell (Nat.le_refl _) _).setCell (Nat.le_refl _) _).setCell (Nat.le_refl _) _⟩
set_option maxHeartbeats 2000000 in
theorem spec_rl_noop_c (s w0 : ByteArray) (r : List ByteArray) (n : Nat) (V : Value) (w : World) (h80 : s.size ≤ 80) (hs : s.size ≤ 1048576) (HW : Hid (Sp.texts 32 s = w0 :: r)) (HN : Hid (n = (w0 :: r).length)) (hn80 : n ≤ 81) (hsh : Short (w0 :: r)) (hw0 : w0 ≠ Rl.dotW) (hn1 : n = 1) (hs1 : 1 < s.size) (hcol : Rl.colon s = false) (hw0s : w0 = s) (HO : Hid (∀ X, Calls Tryz.prog 86 #[.string w0] X fun e w' => e = .returned (.int .i64 (-1)) ∧ Below X.heap.size X w')) (HV : Hid (Rl.no.val = V)) :
    Calls Tryz.prog 58 #[.string s] w fun e w' => e = .returned V ∧ Below w.heap.size w w' := by
  have hdw : (w0.toList == [46, 119, 111, 114, 100]) = false := by
    have := Tx.list_ne w0 Rl.dotW hw0
    rw [dotW_list] at this
    exact this
  clear hw0
  subst hn1 hw0s
  have hg : decide (1 < (w0.size : Int)) = true := decide_eq_true (by omega)
  have hlast : ((w0[w0.size - 1].toNat : Int) == 58) = false := by rw [← last_eq w0 (by omega)]; exact hcol
  have hwr : IntKind.i64.wrap ((w0.size : Int) - 1) = ((w0.size - 1 : Nat) : Int) := wrap_pred w0.size (by omega) (by omega)
  have hlt1 : w0.size - 1 < w0.size := by omega
  clear hcol
  go_enter Tryz.func58, Tryz.ntmps58
  go_wp2_with fail
  refine (spec_split w0 _ hs).mono ?_
  rintro e w3 ⟨ad, cap, rfl, hcap, hfl, hb3⟩
  rw [HW.out] at hfl hcap ⊢
  rw [← HN.out] at hcap ⊢
  have HR : Hid _ := RS.mk' hb3 hfl
  have HFL : Hid _ := hfl
  obtain ⟨bb, oo, rfl, hbl, hcx⟩ := Flds.head hfl
  clear hfl hb3
  go_wp2
  first | go_quiet (fail) | fail
  go_wp2_with fail
  refine (HO.out _).mono ?_
  rintro e w4 ⟨rfl, hb4⟩
  have HR4 : Hid _ := RS.hop (RS.hop HR.out (below_drewN (Below.refl _ _) _)) hb4
  clear hb4
  have z0 := (HR4.out).cell 0 (.int .i64 0) rfl
  have n0 := (HR4.out).non 0 (.int .i64 0) rfl
  have z1 := (HR4.out).cell 1 (.int .i64 0) rfl
  have n1 := (HR4.out).non 1 (.int .i64 0) rfl
  have z2 := (HR4.out).cell 2 (.int .i64 0) rfl
  have n2 := (HR4.out).non 2 (.int .i64 0) rfl
  have z3 := (HR4.out).cell 3 (.int .i64 0) rfl
  have n3 := (HR4.out).non 3 (.int .i64 0) rfl
  have z4 := (HR4.out).cell 4 (.int .i64 0) rfl
  have n4 := (HR4.out).non 4 (.int .i64 0) rfl
  have z5 := (HR4.out).cell 5 (.int .i64 0) rfl
  have n5 := (HR4.out).non 5 (.int .i64 0) rfl
  have z6 := (HR4.out).cell 6 (.int .u32 0) rfl
  have n6 := (HR4.out).non 6 (.int .u32 0) rfl
  have z7 := (HR4.out).cell 7 (.string ⟨#[]⟩) rfl
  have n7 := (HR4.out).non 7 (.string ⟨#[]⟩) rfl
  have hf := (HR4.out).free
  have hbz := (HR4.out).below
  go_wp2
  exact bodyPost_ret (v := Rl.A8.val Rl.no) (by simp [results, Tryz.results58, go_sem, Rl.A8.val, z0, z1, z2, z3, z4, z5, z6, z7]) rfl ⟨ret_val HV.out, ((((((((hbz).setCell (Nat.le_refl _) _).setCell (Nat.le_refl _) _).setCell (Nat.le_refl _) _).setCell (Nat.le_refl _) _).setCell (Nat.le_refl _) _).setCell (Nat.le_refl _) _).setCell (Nat.le_refl _) _).setCell (Nat.le_refl _) _⟩
set_option maxHeartbeats 2000000 in
theorem spec_rl_dot (s w0 x1 : ByteArray) (V : Value) (w : World) (h80 : s.size ≤ 80) (hs : s.size ≤ 1048576) (HW : Hid (Sp.texts 32 s = [w0, x1])) (hsh : Short [w0, x1]) (hw0 : w0 = Rl.dotW) (HV : Hid ((Rl.rdW [x1]).val = V)) :
    Calls Tryz.prog 58 #[.string s] w fun e w' => e = .returned V ∧ Below w.heap.size w w' := by
  have hdw : (w0.toList == [46, 119, 111, 114, 100]) = true := by rw [hw0, dotW_list]; rfl
  clear hw0
  have hx1 : x1.size ≤ 1048576 := hsh x1 (by simp)
  obtain ⟨v, q, HT, hq1, hq0⟩ := fixT (Dc.ans (Tx.nums x1) 4294967295)
  have HQ1 : Hid _ := hq1
  have HQ0 : Hid _ := hq0
  clear hq1 hq0
  go_enter Tryz.func58, Tryz.ntmps58
  go_wp2_with fail
  refine (spec_split s _ hs).mono ?_
  rintro e w3 ⟨ad, cap, rfl, hcap, hfl, hb3⟩
  rw [HW.out] at hfl hcap ⊢
  simp only [List.length_cons, List.length_nil, Nat.zero_add] at hcap ⊢
  have HR : Hid _ := RS.mk' hb3 hfl
  obtain ⟨bb, oo, rfl, hbl, hcells⟩ := Flds.at hfl (by simp)
  have hc0 : w3.cell? ⟨bb, oo, none⟩ = some (.string w0) := by have := hcells 0 w0 rfl; simpa using this
  have hc1 : w3.cell? ⟨bb, oo + 1, none⟩ = some (.string x1) := hcells 1 x1 rfl
  clear hfl hb3 hcells
  go_wp2
  first | go_quiet (fail) | fail
  go_wp2_with fail
  refine (spec_num x1 4294967295 _ hx1).mono ?_
  rintro e w4 ⟨rfl, rfl⟩
  rw [HT.out]
  have z0 := (HR.out).cell 0 (.int .i64 0) rfl
  have n0 := (HR.out).non 0 (.int .i64 0) rfl
  have z1 := (HR.out).cell 1 (.int .i64 0) rfl
  have n1 := (HR.out).non 1 (.int .i64 0) rfl
  have z2 := (HR.out).cell 2 (.int .i64 0) rfl
  have n2 := (HR.out).non 2 (.int .i64 0) rfl
  have z3 := (HR.out).cell 3 (.int .i64 0) rfl
  have n3 := (HR.out).non 3 (.int .i64 0) rfl
  have z4 := (HR.out).cell 4 (.int .i64 0) rfl
  have n4 := (HR.out).non 4 (.int .i64 0) rfl
  have z5 := (HR.out).cell 5 (.int .i64 0) rfl
  have n5 := (HR.out).non 5 (.int .i64 0) rfl
  have z6 := (HR.out).cell 6 (.int .u32 0) rfl
  have n6 := (HR.out).non 6 (.int .u32 0) rfl
  have z7 := (HR.out).cell 7 (.string ⟨#[]⟩) rfl
  have n7 := (HR.out).non 7 (.string ⟨#[]⟩) rfl
  have hf := (HR.out).free
  have hbz := (HR.out).below
  cases q
  · have HV2 : Hid (Rl.no.val = V) := by
      show _ = _
      rw [← HV.out]
      simp only [Rl.rdW, HQ0.out rfl]
    go_wp2
    exact bodyPost_ret (v := Rl.A8.val Rl.no) (by simp [results, Tryz.results58, go_sem, Rl.A8.val, z0, z1, z2, z3, z4, z5, z6, z7]) rfl ⟨ret_val HV2.out, ((((((((below_drewN hbz _).setCell (Nat.le_refl _) _).setCell (Nat.le_refl _) _).setCell (Nat.le_refl _) _).setCell (Nat.le_refl _) _).setCell (Nat.le_refl _) _).setCell (Nat.le_refl _) _).setCell (Nat.le_refl _) _).setCell (Nat.le_refl _) _⟩
  · by_cases hv : v < 0
    · have HV2 : Hid (Rl.no.val = V) := by
        show _ = _
        rw [← HV.out]
        simp [Rl.rdW, HQ1.out rfl, hv]
      go_wp2
      exact bodyPost_ret (v := Rl.A8.val Rl.no) (by simp [results, Tryz.results58, go_sem, Rl.A8.val, z0, z1, z2, z3, z4, z5, z6, z7]) rfl ⟨ret_val HV2.out, ((((((((below_drewN hbz _).setCell (Nat.le_refl _) _).setCell (Nat.le_refl _) _).setCell (Nat.le_refl _) _).setCell (Nat.le_refl _) _).setCell (Nat.le_refl _) _).setCell (Nat.le_refl _) _).setCell (Nat.le_refl _) _).setCell (Nat.le_refl _) _⟩
    · obtain ⟨_, hv1, _⟩ := Rl.ans_dect _ _ _ (HQ1.out rfl)
      have HV2 : Hid (Rl.A8.val ⟨2, 0, 0, 0, 0, 0, v, ⟨#[]⟩⟩ = V) := by
        show _ = _
        rw [← HV.out]
        simp [Rl.rdW, HQ1.out rfl, hv]
      have hv0 : 0 ≤ v := by omega
      go_wp2
      exact bodyPost_ret (v := Rl.A8.val ⟨2, 0, 0, 0, 0, 0, v, ⟨#[]⟩⟩) (by simp [results, Tryz.results58, go_sem, Rl.A8.val, z0, z1, z2, z3, z4, z5, z6, z7]) rfl ⟨ret_val HV2.out, ((((((((below_drewN hbz _).setCell (Nat.le_refl _) _).setCell (Nat.le_refl _) _).setCell (Nat.le_refl _) _).setCell (Nat.le_refl _) _).setCell (Nat.le_refl _) _).setCell (Nat.le_refl _) _).setCell (Nat.le_refl _) _).setCell (Nat.le_refl _) _⟩
end Go.Proofs.YtdjapcfejmhjnaaGreatDoor
