/-
  What the program's own ReadLine returns. Conditions: the tables of forms and names lie in memory as their texts lay them, and the library's own variable holds a number; the line is at most 1048576 bytes long.
-/
import Derived.Test.YtdjapcfejmhjnaaGreatDoorRdn
namespace Go.Proofs.YtdjapcfejmhjnaaGreatDoor
open Go.ChangeShapes Go.WideShapes Go.ChangeAt Go.RowKit Go.Deep
set_option linter.unusedVariables false
set_option maxRecDepth 20000

theorem bhop {w w1 w2 : World} (h1 : Below w.heap.size w w1) (h2 : Below w1.heap.size w1 w2) : Below w.heap.size w w2 := h1.trans (h2.mono h1.size)
theorem dotW_list : Rl.dotW.toList = [46, 119, 111, 114, 100] := by rw [ByteArray.toList_eq]; rfl
theorem slice1 (a : Option Addr) (n cap : Nat) (h : 1 ≤ n) (w : World) : (Instr.slice 65 (.slice a n cap) (some (.int .i64 1)) none none).run Tryz.prog w = .ok (.slice (rest1 a cap) (n - 1) (cap - 1)) w := by
  have h1 : (1 : Int) ≤ (n : Int) := by omega
  rw [run_slice_l w 65 a n cap Tryz.underlying65 .i64 1 (by omega) h1]
  have e : ∀ w, (sizeOf (Tryz.prog.elem 65)).run Tryz.prog w = .ok 1 w := fun w => by kernel_rfl
  rw [e]
  simp only [Result.andThen, cut1]
/-- The library's own variable holds a number. -/
def TabM (w : World) : Prop := ∃ m, w.cell? ⟨3, 0, none⟩ = some (.int .i64 m)
theorem TabM.below {w w' : World} (h : TabM w) (hb : Below w.heap.size w w') : TabM w' := by
  obtain ⟨m, hm⟩ := h
  exact ⟨m, (hb.cell (p := ⟨3, 0, none⟩) (World.block_lt_of_cell? w _ hm)).trans hm⟩
namespace Sp
theorem glue_short (p : List UInt8) (R : List (List UInt8)) (n : Nat) (hp : p.length ≤ 1) (h : ∀ x ∈ R, x.length ≤ n) : ∀ x ∈ glue p R, x.length ≤ n + 1 := by
  cases R with
  | nil => intro x hx; simp [glue] at hx; subst hx; omega
  | cons y r =>
    intro x hx
    simp only [glue, List.mem_cons] at hx
    rcases hx with rfl | hx
    · have := h y (by simp)
      simp
      omega
    · have := h x (by simp [hx])
      omega
theorem cut_short (c : UInt8) : ∀ l, ∀ x ∈ cut c l, x.length ≤ l.length
  | [] => by simp [cut]
  | b :: l => by
    have ih := cut_short c l
    unfold cut
    split
    · intro x hx
      simp only [List.mem_cons] at hx
      rcases hx with rfl | hx
      · simp
      · have := ih x hx
        simp
        omega
    · exact glue_short [b] _ l.length (by simp) ih
theorem texts_short (c : UInt8) (s : ByteArray) : ∀ x ∈ texts c s, x.size ≤ s.size := by
  intro x hx
  unfold texts at hx
  rw [List.mem_map] at hx
  obtain ⟨l, hl, rfl⟩ := hx
  have := cut_short c _ l hl
  show l.toArray.size ≤ _
  rw [List.size_toArray]
  exact this
theorem cut_many (c : UInt8) : ∀ l, (cut c l).length ≤ l.length + 1
  | [] => by simp [cut]
  | b :: l => by
    have ih := cut_many c l
    unfold cut
    split
    · simp; omega
    · cases h : cut c l with
      | nil => simp [glue]
      | cons y r => rw [h] at ih; simp [glue] at ih ⊢; omega
theorem texts_many (c : UInt8) (s : ByteArray) : (texts c s).length ≤ s.size + 1 := by
  unfold texts
  rw [List.length_map]
  exact cut_many c _
theorem texts_cons (c : UInt8) (s : ByteArray) : ∃ w r, texts c s = w :: r := by
  unfold texts
  cases h : cut c s.data.toList with
  | nil => exact absurd h (cut_ne c _)
  | cons x r => exact ⟨_, _, rfl⟩
end Sp
theorem split_any (c : UInt8) (s : ByteArray) (ws : List ByteArray) (w : World) (hM : TabM w) (hs : s.size ≤ 1048576) (hw : Sp.texts c s = ws) :
    Calls Tryz.prog 96 #[.string s, .string ⟨#[c]⟩] w fun e w' => e = .returned (.slice (some ⟨w.heap.size, 0, none⟩) ws.length ws.length) ∧ Below w.heap.size w w' ∧ Flds w' (some ⟨w.heap.size, 0, none⟩) ws ∧ w'.heap.size = w.heap.size + 1 := by
  obtain ⟨m, hm⟩ := hM
  refine (Tryz.strings_Split s ⟨#[c]⟩ m w (by omega) hm (Nat.le_refl 1)).mono ?_
  rintro e w' ⟨rfl, rfl⟩
  have hl := Sp.cut_len c s
  rw [hw] at hl
  refine ⟨by rw [hl], (Below.refl _ _).alloc (Nat.le_refl _) _, fun h0 => ⟨w.heap.size, 0, rfl, by simp, fun i x hi => ?_⟩, by simp⟩
  rw [Sp.splitB_eq, hw, Nat.zero_add]
  simp [hi]
namespace Rl
theorem suf_eq (l : List UInt8) : Lib.hasSuffix l [58] = (l.getLast? == some 58) := by
  unfold Lib.hasSuffix
  rw [Bool.eq_iff_iff, List.isSuffixOf_iff_suffix, beq_iff_eq]
  constructor
  · rintro ⟨t, rfl⟩
    simp
  · intro h
    obtain ⟨t, rfl⟩ := List.getLast?_eq_some_iff.1 h
    exact ⟨t, rfl⟩
theorem suf_yes (s : ByteArray) (h : colon s = true) : Lib.hasSuffix s.data.toList [58] = true ∧ (⟨(Lib.trimSuffix s.data.toList [58]).toArray⟩ : ByteArray) = ahead s := by
  have h1 : Lib.hasSuffix s.data.toList [58] = true := by rw [suf_eq]; exact h
  refine ⟨h1, ?_⟩
  unfold Lib.trimSuffix ahead
  rw [if_pos h1]
  apply ByteArray.ext
  apply Array.toList_inj.1
  rw [Lib.extract_from_zero]
  rfl
theorem suf_no (s : ByteArray) (h : colon s = false) : Lib.hasSuffix s.data.toList [58] = false ∧ (⟨(Lib.trimSuffix s.data.toList [58]).toArray⟩ : ByteArray) = s := by
  have h1 : Lib.hasSuffix s.data.toList [58] = false := by rw [suf_eq]; exact h
  refine ⟨h1, ?_⟩
  unfold Lib.trimSuffix
  rw [h1]
  cases s
  simp
end Rl
set_option maxHeartbeats 400000 in
theorem impl_rl_long (s : ByteArray) (w : World) (hs : s.size ≤ 1048576) (h : 80 < s.size) : Calls Tryz.prog 70 #[.string s] w fun e w' => e = .returned Rl.no.val ∧ Below w.heap.size w w' := by
  go_enter Tryz.func70, Tryz.ntmps70
  go_wp2
  exact bodyPost_ret (v := Rl.no.val) (by simp [results, Tryz.results70, go_sem, Rl.A8.val]) rfl ⟨rfl, (Below.refl _ _).alloc (Nat.le_refl _) _⟩
set_option maxHeartbeats 1000000 in
theorem impl_rl_label (s nmx : ByteArray) (V : Value) (HV : Hid (Rl.A8.val ⟨1, 0, 0, 0, 0, 0, 0, nmx⟩ = V)) (w : World) (h : s.size ≤ 80) (hnx : nmx.size ≤ 1048576) (hl : Lab.ok (Tx.nums nmx) = true)
    (HC : Hid (∀ w, Calls Tryz.prog 97 #[.string s, .string ⟨#[58]⟩] w fun e w' => e = .returned (.tuple #[.string nmx, .bool true]) ∧ w' = w)) :
    Calls Tryz.prog 70 #[.string s] w fun e w' => e = .returned V ∧ Below w.heap.size w w' := by
  have HL : Hid _ := hl
  clear hl
  go_enter Tryz.func70, Tryz.ntmps70
  go_wp2_with fail
  refine Calls.mono (HC.out _) ?_
  rintro e w1 ⟨rfl, rfl⟩
  go_wp2_with fail
  refine (impl_lab nmx _ hnx).mono ?_
  rintro e w1 ⟨rfl, hb⟩
  rw [HL.out]
  have hz : ∀ i v, (#[Value.int .i64 0, .int .i64 0, .int .i64 0, .int .i64 0, .int .i64 0, .int .i64 0, .int .u32 0, .string ⟨#[]⟩] : Array Value)[i]? = some v → w1.cell? ⟨w.heap.size, i, none⟩ = some v := fun i v h =>
    (hb.cell (p := ⟨w.heap.size, i, none⟩) (by simp; try omega)).trans (new_cell w _ 114 i v h)
  have hf : ∀ i, w1.frozen? ⟨w.heap.size, i, none⟩ = false := fun i =>
    (hb.frozen (p := ⟨w.heap.size, i, none⟩) (by simp; try omega)).trans (by simp)
  have z0 := hz 0 (.int .i64 0) rfl
  have z1 := hz 1 (.int .i64 0) rfl
  have z2 := hz 2 (.int .i64 0) rfl
  have z3 := hz 3 (.int .i64 0) rfl
  have z4 := hz 4 (.int .i64 0) rfl
  have z5 := hz 5 (.int .i64 0) rfl
  have z6 := hz 6 (.int .u32 0) rfl
  have z7 := hz 7 (.string ⟨#[]⟩) rfl
  clear hz
  have hb0 := ((Below.refl _ w).alloc (Nat.le_refl _) (.cells #[Value.int .i64 0, .int .i64 0, .int .i64 0, .int .i64 0, .int .i64 0, .int .i64 0, .int .u32 0, .string ⟨#[]⟩] 114)).trans (hb.mono (by simp))
  clear hb
  go_wp2
  exact bodyPost_ret (v := Rl.A8.val ⟨1, 0, 0, 0, 0, 0, 0, nmx⟩) (by simp [results, Tryz.results70, go_sem, Rl.A8.val, z0, z1, z2, z3, z4, z5, z6, z7]) rfl ⟨ret_val HV.out, ((((((((hb0).setCell (Nat.le_refl _) _).setCell (Nat.le_refl _) _).setCell (Nat.le_refl _) _).setCell (Nat.le_refl _) _).setCell (Nat.le_refl _) _).setCell (Nat.le_refl _) _).setCell (Nat.le_refl _) _).setCell (Nat.le_refl _) _⟩
/-- The world behind the answer's cells, a label that was asked or not, and the cut. -/
structure RX (w w3 : World) (ws : List ByteArray) (ad : Option Addr) : Prop where
  below : Below w.heap.size w w3
  lt : w.heap.size < w3.heap.size
  cell : ∀ i v, (#[Value.int .i64 0, .int .i64 0, .int .i64 0, .int .i64 0, .int .i64 0, .int .i64 0, .int .u32 0, .string ⟨#[]⟩] : Array Value)[i]? = some v → w3.cell? ⟨w.heap.size, i, none⟩ = some v
  free : ∀ i, w3.frozen? ⟨w.heap.size, i, none⟩ = false
  fl : Flds w3 ad ws
theorem RX.hop {w wr w2 : World} {ws : List ByteArray} {ad : Option Addr} (h : RX w wr ws ad) (hb : Below wr.heap.size wr w2) : RX w w2 ws ad :=
  ⟨h.below.trans (hb.mono h.below.size), Nat.lt_of_lt_of_le h.lt hb.size, fun i v e => (hb.cell (p := ⟨w.heap.size, i, none⟩) h.lt).trans (h.cell i v e), fun i => (hb.frozen (p := ⟨w.heap.size, i, none⟩) h.lt).trans (h.free i), h.fl.below hb⟩
theorem RX.res {w wr : World} {ws : List ByteArray} {ad : Option Addr} (h : RX w wr ws ad) : wr.cell? ⟨w.heap.size, 0, none⟩ = some (.int .i64 0) ∧ wr.cell? ⟨w.heap.size, 1, none⟩ = some (.int .i64 0) ∧ wr.cell? ⟨w.heap.size, 2, none⟩ = some (.int .i64 0) ∧ wr.cell? ⟨w.heap.size, 3, none⟩ = some (.int .i64 0) ∧ wr.cell? ⟨w.heap.size, 4, none⟩ = some (.int .i64 0) ∧ wr.cell? ⟨w.heap.size, 5, none⟩ = some (.int .i64 0) ∧ wr.cell? ⟨w.heap.size, 6, none⟩ = some (.int .u32 0) ∧ wr.cell? ⟨w.heap.size, 7, none⟩ = some (.string ⟨#[]⟩) ∧ (∀ i, wr.frozen? ⟨w.heap.size, i, none⟩ = false) ∧ Below w.heap.size w wr :=
  ⟨h.cell 0 _ rfl, h.cell 1 _ rfl, h.cell 2 _ rfl, h.cell 3 _ rfl, h.cell 4 _ rfl, h.cell 5 _ rfl, h.cell 6 _ rfl, h.cell 7 _ rfl, h.free, h.below⟩
theorem RX.mk' {w w1 w3 : World} {ws : List ByteArray} {ad : Option Addr} (hb : Below (w.alloc (.cells #[Value.int .i64 0, .int .i64 0, .int .i64 0, .int .i64 0, .int .i64 0, .int .i64 0, .int .u32 0, .string ⟨#[]⟩] 114)).heap.size (w.alloc (.cells #[Value.int .i64 0, .int .i64 0, .int .i64 0, .int .i64 0, .int .i64 0, .int .i64 0, .int .u32 0, .string ⟨#[]⟩] 114)) w1) (hb3 : Below w1.heap.size w1 w3) (hf : Flds w3 ad ws) : RX w w3 ws ad := by
  have hbb : Below (w.alloc (.cells #[Value.int .i64 0, .int .i64 0, .int .i64 0, .int .i64 0, .int .i64 0, .int .i64 0, .int .u32 0, .string ⟨#[]⟩] 114)).heap.size (w.alloc (.cells #[Value.int .i64 0, .int .i64 0, .int .i64 0, .int .i64 0, .int .i64 0, .int .i64 0, .int .u32 0, .string ⟨#[]⟩] 114)) w3 := hb.trans (hb3.mono hb.size)
  have hs := hbb.size
  exact ⟨((Below.refl _ w).alloc (Nat.le_refl _) _).trans (hbb.mono (by simp)), by simp at hs; omega, fun i v h => (hbb.cell (p := ⟨w.heap.size, i, none⟩) (by simp)).trans (new_cell w _ 114 i v h),
    fun i => (hbb.frozen (p := ⟨w.heap.size, i, none⟩) (by simp)).trans (by simp), hf⟩
set_option maxHeartbeats 2000000 in
theorem impl_rl_word_bad (s w0 : ByteArray) (r : List ByteArray) (n : Nat) (V : Value) (w : World) (h : s.size ≤ 80) (hM : TabM w) (HW : Hid (Sp.texts 32 s = w0 :: r)) (HN : Hid (n = (w0 :: r).length)) (hn80 : n ≤ 81) (hsh : Short (w0 :: r)) (hw0 : w0 = Rl.dotW) (nmx : ByteArray) (hnx : nmx.size ≤ 1048576) (HL : Hid (Lab.ok (Tx.nums nmx) = false)) (HC : Hid (∀ w, Calls Tryz.prog 97 #[.string s, .string ⟨#[58]⟩] w fun e w' => e = .returned (.tuple #[.string nmx, .bool true]) ∧ w' = w))
    (HV : Hid ((Rl.rdW r).val = V)) :
    Calls Tryz.prog 70 #[.string s] w fun e w' => e = .returned V ∧ Below w.heap.size w w' := by
  have HM : Hid _ := hM
  have HSH : Hid _ := hsh
  have hdw : (w0.toList == [46, 119, 111, 114, 100]) = true := by rw [hw0, dotW_list]; rfl
  clear hM hsh hw0
  go_enter Tryz.func70, Tryz.ntmps70
  go_wp2_with fail
  refine Calls.mono (HC.out _) ?_
  rintro e w1' ⟨rfl, rfl⟩
  go_wp2_with fail
  refine (impl_lab nmx _ hnx).mono ?_
  rintro e w1 ⟨rfl, hb⟩
  rw [HL.out]
  have hb01 := ((Below.refl _ w).alloc (Nat.le_refl _) (.cells #[Value.int .i64 0, .int .i64 0, .int .i64 0, .int .i64 0, .int .i64 0, .int .i64 0, .int .u32 0, .string ⟨#[]⟩] 114)).trans (hb.mono (by simp))
  have hn1 : 1 ≤ n := by rw [HN.out]; simp
  have hsl := slice1 (some ⟨w1.heap.size, 0, none⟩) n n hn1
  go_wp2_with fail
  refine (split_any 32 s (w0 :: r) _ (TabM.below HM.out hb01) (by omega) HW.out).mono ?_
  rintro e w3 ⟨rfl, hb3, hfl, hsz3⟩
  rw [← HN.out]
  have HX : Hid _ := RX.mk' hb hb3 hfl
  have hb03 := HX.out.below
  have hcx : w3.cell? ⟨w1.heap.size, 0, none⟩ = some (.string w0) := by
    obtain ⟨b', o', e', _, hc'⟩ := Flds.head hfl
    injection e' with e'
    injection e' with e1 e2
    subst e1 e2
    exact hc'
  have HRS : Hid (∀ X, Below w3.heap.size w3 X → Flds X (rest1 (some ⟨w1.heap.size, 0, none⟩) n) r) := fun X hX => Flds.rest (hfl.below hX) (by rw [← HN.out]; exact Nat.le_refl _)
  clear hfl hb3
  obtain ⟨⟨k1, o1, a1, b1, c1, m1, wd1, lab1⟩, hA⟩ : ∃ A, Rl.rdW r = A := ⟨_, rfl⟩
  have HI : Hid (∀ X, Below w3.heap.size w3 X → Calls Tryz.prog 99 #[.slice (rest1 (some ⟨w1.heap.size, 0, none⟩) n) (n - 1) (n - 1)] X fun e w' => e = .returned (.agg #[.int .i64 k1, .int .i64 o1, .int .i64 a1, .int .i64 b1, .int .i64 c1, .int .i64 m1, .int .u32 wd1, .string lab1]) ∧ Below X.heap.size X w') := fun X hX => by
    have := impl_rdw (n - 1) (n - 1) _ r X (by rw [HN.out]; rfl) (by omega) (HRS.out X hX) (Short.tail HSH.out)
    rw [hA] at this
    exact this
  have HV2 : Hid (Rl.A8.val ⟨k1, o1, a1, b1, c1, m1, wd1, lab1⟩ = V) := by show _ = _; rw [← HV.out, ← hA]
  clear hA
  go_wp2_with fail
  refine (HI.out _ (Below.refl _ _)).mono ?_
  rintro e w4 ⟨rfl, hb4⟩
  obtain ⟨y0, y1, y2, y3, y4, y5, y6, y7, yf, hb5⟩ := RX.res (RX.hop HX.out hb4)
  clear hb4 hcx
  go_wp2
  exact bodyPost_ret (v := Rl.A8.val ⟨k1, o1, a1, b1, c1, m1, wd1, lab1⟩) (by simp [results, Tryz.results70, go_sem, Rl.A8.val, y0, y1, y2, y3, y4, y5, y6, y7]) rfl ⟨ret_val HV2.out, ((((((((hb5).setCell (Nat.le_refl _) _).setCell (Nat.le_refl _) _).setCell (Nat.le_refl _) _).setCell (Nat.le_refl _) _).setCell (Nat.le_refl _) _).setCell (Nat.le_refl _) _).setCell (Nat.le_refl _) _).setCell (Nat.le_refl _) _⟩
set_option maxHeartbeats 4000000 in
theorem impl_rl_op_bad (s w0 : ByteArray) (r : List ByteArray) (n : Nat) (op : Int) (V : Value) (w : World) (h : s.size ≤ 80) (hM : TabM w) (hT : Tab w) (hTN : TabN w) (HW : Hid (Sp.texts 32 s = w0 :: r)) (HN : Hid (n = (w0 :: r).length)) (hn80 : n ≤ 81) (hsh : Short (w0 :: r)) (hw0 : w0 ≠ Rl.dotW) (nmx : ByteArray) (hnx : nmx.size ≤ 1048576) (HL : Hid (Lab.ok (Tx.nums nmx) = false)) (HC : Hid (∀ w, Calls Tryz.prog 97 #[.string s, .string ⟨#[58]⟩] w fun e w' => e = .returned (.tuple #[.string nmx, .bool true]) ∧ w' = w))
    (HO : Hid (∀ X, TabN X → Calls Tryz.prog 101 #[.string w0] X fun e w' => e = .returned (.int .i64 op) ∧ w' = X))
    (A : Rl.A8) (HI0 : Hid (∀ X ad, Tab X → Flds X ad r → Calls Tryz.prog 100 #[.int .i64 op, .slice ad (n - 1) (n - 1)] X fun e w' => e = .returned A.val ∧ Below X.heap.size X w'))
    (HV : Hid (A.val = V)) :
    Calls Tryz.prog 70 #[.string s] w fun e w' => e = .returned V ∧ Below w.heap.size w w' := by
  have HM : Hid _ := hM
  have HT : Hid _ := hT
  have HTN : Hid _ := hTN
  have HSH : Hid _ := hsh
  have hdw : (w0.toList == [46, 119, 111, 114, 100]) = false := by
    have := Tx.list_ne w0 Rl.dotW hw0
    rw [dotW_list] at this
    exact this
  clear hM hsh hw0 hT hTN
  go_enter Tryz.func70, Tryz.ntmps70
  go_wp2_with fail
  refine Calls.mono (HC.out _) ?_
  rintro e w1' ⟨rfl, rfl⟩
  go_wp2_with fail
  refine (impl_lab nmx _ hnx).mono ?_
  rintro e w1 ⟨rfl, hb⟩
  rw [HL.out]
  have hb01 := ((Below.refl _ w).alloc (Nat.le_refl _) (.cells #[Value.int .i64 0, .int .i64 0, .int .i64 0, .int .i64 0, .int .i64 0, .int .i64 0, .int .u32 0, .string ⟨#[]⟩] 114)).trans (hb.mono (by simp))
  have hn1 : 1 ≤ n := by rw [HN.out]; simp
  have hsl := slice1 (some ⟨w1.heap.size, 0, none⟩) n n hn1
  go_wp2_with fail
  refine (split_any 32 s (w0 :: r) _ (TabM.below HM.out hb01) (by omega) HW.out).mono ?_
  rintro e w3 ⟨rfl, hb3, hfl, hsz3⟩
  rw [← HN.out]
  have HX : Hid _ := RX.mk' hb hb3 hfl
  have hb03 := HX.out.below
  have hcx : w3.cell? ⟨w1.heap.size, 0, none⟩ = some (.string w0) := by
    obtain ⟨b', o', e', _, hc'⟩ := Flds.head hfl
    injection e' with e'
    injection e' with e1 e2
    subst e1 e2
    exact hc'
  have HRS : Hid (∀ X, Below w3.heap.size w3 X → Flds X (rest1 (some ⟨w1.heap.size, 0, none⟩) n) r) := fun X hX => Flds.rest (hfl.below hX) (by rw [← HN.out]; exact Nat.le_refl _)
  clear hfl hb3
  obtain ⟨k1, o1, a1, b1, c1, m1, wd1, lab1⟩ := A
  have HI : Hid (∀ X, Below w3.heap.size w3 X → Calls Tryz.prog 100 #[.int .i64 op, .slice (rest1 (some ⟨w1.heap.size, 0, none⟩) n) (n - 1) (n - 1)] X fun e w' => e = .returned (.agg #[.int .i64 k1, .int .i64 o1, .int .i64 a1, .int .i64 b1, .int .i64 c1, .int .i64 m1, .int .u32 wd1, .string lab1]) ∧ Below X.heap.size X w') := fun X hX =>
    HI0.out X _ (Tab.below HT.out (bhop hb03 hX)) (HRS.out X hX)
  have HOF : Hid (∀ X, Below w3.heap.size w3 X → Calls Tryz.prog 101 #[.string w0] X fun e w' => e = .returned (.int .i64 op) ∧ w' = X) := fun X hX => HO.out X (TabN.below HTN.out (bhop hb03 hX))
  go_wp2
  go_region_with (first | (go_at_call 101; refine Calls.mono (HOF.out _ (below_drewN (Below.refl _ _) _)) ?_; rintro e w' ⟨rfl, rfl⟩) | (go_at_call 100; refine Calls.mono (HI.out _ (below_drewN (Below.refl _ _) _)) ?_; rintro e w4 ⟨rfl, hb4⟩; obtain ⟨y0, y1, y2, y3, y4, y5, y6, y7, yf, hb5⟩ := RX.res (RX.hop (RX.hop HX.out (below_drewN (Below.refl _ _) _)) hb4); clear hb4))
  all_goals
    go_wp2
    exact bodyPost_ret (v := Rl.A8.val ⟨k1, o1, a1, b1, c1, m1, wd1, lab1⟩) (by simp [results, Tryz.results70, go_sem, Rl.A8.val, y0, y1, y2, y3, y4, y5, y6, y7]) rfl ⟨ret_val HV.out, ((((((((hb5).setCell (Nat.le_refl _) _).setCell (Nat.le_refl _) _).setCell (Nat.le_refl _) _).setCell (Nat.le_refl _) _).setCell (Nat.le_refl _) _).setCell (Nat.le_refl _) _).setCell (Nat.le_refl _) _).setCell (Nat.le_refl _) _⟩
end Go.Proofs.YtdjapcfejmhjnaaGreatDoor
