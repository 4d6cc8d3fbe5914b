/-
  What the specification's ReadLine returns, at every line: what the program's own returns; and that two answers that are alike are told alike. Condition: the line is at most 1048576 bytes long.
-/
import Derived.Test.YtdjapcfejmhjnaaGreatDoorSra
import Derived.Test.YtdjapcfejmhjnaaGreatDoorSrb
import Derived.Test.YtdjapcfejmhjnaaGreatDoorSrc
import Derived.Test.YtdjapcfejmhjnaaGreatDoorRdy
namespace Go.Proofs.YtdjapcfejmhjnaaGreatDoor
open Go.ChangeShapes Go.WideShapes Go.ChangeAt Go.RowKit Go.Deep
set_option linter.unusedVariables false
set_option maxRecDepth 20000

theorem sof_any (w0 : ByteArray) : (Rl.opN w0 = none ∧ ∀ X, Calls Tryz.prog 86 #[.string w0] X fun e w' => e = .returned (.int .i64 (-1)) ∧ Below X.heap.size X w') ∨
    ∃ k : Nat, k < 33 ∧ Rl.opN w0 = some k ∧ ∀ X, Calls Tryz.prog 86 #[.string w0] X fun e w' => e = .returned (.int .i64 k) ∧ Below X.heap.size X w' := by
  rcases up_or w0 33 with hn | ⟨t, ht, hs, hn⟩
  · exact .inl ⟨Rl.opN_miss w0 hn, fun X => spec_of_miss w0 X hn⟩
  · exact .inr ⟨t, ht, Rl.opN_hit w0 t ht hs hn, fun X => spec_of_hit w0 t X ht hs hn⟩
theorem not_dot (s : ByteArray) (h : Rl.colon s = true) : s ≠ Rl.dotW := by
  intro e
  subst e
  revert h
  decide +kernel
theorem no_colon : ∀ k : Fin 33, Rl.colon (nm k.val) = false := by decide +kernel
theorem not_op (s : ByteArray) (h : Rl.colon s = true) : Rl.opN s = none := by
  cases ho : Rl.opN s with
  | none => rfl
  | some k =>
    unfold Rl.opN at ho
    rw [List.find?_range_eq_some] at ho
    obtain ⟨h1, h2, _⟩ := ho
    have e : nm k = s := by
      have := beq_iff_eq.1 h1
      rw [ByteArray.toList_eq, ByteArray.toList_eq] at this
      exact ByteArray.ext (Array.toList_inj.1 this)
    have := no_colon ⟨k, by simpa using h2⟩
    simp only at this
    rw [e, h] at this
    cases this
/-- A word alone that ends in a colon and is no label is nothing. -/
theorem rd_colon (s : ByteArray) (r : List ByteArray) (h : Rl.colon s = true) : Rl.rd s r = Rl.no := by
  unfold Rl.rd
  rw [if_neg (not_dot s h), not_op s h]
theorem colon_small (s : ByteArray) (h : s.size ≤ 1) (hc : Rl.colon s = true) : Lab.ok (Tx.nums (Rl.ahead s)) = false := by
  apply Lab.ok_out
  rw [Tx.nums_len]
  unfold Rl.ahead
  rw [ByteArray.size_extract]
  omega
theorem low_byte : ∀ (l : List UInt8), Lab.low (l.map fun c => (c.toNat : Int)) = true → ∀ b ∈ l, b ≠ 32
  | [], _, b, hb => by cases hb
  | a :: l, h, b, hb => by
    simp only [List.map_cons, Lab.low, Bool.and_eq_true, decide_eq_true_eq] at h
    rcases List.mem_cons.1 hb with rfl | hb
    · intro e
      subst e
      exact absurd h.1.1 (by decide)
    · exact low_byte l h.2 b hb
theorem cut_none : ∀ (l : List UInt8), (∀ b ∈ l, b ≠ 32) → Sp.cut 32 l = [l]
  | [], _ => rfl
  | b :: l, h => by
    unfold Sp.cut
    rw [if_neg (h b (by simp)), cut_none l (fun x hx => h x (by simp [hx]))]
    rfl
/-- A label has one word. -/
theorem label_one (s : ByteArray) (hc : Rl.colon s = true) (hl : Lab.ok (Tx.nums (Rl.ahead s)) = true) : Sp.texts 32 s = [s] := by
  have hlow : Lab.low (Tx.nums (Rl.ahead s)) = true := by
    unfold Lab.ok at hl
    rw [Bool.and_eq_true] at hl
    exact hl.2
  have hall : ∀ b ∈ s.data.toList, b ≠ 32 := by
    unfold Rl.colon at hc
    rw [beq_iff_eq] at hc
    obtain ⟨t, ht⟩ := List.getLast?_eq_some_iff.1 hc
    have ha : (Rl.ahead s).data.toList = t := by
      unfold Rl.ahead
      rw [Lib.extract_from_zero, ht]
      have : s.size = t.length + 1 := by
        have hz : s.data.toList.length = s.size := rfl
        rw [← hz, ht]
        simp
      rw [this]
      simp
    rw [ht]
    intro b hb
    rcases List.mem_append.1 hb with hb | hb
    · refine low_byte t ?_ b hb
      rw [← ha]
      exact hlow
    · simp only [List.mem_singleton] at hb
      subst hb
      decide
  unfold Sp.texts
  rw [cut_none _ hall]
  rfl
theorem spec_rd (s w0 : ByteArray) (r : List ByteArray) (w : World) (h80 : s.size ≤ 80) (hs : s.size ≤ 1048576) (hw : Sp.texts 32 s = w0 :: r) (hsh : Short (w0 :: r)) (hn80 : (w0 :: r).length ≤ 81)
    (hc : r = [] → (s.size ≤ 1 ∨ (1 < s.size ∧ Rl.colon s = false))) :
    Calls Tryz.prog 58 #[.string s] w fun e w' => e = .returned (Rl.rd w0 r).val ∧ Below w.heap.size w w' := by
  have hw0s : r = [] → w0 = s := fun e => Sp.texts_one 32 s w0 (by rw [hw, e])
  by_cases hd : w0 = Rl.dotW
  · have e : Rl.rd w0 r = Rl.rdW r := by unfold Rl.rd; rw [if_pos hd]
    rw [e]
    match r, hw, hsh, hn80, hc, hw0s with
    | [], hw, hsh, hn80, hc, hw0s =>
      rcases hc rfl with h1 | ⟨h1, h2⟩
      · exact spec_rl_word_b s w0 [] 1 _ w h80 hs hw rfl (by omega) hsh hd rfl h1 (hw0s rfl) (by omega) rfl
      · exact spec_rl_word_c s w0 [] 1 _ w h80 hs hw rfl (by omega) hsh hd rfl h1 h2 (hw0s rfl) (by omega) rfl
    | [x1], hw, hsh, hn80, hc, hw0s => exact spec_rl_dot s w0 x1 _ w h80 hs hw hsh hd rfl
    | x1 :: x2 :: r', hw, hsh, hn80, hc, hw0s => exact spec_rl_word_a s w0 _ _ _ w h80 hs hw rfl hn80 hsh hd (by simp) (by simp) rfl
  · rcases sof_any w0 with ⟨ho, HO⟩ | ⟨k, hk, ho, HO⟩
    · have e : Rl.rd w0 r = Rl.no := by unfold Rl.rd; rw [if_neg hd, ho]
      rw [e]
      match r, hw, hsh, hn80, hc, hw0s with
      | [], hw, hsh, hn80, hc, hw0s =>
        rcases hc rfl with h1 | ⟨h1, h2⟩
        · exact spec_rl_noop_b s w0 [] 1 _ w h80 hs hw rfl (by omega) hsh hd rfl h1 (hw0s rfl) HO rfl
        · exact spec_rl_noop_c s w0 [] 1 _ w h80 hs hw rfl (by omega) hsh hd rfl h1 h2 (hw0s rfl) HO rfl
      | x1 :: r', hw, hsh, hn80, hc, hw0s => exact spec_rl_noop_a s w0 _ _ _ w h80 hs hw rfl hn80 hsh hd (by simp) HO rfl
    · have e : Rl.rd w0 r = Rl.rdI k r := by unfold Rl.rd; rw [if_neg hd, ho]
      rw [e]
      have hb := form_lt ⟨k, hk⟩
      match r, hw, hsh, hn80, hc, hw0s with
      | [], hw, hsh, hn80, hc, hw0s =>
        rcases hc rfl with h1 | ⟨h1, h2⟩
        · exact spec_rl_op_b s w0 [] 1 k _ _ _ _ _ _ w h80 hs hw rfl (by omega) hsh hd rfl h1 (hw0s rfl) hk hb.1 hb.2 rfl HO rfl rfl rfl rfl rfl
        · exact spec_rl_op_c s w0 [] 1 k _ _ _ _ _ _ w h80 hs hw rfl (by omega) hsh hd rfl h1 h2 (hw0s rfl) hk hb.1 hb.2 rfl HO rfl rfl rfl rfl rfl
      | x1 :: r', hw, hsh, hn80, hc, hw0s => exact spec_rl_op_a s w0 _ _ k _ _ _ _ _ _ w h80 hs hw rfl hn80 hsh hd (by simp) hk hb.1 hb.2 rfl HO rfl rfl rfl rfl rfl
theorem spec_rl (s : ByteArray) (w : World) (hs : s.size ≤ 1048576) :
    Calls Tryz.prog 58 #[.string s] w fun e w' => e = .returned (Rl.line s).val ∧ Below w.heap.size w w' := by
  by_cases h80 : 80 < s.size
  · have e : Rl.line s = Rl.no := by unfold Rl.line; rw [if_pos h80]
    rw [e]
    exact spec_rl_long s w hs h80
  · have h80' : s.size ≤ 80 := by omega
    obtain ⟨w0, r, hw⟩ := Sp.texts_cons 32 s
    have hsh : Short (w0 :: r) := fun x hx => by
      have := Sp.texts_short 32 s x (by rw [hw]; exact hx)
      omega
    have hn80 : (w0 :: r).length ≤ 81 := by
      have := Sp.texts_many 32 s
      rw [hw] at this
      omega
    by_cases hc : (Rl.colon s && Lab.ok (Tx.nums (Rl.ahead s))) = true
    · have e : Rl.line s = ⟨1, 0, 0, 0, 0, 0, 0, Rl.ahead s⟩ := by unfold Rl.line; rw [if_neg h80, if_pos hc]
      rw [Bool.and_eq_true] at hc
      rw [e]
      have h1 : 1 < s.size := by
        rcases Nat.lt_or_ge 1 s.size with h | h
        · exact h
        · rw [colon_small s h hc.1] at hc
          cases hc.2
      exact spec_rl_label s true _ w h1 h80' hs (label_one s hc.1 hc.2) hc.1 hc.2 rfl
    · have e : Rl.line s = Rl.rd w0 r := by unfold Rl.line; rw [if_neg h80, if_neg hc, hw]
      rw [e]
      by_cases hx : r = [] ∧ 1 < s.size ∧ Rl.colon s = true
      · obtain ⟨rfl, h1, h2⟩ := hx
        have hw0 := Sp.texts_one 32 s w0 hw
        subst hw0
        rw [rd_colon w0 [] h2]
        have hl : Lab.ok (Tx.nums (Rl.ahead w0)) = false := by rw [h2] at hc; simpa using hc
        exact spec_rl_label w0 false _ w h1 h80' hs hw h2 hl rfl
      · refine spec_rd s w0 r w h80' hs hw hsh hn80 (fun hr => ?_)
        rcases Nat.lt_or_ge 1 s.size with h | h
        · refine .inr ⟨h, ?_⟩
          cases hcc : Rl.colon s with
          | false => rfl
          | true => exact absurd ⟨hr, h, hcc⟩ hx
        · exact .inl h
end Go.Proofs.YtdjapcfejmhjnaaGreatDoor
