/-
  What isLined and linesOf return. Condition: the text is at most 1048576 bytes long.
-/
import Derived.Test.YtdjapcfejmhjnaaGreatDoorCnt
import Derived.Test.YtdjapcfejmhjnaaGreatDoorAmx
namespace Go.Proofs.YtdjapcfejmhjnaaGreatDoor
open Go.ChangeShapes Go.WideShapes Go.ChangeAt Go.RowKit Go.Deep
set_option linter.unusedVariables false
set_option maxRecDepth 20000

namespace Ln
theorem suf_nl (l : List UInt8) : Lib.hasSuffix l [10] = (l.getLast? == some 10) := by
  unfold Lib.hasSuffix
  rw [Bool.eq_iff_iff, List.isSuffixOf_iff_suffix, beq_iff_eq]
  constructor
  · rintro ⟨t, rfl⟩
    simp
  · intro h
    obtain ⟨t, rfl⟩ := List.getLast?_eq_some_iff.1 h
    exact ⟨t, rfl⟩
theorem cut_count (c : UInt8) : ∀ l : List UInt8, (Sp.cut c l).length = l.count c + 1
  | [] => by simp [Sp.cut]
  | b :: l => by
    have ih := cut_count c l
    unfold Sp.cut
    by_cases h : b = c
    · rw [if_pos h, h]
      simp [ih]
    · rw [if_neg h]
      rw [List.count_cons_of_ne (by simpa using h)]
      cases hq : Sp.cut c l with
      | nil => rw [hq] at ih; simp at ih
      | cons y r => rw [hq] at ih; simpa [Sp.glue] using ih
theorem pieces_count (s : ByteArray) : (pieces s).length = Lib.countByte s.data.toList 10 := by
  unfold pieces Lib.countByte
  rw [List.length_map, List.length_dropLast, cut_count]
  omega
end Ln
set_option maxHeartbeats 400000 in
theorem impl_lined (s : ByteArray) (w : World) (hs : s.size ≤ 1048576) : Calls Tryz.prog 45 #[.string s] w fun e w' => e = .returned (.bool (Ln.ok s)) ∧ w' = w := by
  have hpc := Ln.pieces_count s
  by_cases h1 : 20000 < s.size
  · have HE : Hid (false = Ln.ok s) := by
      show _ = _
      unfold Ln.ok
      rw [decide_eq_false (by omega : ¬ s.size ≤ 20000)]
      rfl
    have h1' : (20000 : Int) < (s.size : Int) := by omega
    clear hpc
    go_enter Tryz.func45, Tryz.ntmps45
    go_wp2
    go_ret
    exact ⟨by rw [← HE.out]; rfl, rfl⟩
  · have h1' : ¬ (20000 : Int) < (s.size : Int) := by omega
    have HC : Hid (∀ X, Calls Tryz.prog 67 #[.string s, .string ⟨#[10]⟩] X fun e w' => e = .returned (.int .i64 ((Ln.pieces s).length : Nat)) ∧ w' = X) := by
      show ∀ X, _
      intro X
      rw [hpc]
      exact Tryz.strings_Count_one s 10 X
    have HO : Hid (Ln.ok s = ((decide (s.size = 0) || s.data.toList.getLast? == some 10) && decide ((Ln.pieces s).length ≤ 600))) := by
      show _ = _
      unfold Ln.ok
      rw [decide_eq_true (by omega : s.size ≤ 20000)]
      rfl
    clear hpc
    generalize (Ln.pieces s).length = n at HC HO
    by_cases h2 : 600 < n
    · have h2' : (600 : Int) < (n : Int) := by omega
      have HE : Hid (false = Ln.ok s) := by
        show _ = _
        rw [HO.out, decide_eq_false (by omega : ¬ n ≤ 600), Bool.and_false]
      go_enter Tryz.func45, Tryz.ntmps45
      go_wp2_with fail
      refine (HC.out _).mono ?_
      rintro e w1 ⟨rfl, rfl⟩
      go_wp2
      go_ret
      exact ⟨by rw [← HE.out]; rfl, rfl⟩
    · have h2' : ¬ (600 : Int) < (n : Int) := by omega
      have HO2 : Hid (Ln.ok s = (decide (s.size = 0) || s.data.toList.getLast? == some 10)) := by
        show _ = _
        rw [HO.out, decide_eq_true (by omega : n ≤ 600), Bool.and_true]
      by_cases h0 : s.size = 0
      · have he : s = ⟨#[]⟩ := by
          apply ByteArray.ext
          apply Array.eq_empty_of_size_eq_zero
          exact h0
        have HE : Hid (true = Ln.ok s) := by
          show _ = _
          rw [HO2.out, decide_eq_true h0]
          rfl
        have hq : s.toList = [] := by rw [he]; simp [go_sem]
        have hq' : s.toList.isEmpty = true := by rw [hq]; rfl
        clear he h0
        go_enter Tryz.func45, Tryz.ntmps45
        go_wp2_with fail
        refine (HC.out _).mono ?_
        rintro e w1 ⟨rfl, rfl⟩
        go_wp2
        go_ret
        exact ⟨by rw [← HE.out]; rfl, rfl⟩
      · have HE : Hid ((s.data.toList.getLast? == some 10) = Ln.ok s) := by
          show _ = _
          rw [HO2.out, decide_eq_false h0]
          rfl
        have HF : Hid (∀ X, Calls Tryz.prog 68 #[.string s, .string ⟨#[10]⟩] X fun e w' => e = .returned (.bool (s.data.toList.getLast? == some 10)) ∧ w' = X) := by
          show ∀ X, _
          intro X
          rw [← Ln.suf_nl]
          exact Tryz.strings_HasSuffix s ⟨#[10]⟩ X (by omega)
        have hq : ¬ s.toList = [] := by
          intro e
          have h := Tx.list_ne s ⟨#[]⟩ (fun e => h0 (by rw [e]; rfl))
          rw [e] at h
          simp [go_sem] at h
        have hq' : s.toList.isEmpty = false := by simpa using hq
        clear h0
        generalize (s.data.toList.getLast? == some 10) = q at HE HF
        go_enter Tryz.func45, Tryz.ntmps45
        go_wp2_with fail
        refine (HC.out _).mono ?_
        rintro e w1 ⟨rfl, rfl⟩
        go_wp2_with fail
        refine (HF.out _).mono ?_
        rintro e w1 ⟨rfl, rfl⟩
        go_wp2
        go_ret
        exact ⟨by rw [← HE.out]; rfl, rfl⟩
set_option maxHeartbeats 400000 in
theorem impl_lines (s : ByteArray) (ws : List ByteArray) (n : Nat) (w : World) (hs : s.size ≤ 1048576) (hM : TabM w) (HW : Hid (Ln.pieces s = ws)) (HN : Hid (n = ws.length)) : Calls Tryz.prog 69 #[.string s] w fun e w' => e = .returned (.slice (some ⟨w.heap.size, 0, none⟩) n (n + 1)) ∧ Below w.heap.size w w' ∧ FldB w' w.heap.size (some ⟨w.heap.size, 0, none⟩) ws ∧ w'.heap.size = w.heap.size + 1 := by
  obtain ⟨x, hx⟩ : ∃ x, Sp.texts 10 s = ws ++ [x] := by
    have hne := Sp.cut_ne 10 s.data.toList
    refine ⟨⟨((Sp.cut 10 s.data.toList).getLast hne).toArray⟩, ?_⟩
    rw [← HW.out]
    unfold Sp.texts Ln.pieces
    conv => lhs; rw [← List.dropLast_concat_getLast hne]
    rw [List.map_append]
    rfl
  have HX : Hid _ := hx
  clear hx
  have hn : n ≤ 1048576 := by
    have := Ln.pieces_many s
    rw [HW.out, ← HN.out] at this
    omega
  have HL : Hid ((ws ++ [x]).length = n + 1) := by show _ = _; rw [HN.out]; simp
  have hwr : IntKind.i64.wrap (((n + 1 : Nat) : Int) - 1) = (n : Int) := by rw [IntKind.wrap_i64]; omega
  go_enter Tryz.func69, Tryz.ntmps69
  go_wp2_with fail
  refine (split_any 10 s (ws ++ [x]) _ hM hs HX.out).mono ?_
  rintro e w1 ⟨rfl, hb, hf, hz⟩
  rw [HL.out]
  have HF : Hid _ := hf
  clear hf
  go_wp2
  go_ret
  refine ⟨rfl, hb, fun h0 => ?_, hz⟩
  obtain ⟨b, off, e, hlt, hc⟩ := HF.out (by simp)
  cases e
  exact ⟨hlt, 0, rfl, fun i y hi => hc i y (by rw [List.getElem?_append_left (by rcases Nat.lt_or_ge i ws.length with h | h; exact h; rw [List.getElem?_eq_none h] at hi; cases hi)]; exact hi)⟩
end Go.Proofs.YtdjapcfejmhjnaaGreatDoor
