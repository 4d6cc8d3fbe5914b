/-
  What the specification's l01Lines returns: the lines of a text, and whether it is lined. Condition: the text is at most 1048576 bytes long.
-/
import Derived.Test.YtdjapcfejmhjnaaGreatDoorSrl
namespace Go.Proofs.YtdjapcfejmhjnaaGreatDoor
open Go.ChangeShapes Go.WideShapes Go.ChangeAt Go.RowKit Go.Deep
set_option linter.unusedVariables false
set_option maxRecDepth 20000

namespace Ln
/-- What stands ahead of each newline. -/
def pieces (s : ByteArray) : List ByteArray := ((Sp.cut 10 s.data.toList).dropLast).map Sp.mk
/-- Whether a text is lined. -/
def ok (s : ByteArray) : Bool := decide (s.size ≤ 20000) && ((decide (s.size = 0) || s.data.toList.getLast? == some 10) && decide ((pieces s).length ≤ 600))
theorem last_nl (s : ByteArray) (h : 1 ≤ s.size) : (s.data.toList.getLast? == some 10) = ((s[s.size - 1].toNat : Int) == 10) := by
  have hz : s.data.toList.length = s.size := rfl
  have e : s.data.toList.getLast? = some s[s.size - 1] := by
    rw [List.getLast?_eq_getElem?, List.getElem?_eq_getElem (by omega)]
    rfl
  rw [e, Bool.eq_iff_iff]
  simp only [beq_iff_eq, Option.some.injEq]
  constructor
  · intro h; rw [h]; rfl
  · intro h
    rw [← UInt8.toNat_inj]
    simpa using (by omega : s[s.size - 1].toNat = 10)
theorem pieces_many (s : ByteArray) : (pieces s).length ≤ s.size := by
  unfold pieces
  rw [List.length_map, List.length_dropLast]
  have := Sp.cut_many 10 s.data.toList
  have hz : s.data.toList.length = s.size := rfl
  omega
theorem pieces_short (s : ByteArray) : ∀ x ∈ pieces s, x.size ≤ s.size := by
  intro x hx
  unfold pieces at hx
  rw [List.mem_map] at hx
  obtain ⟨l, hl, rfl⟩ := hx
  have := Sp.cut_short 10 _ l ((List.dropLast_sublist _).subset hl)
  show l.toArray.size ≤ _
  rw [List.size_toArray]
  exact this
end Ln
/-- Texts that lie in a block from 'lo' on. -/
def FldL (w : World) (lo : Nat) (a : Option Addr) (ws : List ByteArray) : Prop := Flds w a ws ∧ ∀ b off, a = some ⟨b, off, none⟩ → lo ≤ b
set_option maxHeartbeats 400000 in
theorem spec_lines_long (s : ByteArray) (w : World) (hs : s.size ≤ 1048576) (h : 20000 < s.size) :
    Calls Tryz.prog 57 #[.string s] w fun e w' => e = .returned (.tuple #[.slice (some ⟨w.heap.size, 0, none⟩) 0 0, .bool false]) ∧ Below w.heap.size w w' := by
  go_enter Tryz.func57, Tryz.ntmps57
  go_wp2
  go_ret2
  exact ⟨rfl, (Below.refl _ _).alloc (Nat.le_refl _) _⟩
set_option maxHeartbeats 400000 in
theorem spec_lines_open (s : ByteArray) (w : World) (h0 : 1 ≤ s.size) (h : s.size ≤ 20000) (hl : (s.data.toList.getLast? == some 10) = false) :
    Calls Tryz.prog 57 #[.string s] w fun e w' => e = .returned (.tuple #[.slice (some ⟨w.heap.size, 0, none⟩) 0 0, .bool false]) ∧ Below w.heap.size w w' := by
  rw [Ln.last_nl s h0] at hl
  have hl2 : ((s[s.size - 1].toNat : Int) != 10) = true := by rw [bne, hl]; rfl
  have hwr : IntKind.i64.wrap ((s.size : Int) - 1) = ((s.size - 1 : Nat) : Int) := wrap_pred s.size (by omega) (by omega)
  have hlt1 : s.size - 1 < s.size := by omega
  go_enter Tryz.func57, Tryz.ntmps57
  go_wp2
  go_ret2
  exact ⟨rfl, (Below.refl _ _).alloc (Nat.le_refl _) _⟩
set_option maxHeartbeats 2000000 in
theorem spec_lines_main (s : ByteArray) (nn : Nat) (qq : Bool) (w : World) (h : s.size ≤ 20000) (h0 : 1 ≤ s.size) (hl : (s.data.toList.getLast? == some 10) = true)
    (HNQ : Hid (((Ln.pieces s).length ≤ 600 → nn = (Ln.pieces s).length ∧ qq = true) ∧ (¬ (Ln.pieces s).length ≤ 600 → nn = 0 ∧ qq = false))) :
    Calls Tryz.prog 57 #[.string s] w fun e w' => ∃ a cap, e = .returned (.tuple #[.slice a nn cap, .bool qq]) ∧ ((Ln.pieces s).length ≤ 600 → FldL w' w.heap.size a (Ln.pieces s)) ∧ Below w.heap.size w w' := by
  obtain ⟨i9, hi9, hz9, hs9, hb9⟩ := info9'
  have HI : Hid _ := And.intro hi9 (And.intro hz9 (And.intro hs9 hb9))
  clear hi9 hz9 hs9 hb9
  have hzz : s.data.toList.length = s.size := rfl
  have HZ : Hid _ := hzz
  clear hzz
  rw [Ln.last_nl s h0] at hl
  have hlast : ((s[s.size - 1].toNat : Int) != 10) = false := by rw [bne, hl]; rfl
  clear hl
  have hd0 : decide (0 < (s.size : Int)) = true := decide_eq_true (by omega)
  have hwr : IntKind.i64.wrap ((s.size : Int) - 1) = ((s.size - 1 : Nat) : Int) := wrap_pred s.size (by omega) (by omega)
  have hlt1 : s.size - 1 < s.size := by omega
  go_enter Tryz.func57, Tryz.ntmps57
  go_wp2
  go_loopw [4, 5, 6] (fun v fr i wr => ∃ (k f : Nat) (done : List (List UInt8)), k ≤ s.size ∧ f ≤ k ∧ fr = .int .i64 f ∧ i = .int .i64 k ∧ done.length ≤ k ∧ Hid (OwnS wr w.heap.size v (done.map Sp.mk) ∧ Below w.heap.size w wr ∧ Sp.At 10 s.data.toList k f done)) (fun _ _ i _ => s.size - (intOf i).toNat)
  case atStart => exact ⟨0, 0, [], by omega, by omega, rfl, rfl, by simp, OwnS.nil w, (Below.refl _ _).alloc (Nat.le_refl _) _, Sp.at_start _ _⟩
  case round =>
    obtain ⟨k, f, done, hk, hf, rfl, rfl, hd, HR⟩ := hrel
    by_cases hlt : k < s.size
    · have hlt' : (k : Int) < (s.size : Int) := by omega
      by_cases hc : s[k] = 10
      · have hc' : ((s[k].toNat : Int) == 10) = true := by rw [hc]; rfl
        have HA : Hid _ := Sp.at_hit HR.out.2.2 (by rw [HZ.out]; exact hlt) hc
        have hown := HR.out.1
        have HN : Hid _ := And.intro HR.out.1 HR.out.2.1
        have HT : Hid _ := Sp.mk_extract s f k
        have HL : Hid ((done.map Sp.mk).length = done.length) := List.length_map ..
        have hdl : (done.map Sp.mk).length ≤ 1048576 := by rw [HL.out]; omega
        clear hc
        go_wp2_with (at_builtin; refine wpList_append_lies _ rfl (.tmp 35) (.tmp 40) 65 rfl w.heap.size 9 i9 (.string ⟨#[]⟩) 1 16 Tryz.underlying65 HI.out.1 HI.out.2.1 HI.out.2.2.1 HI.out.2.2.2 rfl (by omega) _ _ _ rfl (World.ownsRow.alloc hown _) _ 1 1 [.string (s.extract f k)] rfl rfl (newsS _ _) (oneS _) (by omega) (by unfold maxLen; omega) (by omega) (by have := HN.out.2.size; simp; omega) _ rfl ?_; intro g cap1 w1 hown1 hgrow hat hlt1)
        go_wp2
        go_roundw
        case rel =>
          refine ⟨k + 1, k + 1, _, by omega, by omega, by go_num, by go_num, ?_, ?_, ?_, HA⟩
          · simp; omega
          · rw [List.map_append, List.map_cons, List.map_nil, HT.out]
            have h3 := OwnS.snoc hown1
            rw [HL.out] at h3
            exact h3
          · exact (HN.out.2.alloc HN.out.2.size _).grown hgrow (by have := HN.out.2.size; simp; omega) (OwnS.block HN.out.1)
        case measure => simp [intOf]; omega
      · have hc' : ((s[k].toNat : Int) == 10) = false := by
          rw [beq_eq_false_iff_ne]
          intro e
          apply hc
          rw [← UInt8.toNat_inj]
          simpa using (by omega : s[k].toNat = 10)
        have HA : Hid _ := Sp.at_miss HR.out.2.2 (by rw [HZ.out]; exact hlt) hc
        clear hc
        go_wp2
        go_roundw
        case rel => exact ⟨k + 1, f, done, by omega, by omega, rfl, by go_num, by omega, HR.out.1, HR.out.2.1, HA⟩
        case measure => simp [intOf]; omega
    · obtain rfl : k = s.size := by omega
      have HE : Hid (Ln.pieces s = done.map Sp.mk) := by
        show _ = _
        have := Sp.at_end (show Sp.At 10 s.data.toList s.data.toList.length f done from HR.out.2.2)
        unfold Ln.pieces
        rw [this, List.dropLast_concat]
      have HL : Hid ((Ln.pieces s).length = done.length) := by show _ = _; rw [HE.out, List.length_map]
      obtain ⟨ad, cp, hv, hcp, hfl⟩ := OwnS.flds HR.out.1
      have hbw := HR.out.2.1
      have hlo := OwnS.block HR.out.1
      rw [List.length_map] at hv
      subst hv
      by_cases h6 : done.length ≤ 600
      · have h6' : ¬ 600 < (done.length : Int) := by omega
        obtain ⟨e1, e2⟩ := HNQ.out.1 (by rw [HL.out]; exact h6)
        have HE1 : Hid _ := e1
        have HE2 : Hid _ := e2
        have HF : Hid (FldL _ w.heap.size ad (done.map Sp.mk)) := And.intro hfl (fun b off e => hlo b (by rw [e]; rfl))
        clear hfl e1 e2 hlo
        go_wp2
        go_ret2
        exact ⟨ad, ⟨cp, by rw [HE1.out, HE2.out, HL.out]; rfl⟩, fun _ => by rw [HE.out]; exact HF.out, hbw⟩
      · have h6' : 600 < (done.length : Int) := by omega
        obtain ⟨e1, e2⟩ := HNQ.out.2 (by rw [HL.out]; exact h6)
        have HE1 : Hid _ := e1
        have HE2 : Hid _ := e2
        clear hfl e1 e2 hlo
        go_wp2
        go_ret2
        exact ⟨_, _, by rw [HE1.out, HE2.out]; rfl, fun (h : (Ln.pieces s).length ≤ 600) => absurd h (by rw [HL.out]; exact h6), hbw.alloc hbw.size _⟩
set_option maxHeartbeats 2000000 in
theorem spec_lines_empty (s : ByteArray) (nn : Nat) (qq : Bool) (w : World) (h : s.size ≤ 20000) (h0 : s.size = 0)
    (HNQ : Hid (((Ln.pieces s).length ≤ 600 → nn = (Ln.pieces s).length ∧ qq = true) ∧ (¬ (Ln.pieces s).length ≤ 600 → nn = 0 ∧ qq = false))) :
    Calls Tryz.prog 57 #[.string s] w fun e w' => ∃ a cap, e = .returned (.tuple #[.slice a nn cap, .bool qq]) ∧ ((Ln.pieces s).length ≤ 600 → FldL w' w.heap.size a (Ln.pieces s)) ∧ Below w.heap.size w w' := by
  obtain ⟨i9, hi9, hz9, hs9, hb9⟩ := info9'
  have HI : Hid _ := And.intro hi9 (And.intro hz9 (And.intro hs9 hb9))
  clear hi9 hz9 hs9 hb9
  have hzz : s.data.toList.length = s.size := rfl
  have HZ : Hid _ := hzz
  clear hzz
  have hd0 : decide (0 < (s.size : Int)) = false := decide_eq_false (by omega)
  go_enter Tryz.func57, Tryz.ntmps57
  go_wp2
  go_loopw [4, 5, 6] (fun v fr i wr => ∃ (k f : Nat) (done : List (List UInt8)), k ≤ s.size ∧ f ≤ k ∧ fr = .int .i64 f ∧ i = .int .i64 k ∧ done.length ≤ k ∧ Hid (OwnS wr w.heap.size v (done.map Sp.mk) ∧ Below w.heap.size w wr ∧ Sp.At 10 s.data.toList k f done)) (fun _ _ i _ => s.size - (intOf i).toNat)
  case atStart => exact ⟨0, 0, [], by omega, by omega, rfl, rfl, by simp, OwnS.nil w, (Below.refl _ _).alloc (Nat.le_refl _) _, Sp.at_start _ _⟩
  case round =>
    obtain ⟨k, f, done, hk, hf, rfl, rfl, hd, HR⟩ := hrel
    by_cases hlt : k < s.size
    · exact absurd hlt (by omega)
    · obtain rfl : k = s.size := by omega
      have HE : Hid (Ln.pieces s = done.map Sp.mk) := by
        show _ = _
        have := Sp.at_end (show Sp.At 10 s.data.toList s.data.toList.length f done from HR.out.2.2)
        unfold Ln.pieces
        rw [this, List.dropLast_concat]
      have HL : Hid ((Ln.pieces s).length = done.length) := by show _ = _; rw [HE.out, List.length_map]
      obtain ⟨ad, cp, hv, hcp, hfl⟩ := OwnS.flds HR.out.1
      have hbw := HR.out.2.1
      have hlo := OwnS.block HR.out.1
      rw [List.length_map] at hv
      subst hv
      by_cases h6 : done.length ≤ 600
      · have h6' : ¬ 600 < (done.length : Int) := by omega
        obtain ⟨e1, e2⟩ := HNQ.out.1 (by rw [HL.out]; exact h6)
        have HE1 : Hid _ := e1
        have HE2 : Hid _ := e2
        have HF : Hid (FldL _ w.heap.size ad (done.map Sp.mk)) := And.intro hfl (fun b off e => hlo b (by rw [e]; rfl))
        clear hfl e1 e2 hlo
        go_wp2
        go_ret2
        exact ⟨ad, ⟨cp, by rw [HE1.out, HE2.out, HL.out]; rfl⟩, fun _ => by rw [HE.out]; exact HF.out, hbw⟩
      · exact absurd hd (by omega)
/-- What l01Lines answers. -/
theorem spec_lines (s : ByteArray) (w : World) (hs : s.size ≤ 1048576) :
    Calls Tryz.prog 57 #[.string s] w fun e w' => ∃ a cap, e = .returned (.tuple #[.slice a (if Ln.ok s then (Ln.pieces s).length else 0) cap, .bool (Ln.ok s)]) ∧ (Ln.ok s = true → FldL w' w.heap.size a (Ln.pieces s)) ∧ Below w.heap.size w w' := by
  by_cases h : s.size ≤ 20000
  · by_cases hl : 1 ≤ s.size → (s.data.toList.getLast? == some 10) = true
    · have e : Ln.ok s = decide ((Ln.pieces s).length ≤ 600) := by
        unfold Ln.ok
        rw [decide_eq_true h]
        by_cases h0 : s.size = 0
        · simp [h0]
        · rw [hl (by omega)]
          simp
      have hq : Hid (((Ln.pieces s).length ≤ 600 → (if Ln.ok s then (Ln.pieces s).length else 0) = (Ln.pieces s).length ∧ Ln.ok s = true) ∧ (¬ (Ln.pieces s).length ≤ 600 → (if Ln.ok s then (Ln.pieces s).length else 0) = 0 ∧ Ln.ok s = false)) := by
        show _ ∧ _
        rw [e]
        constructor
        · intro h6; simp [h6]
        · intro h6; simp [h6]
      have fin : ∀ (e' : Ending) (w' : World), (∃ a cap, e' = Ending.returned (.tuple #[.slice a (if Ln.ok s then (Ln.pieces s).length else 0) cap, .bool (Ln.ok s)]) ∧ ((Ln.pieces s).length ≤ 600 → FldL w' w.heap.size a (Ln.pieces s)) ∧ Below w.heap.size w w') → _ := fun e' w' ⟨a, cap, h0, h1, h2⟩ => (⟨a, cap, h0, fun hh => h1 (by rw [e] at hh; exact of_decide_eq_true hh), h2⟩ : ∃ a cap, e' = Ending.returned (.tuple #[.slice a (if Ln.ok s then (Ln.pieces s).length else 0) cap, .bool (Ln.ok s)]) ∧ (Ln.ok s = true → FldL w' w.heap.size a (Ln.pieces s)) ∧ Below w.heap.size w w')
      by_cases h0 : s.size = 0
      · exact (spec_lines_empty s _ _ w h h0 hq).mono fin
      · exact (spec_lines_main s _ _ w h (by omega) (hl (by omega)) hq).mono fin
    · have h0 : 1 ≤ s.size := by
        rcases Nat.lt_or_ge 0 s.size with h0 | h0
        · exact h0
        · exact absurd (fun h1 => absurd h1 (by omega)) hl
      have hl2 : (s.data.toList.getLast? == some 10) = false := by
        cases hc : (s.data.toList.getLast? == some 10) with
        | false => rfl
        | true => exact absurd (fun _ => hc) hl
      have e : Ln.ok s = false := by
        unfold Ln.ok
        rw [hl2, decide_eq_false (by omega : ¬ s.size = 0)]
        simp
      refine (spec_lines_open s w h0 h hl2).mono ?_
      rintro e' w' ⟨rfl, h2⟩
      rw [e]
      exact ⟨_, _, rfl, (fun hh => by cases hh), h2⟩
  · have e : Ln.ok s = false := by
      unfold Ln.ok
      rw [decide_eq_false h]
      rfl
    refine (spec_lines_long s w hs (by omega)).mono ?_
    rintro e' w' ⟨rfl, h2⟩
    rw [e]
    exact ⟨_, _, rfl, (fun hh => by cases hh), h2⟩
end Go.Proofs.YtdjapcfejmhjnaaGreatDoor
