/-
  The walk of the law on a text cut at its fault. Conditions: the tables hold what the text lays; the bytes drawn from are at most 1048576 (beyond, the law says true at once).
-/
import Derived.Test.YtdjapcfejmhjnaaGreatDoorDal
import Derived.Test.YtdjapcfejmhjnaaGreatDoorFsx
import Derived.Test.YtdjapcfejmhjnaaGreatDoorAsx
namespace Go.Proofs.YtdjapcfejmhjnaaGreatDoor
open Go.ChangeShapes Go.WideShapes Go.ChangeAt Go.RowKit Go.Deep
set_option linter.unusedVariables false
set_option maxRecDepth 20000
namespace Fl
theorem cut_len : ∀ l : List UInt8, (Sp.cut 10 l).length = l.count 10 + 1
  | [] => rfl
  | b :: l => by
    have ih := cut_len l
    rw [Sp.cut]
    by_cases c : b = 10
    · rw [if_pos c, List.length_cons, ih, List.count_cons, if_pos (by simp [c])]
    · rw [if_neg c, List.count_cons, if_neg (by simp [c])]
      cases hx : Sp.cut 10 l with
      | nil => exact absurd hx (Sp.cut_ne 10 l)
      | cons x r => rw [hx] at ih; simpa [Sp.glue] using ih
theorem pos_at : ∀ (l : List UInt8) (I : Nat) (h : I < l.length), l[I] = 10 → pos l ((l.take (I + 1)).count 10) = I + 1
  | [], I, h, _ => by simp at h
  | b :: l, 0, h, e => by
    have e' : b = 10 := e
    have : pos l 0 = 0 := by cases l <;> rfl
    simp [e', pos, this]
  | b :: l, I + 1, h, e => by
    have h' : I < l.length := by simpa using h
    have e' : l[I] = 10 := by simpa using e
    have ih := pos_at l I h' e'
    rw [List.take_succ_cons, List.count_cons]
    by_cases c : b = 10
    · rw [if_pos (by simp [c])]
      simp only [pos, if_pos c, ih]
      omega
    · rw [if_neg (by simp [c]), Nat.add_zero]
      have hp : 0 < (l.take (I + 1)).count 10 := by
        apply List.count_pos_iff.2
        rw [List.mem_take_iff_getElem]
        exact ⟨I, by omega, e'⟩
      obtain ⟨q, hq⟩ : ∃ q, (l.take (I + 1)).count 10 = q + 1 := ⟨_, (Nat.succ_pred_eq_of_pos hp).symm⟩
      rw [hq] at ih ⊢
      simp only [pos, if_neg c, ih]
      omega
theorem count_step (l : List UInt8) (I : Nat) (h : I < l.length) : (l.take (I + 1)).count 10 = (l.take I).count 10 + if l[I] = 10 then 1 else 0 := by
  rw [List.take_add_one, List.getElem?_eq_getElem h, List.count_append]
  congr 1
  by_cases c : l[I] = 10 <;> simp [c]
/-- What the walk over the text's bytes keeps. -/
structure Inv (l : List UInt8) (j I n bh ah : Nat) : Prop where
  hn : n = (l.take I).count 10
  hbh : bh = if j + 1 ≤ n then pos l (j + 1) else 0
  hah : ah = if j ≤ n then pos l j else 0
theorem Inv.start (l : List UInt8) (j : Nat) : Inv l j 0 0 0 0 := by
  refine ⟨by simp, by simp, ?_⟩
  split
  · have : j = 0 := by omega
    subst this
    cases l <;> rfl
  · rfl
theorem Inv.miss {l : List UInt8} {j I n bh ah : Nat} (h : Inv l j I n bh ah) (hI : I < l.length) (e : l[I] ≠ 10) : Inv l j (I + 1) n bh ah := by
  refine ⟨?_, h.hbh, h.hah⟩
  rw [count_step l I hI, if_neg e, Nat.add_zero]
  exact h.hn
theorem Inv.hit {l : List UInt8} {j I n bh ah bh' ah' : Nat} (h : Inv l j I n bh ah) (hI : I < l.length) (e : l[I] = 10) (hb : bh' = if n + 1 = j + 1 then I + 1 else bh) (ha : ah' = if n + 1 = j then I + 1 else ah) : Inv l j (I + 1) (n + 1) bh' ah' := by
  have hn : n + 1 = (l.take (I + 1)).count 10 := by rw [count_step l I hI, if_pos e, ← h.hn]
  have hp := pos_at l I hI e
  rw [← hn] at hp
  have h1 := h.hbh
  have h2 := h.hah
  refine ⟨hn, ?_, ?_⟩
  · rw [hb]
    by_cases c : n + 1 = j + 1
    · rw [if_pos c, if_pos (by omega), ← c, hp]
    · rw [if_neg c, h1]
      by_cases c2 : j + 1 ≤ n
      · rw [if_pos c2, if_pos (by omega)]
      · rw [if_neg c2, if_neg (by omega)]
  · rw [ha]
    by_cases c : n + 1 = j
    · rw [if_pos c, if_pos (by omega), ← c, hp]
    · rw [if_neg c, h2]
      by_cases c2 : j ≤ n
      · rw [if_pos c2, if_pos (by omega)]
      · rw [if_neg c2, if_neg (by omega)]
theorem Inv.low {l : List UInt8} {j I n bh ah : Nat} (h : Inv l j I n bh ah) : n ≤ l.length ∧ bh ≤ l.length ∧ ah ≤ l.length := by
  refine ⟨?_, ?_, ?_⟩
  · rw [h.hn]
    exact Nat.le_trans List.count_le_length (by rw [List.length_take]; omega)
  · rw [h.hbh]; split
    · exact pos_le _ _
    · omega
  · rw [h.hah]; split
    · exact pos_le _ _
    · omega
theorem Inv.fin {s : ByteArray} {j n bh ah : Nat} (h : Inv s.data.toList j s.size n bh ah) (hj : j < (Ln.pieces s).length) : bh = pos s.data.toList (j + 1) ∧ ah = pos s.data.toList j := by
  have hn := h.hn
  have hz : s.data.toList.length = s.size := rfl
  rw [← hz, List.take_length] at hn
  have hc := cut_len s.data.toList
  have hp : (Ln.pieces s).length = (Sp.cut 10 s.data.toList).length - 1 := by simp [Ln.pieces]
  rw [h.hbh, h.hah, if_pos (by omega), if_pos (by omega)]
  exact ⟨rfl, rfl⟩
theorem pre_extract (s : ByteArray) (n : Nat) : s.extract 0 (pos s.data.toList n) = pre s n := by
  apply ByteArray.ext
  apply Array.toList_inj.1
  rw [pre_data]
  simp [ByteArray.data_extract]
theorem pre_size (s : ByteArray) (n : Nat) : (pre s n).size ≤ s.size := by
  show (pre s n).data.toList.length ≤ s.data.toList.length
  rw [pre_data, List.length_take]; omega
end Fl
set_option maxHeartbeats 2000000 in
theorem fault_law (a : Option Addr) (n cap : Nat) (zs : List Int) (w : World) (Hn : Hid (n = zs.length)) (hs : Seg .u8 w a zs) (hb : ∀ z ∈ zs, (Lit.int .u8 z).wf = true) (hn : n ≤ 1048576) (hM : TabM w) (hT : Tab w) (hTN : TabN w) (hTT : TabT w) :
    Calls Tryz.prog 4 #[.slice a n cap] w fun e w' => e = .returned (.bool true) ∧ Below w.heap.size w w' := by
  have HD : Hid (∀ X, X = w → Calls Tryz.prog 12 #[.slice a n cap] X fun e w' => ∃ s : ByteArray, e = .returned (.string s) ∧ s.size ≤ 8000 ∧ Below X.heap.size X w') := fun X hX => by
    subst hX; exact draw_asm a n cap zs X Hn hs hb hn
  have HT : Hid (TabM w ∧ Tab w ∧ TabN w ∧ TabT w) := ⟨hM, hT, hTN, hTT⟩
  have HTb : Hid (∀ X X' : World, TabM X ∧ Tab X ∧ TabN X ∧ TabT X → Below X.heap.size X X' → TabM X' ∧ Tab X' ∧ TabN X' ∧ TabT X') := fun X X' h hb => ⟨h.1.below hb, h.2.1.below hb, h.2.2.1.below hb, h.2.2.2.below hb⟩
  clear hs hb hM hT hTN hTT
  go_enter Tryz.func4, Tryz.ntmps4
  go_wp2_with fail
  refine (big_no _ _ _ _ hn).mono ?_
  rintro e w1 ⟨rfl, hw1⟩
  subst hw1
  go_wp2_with fail
  refine (HD.out _ rfl).mono ?_
  rintro e w2 ⟨s, rfl, hsz, hb2⟩
  have HB2 : Hid _ := hb2
  have HT2 : Hid _ := HTb.out _ _ HT.out hb2
  clear hb2 HT HD
  go_wp2_with fail
  refine (spec_asb s _ (by omega)).mono ?_
  rintro e w3 ⟨v3, rfl, hown3, hb3⟩
  obtain ⟨a3, c3, rfl, -⟩ := OwnW.seg hown3
  have HB3 : Hid _ := HB2.out.trans (hb3.mono HB2.out.size)
  have HT3 : Hid _ := HTb.out _ _ HT2.out hb3
  generalize hl3 : (Am.all s).1.length = n3
  clear hown3 hb3 HT2 HB2
  go_wp2_with fail
  refine (impl_asb s _ (by omega) HT3.out.1 HT3.out.2.1 HT3.out.2.2.1 HT3.out.2.2.2).mono ?_
  rintro e w4 ⟨v4, rfl, hown4, hb4⟩
  obtain ⟨a4, c4, rfl, -⟩ := OwnW.seg hown4
  rw [hl3]
  have HB4 : Hid _ := HB3.out.trans (hb4.mono HB3.out.size)
  have HT4 : Hid _ := HTb.out _ _ HT3.out hb4
  clear hown4 hb4 HT3 HB3 hl3
  have HF : Hid ((Am.all s).2.2.1 = 2 ∨ (Am.all s).2.2.1 = 3 ∨ (Am.all s).2.2.1 = 4 → _) := Fl.fault_cut s
  have HI : Hid (∀ (j : Nat) (X : World), TabM X ∧ Tab X ∧ TabN X ∧ TabT X → Calls Tryz.prog 9 #[.string (Fl.pre s j)] X (AsbPost X (Am.all (Fl.pre s j)))) := fun j X h => impl_asb _ X (by have := Fl.pre_size s j; omega) h.1 h.2.1 h.2.2.1 h.2.2.2
  generalize (Am.all s).2.2.1 = C at HF
  generalize (Am.all s).2.2.2 = L at HF
  have hCC : (C != C) = false := by simp
  have hLL : (L != L) = false := by simp
  by_cases hC : C = 2 ∨ C = 3 ∨ C = 4
  rotate_left
  · have q2 : (C != 2) = true := by simp; omega
    have q3 : (C != 3) = true := by simp; omega
    have q4 : (C != 4) = true := by simp; omega
    clear hC HF
    go_wp2
    go_ret
    exact ⟨rfl, HB4.out⟩
  obtain ⟨j, hj, hL, e1, e2, e3⟩ := HF.out hC
  have HJ : Hid _ := hj
  have HE : Hid _ := And.intro e1 (And.intro e2 (And.intro e3 (Am.all_near (Fl.pre s j))))
  have hjs : j < s.size := by
    have hp : (Ln.pieces s).length = (Sp.cut 10 s.data.toList).length - 1 := by simp [Ln.pieces]
    have hc := Fl.cut_len s.data.toList
    have : s.data.toList.count 10 ≤ s.data.toList.length := List.count_le_length
    have hz : s.data.toList.length = s.size := rfl
    omega
  clear hj e1 e2 e3 HF
  have HZ : Hid (s.data.toList.length = s.size) := rfl
  rcases hC with hC | hC | hC
  · have q2 : (C != 2) = false := by rw [hC]; rfl
    have q3 : (C != 3) = true := by rw [hC]; rfl
    have q4 : (C != 4) = true := by rw [hC]; rfl
    clear hC
    go_wp2
    go_loopw [10, 11, 12, 13] (fun nv bv av iv wr => ∃ (I N bh ah : Nat), I ≤ s.size ∧ nv = .int .i64 N ∧ bv = .int .i64 bh ∧ av = .int .i64 ah ∧ iv = .int .i64 I ∧ wr = w4 ∧ Hid (Fl.Inv s.data.toList j I N bh ah)) (fun _ _ _ iv _ => s.size - (intOf iv).toNat)
    case atStart => exact ⟨0, 0, 0, 0, by omega, rfl, rfl, rfl, rfl, rfl, Fl.Inv.start _ _⟩
    case round =>
      obtain ⟨I, N, bh, ah, hI, rfl, rfl, rfl, rfl, hwr, HV⟩ := hrel
      subst hwr
      obtain ⟨hN, hbh, hah⟩ := Fl.Inv.low HV.out
      rw [HZ.out] at hN hbh hah
      by_cases hlt : I < s.size
      · have hlt' : (I : Int) < (s.size : Int) := by omega
        by_cases hc : s[I] = 10
        · have hc' : ((s[I].toNat : Int) == 10) = true := by rw [hc]; rfl
          have HH : Hid (∀ bh' ah' : Nat, bh' = (if N + 1 = j + 1 then I + 1 else bh) → ah' = (if N + 1 = j then I + 1 else ah) → Fl.Inv s.data.toList j (I + 1) (N + 1) bh' ah') := fun bh' ah' h1 h2 => Fl.Inv.hit HV.out (by rw [HZ.out]; exact hlt) hc h1 h2
          clear hc
          by_cases k1 : N + 1 = j
          · have g1 : ((N : Int) + 1 == L - 1) = true := by rw [beq_iff_eq]; omega
            have g2 : ((N : Int) + 1 == L) = false := by rw [beq_eq_false_iff_ne]; omega
            go_wp2
            go_roundw
            case rel => exact ⟨I + 1, N + 1, bh, I + 1, by omega, by go_num, rfl, by go_num, by go_num, trivial, HH.out _ _ (by rw [if_neg (by omega)]) (by rw [if_pos k1])⟩
            case measure => simp [intOf]; omega
          · have g1 : ((N : Int) + 1 == L - 1) = false := by rw [beq_eq_false_iff_ne]; omega
            by_cases k2 : N + 1 = j + 1
            · have g2 : ((N : Int) + 1 == L) = true := by rw [beq_iff_eq]; omega
              go_wp2
              go_roundw
              case rel => exact ⟨I + 1, N + 1, I + 1, ah, by omega, by go_num, by go_num, rfl, by go_num, trivial, HH.out _ _ (by rw [if_pos k2]) (by rw [if_neg k1])⟩
              case measure => simp [intOf]; omega
            · have g2 : ((N : Int) + 1 == L) = false := by rw [beq_eq_false_iff_ne]; omega
              go_wp2
              go_roundw
              case rel => exact ⟨I + 1, N + 1, bh, ah, by omega, by go_num, rfl, rfl, by go_num, trivial, HH.out _ _ (by rw [if_neg k2]) (by rw [if_neg k1])⟩
              case measure => simp [intOf]; omega
        · have hc' : ((s[I].toNat : Int) == 10) = false := by
            rw [beq_eq_false_iff_ne]
            intro e
            apply hc
            rw [← UInt8.toNat_inj]
            simpa using (by omega : s[I].toNat = 10)
          have HM : Hid _ := Fl.Inv.miss HV.out (by rw [HZ.out]; exact hlt) hc
          clear hc
          go_wp2
          go_roundw
          case rel => exact ⟨I + 1, N, bh, ah, by omega, rfl, rfl, rfl, by go_num, trivial, HM⟩
          case measure => simp [intOf]; omega
      · obtain rfl : I = s.size := by omega
        obtain ⟨f1, f2⟩ := Fl.Inv.fin HV.out HJ.out
        have HX1 : Hid (s.extract 0 bh = Fl.pre s (j + 1)) := by show _ = _; rw [f1]; exact Fl.pre_extract s _
        have HX2 : Hid (s.extract 0 ah = Fl.pre s j) := by show _ = _; rw [f2]; exact Fl.pre_extract s _
        clear f1 f2
        have HA1 : Hid (∀ X, TabM X ∧ Tab X ∧ TabN X ∧ TabT X → Calls Tryz.prog 9 #[.string (s.extract 0 bh)] X (AsbPost X (Am.all (Fl.pre s (j + 1))))) := fun X h => by rw [HX1.out]; exact HI.out _ X h
        have HA2 : Hid (∀ X, TabM X ∧ Tab X ∧ TabN X ∧ TabT X → Calls Tryz.prog 9 #[.string (s.extract 0 ah)] X (AsbPost X (Am.all (Fl.pre s j)))) := fun X h => by rw [HX2.out]; exact HI.out _ X h
        go_wp2_with fail
        refine (HA1.out _ HT4.out).mono ?_
        rintro e w5 ⟨v5, rfl, hown5, hb5⟩
        obtain ⟨a5, c5, rfl, -⟩ := OwnW.seg hown5
        have HB5 : Hid _ := HB4.out.trans (hb5.mono HB4.out.size)
        have HT5 : Hid _ := HTb.out _ _ HT4.out hb5
        clear hown5 hb5
        rw [HE.out.1, HE.out.2.1]
        have hCe : (C == C) = true := by simp
        have hLe : (L == L) = true := by simp
        go_wp2_with fail
        refine (HA2.out _ HT5.out).mono ?_
        rintro e w6 ⟨v6, rfl, hown6, hb6⟩
        obtain ⟨a6, c6, rfl, -⟩ := OwnW.seg hown6
        have HB6 : Hid _ := HB5.out.trans (hb6.mono HB5.out.size)
        clear hown6 hb6
        have hq : (Am.all (Fl.pre s j)).2.2.1 = 0 ∨ (Am.all (Fl.pre s j)).2.2.1 = 5 := by
          rcases HE.out.2.2.1 with h | h | h
          · exact .inl h
          · exact .inr h
          · exact absurd h HE.out.2.2.2
        rcases hq with h | h
        · rw [h]
          go_wp2
          go_ret
          exact ⟨rfl, HB6.out⟩
        · rw [h]
          go_wp2
          go_ret
          exact ⟨rfl, HB6.out⟩
  · have q2 : (C != 2) = true := by rw [hC]; rfl
    have q3 : (C != 3) = false := by rw [hC]; rfl
    have q4 : (C != 4) = true := by rw [hC]; rfl
    clear hC
    go_wp2
    go_loopw [10, 11, 12, 13] (fun nv bv av iv wr => ∃ (I N bh ah : Nat), I ≤ s.size ∧ nv = .int .i64 N ∧ bv = .int .i64 bh ∧ av = .int .i64 ah ∧ iv = .int .i64 I ∧ wr = w4 ∧ Hid (Fl.Inv s.data.toList j I N bh ah)) (fun _ _ _ iv _ => s.size - (intOf iv).toNat)
    case atStart => exact ⟨0, 0, 0, 0, by omega, rfl, rfl, rfl, rfl, rfl, Fl.Inv.start _ _⟩
    case round =>
      obtain ⟨I, N, bh, ah, hI, rfl, rfl, rfl, rfl, hwr, HV⟩ := hrel
      subst hwr
      obtain ⟨hN, hbh, hah⟩ := Fl.Inv.low HV.out
      rw [HZ.out] at hN hbh hah
      by_cases hlt : I < s.size
      · have hlt' : (I : Int) < (s.size : Int) := by omega
        by_cases hc : s[I] = 10
        · have hc' : ((s[I].toNat : Int) == 10) = true := by rw [hc]; rfl
          have HH : Hid (∀ bh' ah' : Nat, bh' = (if N + 1 = j + 1 then I + 1 else bh) → ah' = (if N + 1 = j then I + 1 else ah) → Fl.Inv s.data.toList j (I + 1) (N + 1) bh' ah') := fun bh' ah' h1 h2 => Fl.Inv.hit HV.out (by rw [HZ.out]; exact hlt) hc h1 h2
          clear hc
          by_cases k1 : N + 1 = j
          · have g1 : ((N : Int) + 1 == L - 1) = true := by rw [beq_iff_eq]; omega
            have g2 : ((N : Int) + 1 == L) = false := by rw [beq_eq_false_iff_ne]; omega
            go_wp2
            go_roundw
            case rel => exact ⟨I + 1, N + 1, bh, I + 1, by omega, by go_num, rfl, by go_num, by go_num, trivial, HH.out _ _ (by rw [if_neg (by omega)]) (by rw [if_pos k1])⟩
            case measure => simp [intOf]; omega
          · have g1 : ((N : Int) + 1 == L - 1) = false := by rw [beq_eq_false_iff_ne]; omega
            by_cases k2 : N + 1 = j + 1
            · have g2 : ((N : Int) + 1 == L) = true := by rw [beq_iff_eq]; omega
              go_wp2
              go_roundw
              case rel => exact ⟨I + 1, N + 1, I + 1, ah, by omega, by go_num, by go_num, rfl, by go_num, trivial, HH.out _ _ (by rw [if_pos k2]) (by rw [if_neg k1])⟩
              case measure => simp [intOf]; omega
            · have g2 : ((N : Int) + 1 == L) = false := by rw [beq_eq_false_iff_ne]; omega
              go_wp2
              go_roundw
              case rel => exact ⟨I + 1, N + 1, bh, ah, by omega, by go_num, rfl, rfl, by go_num, trivial, HH.out _ _ (by rw [if_neg k2]) (by rw [if_neg k1])⟩
              case measure => simp [intOf]; omega
        · have hc' : ((s[I].toNat : Int) == 10) = false := by
            rw [beq_eq_false_iff_ne]
            intro e
            apply hc
            rw [← UInt8.toNat_inj]
            simpa using (by omega : s[I].toNat = 10)
          have HM : Hid _ := Fl.Inv.miss HV.out (by rw [HZ.out]; exact hlt) hc
          clear hc
          go_wp2
          go_roundw
          case rel => exact ⟨I + 1, N, bh, ah, by omega, rfl, rfl, rfl, by go_num, trivial, HM⟩
          case measure => simp [intOf]; omega
      · obtain rfl : I = s.size := by omega
        obtain ⟨f1, f2⟩ := Fl.Inv.fin HV.out HJ.out
        have HX1 : Hid (s.extract 0 bh = Fl.pre s (j + 1)) := by show _ = _; rw [f1]; exact Fl.pre_extract s _
        have HX2 : Hid (s.extract 0 ah = Fl.pre s j) := by show _ = _; rw [f2]; exact Fl.pre_extract s _
        clear f1 f2
        have HA1 : Hid (∀ X, TabM X ∧ Tab X ∧ TabN X ∧ TabT X → Calls Tryz.prog 9 #[.string (s.extract 0 bh)] X (AsbPost X (Am.all (Fl.pre s (j + 1))))) := fun X h => by rw [HX1.out]; exact HI.out _ X h
        have HA2 : Hid (∀ X, TabM X ∧ Tab X ∧ TabN X ∧ TabT X → Calls Tryz.prog 9 #[.string (s.extract 0 ah)] X (AsbPost X (Am.all (Fl.pre s j)))) := fun X h => by rw [HX2.out]; exact HI.out _ X h
        go_wp2_with fail
        refine (HA1.out _ HT4.out).mono ?_
        rintro e w5 ⟨v5, rfl, hown5, hb5⟩
        obtain ⟨a5, c5, rfl, -⟩ := OwnW.seg hown5
        have HB5 : Hid _ := HB4.out.trans (hb5.mono HB4.out.size)
        have HT5 : Hid _ := HTb.out _ _ HT4.out hb5
        clear hown5 hb5
        rw [HE.out.1, HE.out.2.1]
        have hCe : (C == C) = true := by simp
        have hLe : (L == L) = true := by simp
        go_wp2_with fail
        refine (HA2.out _ HT5.out).mono ?_
        rintro e w6 ⟨v6, rfl, hown6, hb6⟩
        obtain ⟨a6, c6, rfl, -⟩ := OwnW.seg hown6
        have HB6 : Hid _ := HB5.out.trans (hb6.mono HB5.out.size)
        clear hown6 hb6
        have hq : (Am.all (Fl.pre s j)).2.2.1 = 0 ∨ (Am.all (Fl.pre s j)).2.2.1 = 5 := by
          rcases HE.out.2.2.1 with h | h | h
          · exact .inl h
          · exact .inr h
          · exact absurd h HE.out.2.2.2
        rcases hq with h | h
        · rw [h]
          go_wp2
          go_ret
          exact ⟨rfl, HB6.out⟩
        · rw [h]
          go_wp2
          go_ret
          exact ⟨rfl, HB6.out⟩
  · have q2 : (C != 2) = true := by rw [hC]; rfl
    have q3 : (C != 3) = true := by rw [hC]; rfl
    have q4 : (C != 4) = false := by rw [hC]; rfl
    clear hC
    go_wp2
    go_loopw [10, 11, 12, 13] (fun nv bv av iv wr => ∃ (I N bh ah : Nat), I ≤ s.size ∧ nv = .int .i64 N ∧ bv = .int .i64 bh ∧ av = .int .i64 ah ∧ iv = .int .i64 I ∧ wr = w4 ∧ Hid (Fl.Inv s.data.toList j I N bh ah)) (fun _ _ _ iv _ => s.size - (intOf iv).toNat)
    case atStart => exact ⟨0, 0, 0, 0, by omega, rfl, rfl, rfl, rfl, rfl, Fl.Inv.start _ _⟩
    case round =>
      obtain ⟨I, N, bh, ah, hI, rfl, rfl, rfl, rfl, hwr, HV⟩ := hrel
      subst hwr
      obtain ⟨hN, hbh, hah⟩ := Fl.Inv.low HV.out
      rw [HZ.out] at hN hbh hah
      by_cases hlt : I < s.size
      · have hlt' : (I : Int) < (s.size : Int) := by omega
        by_cases hc : s[I] = 10
        · have hc' : ((s[I].toNat : Int) == 10) = true := by rw [hc]; rfl
          have HH : Hid (∀ bh' ah' : Nat, bh' = (if N + 1 = j + 1 then I + 1 else bh) → ah' = (if N + 1 = j then I + 1 else ah) → Fl.Inv s.data.toList j (I + 1) (N + 1) bh' ah') := fun bh' ah' h1 h2 => Fl.Inv.hit HV.out (by rw [HZ.out]; exact hlt) hc h1 h2
          clear hc
          by_cases k1 : N + 1 = j
          · have g1 : ((N : Int) + 1 == L - 1) = true := by rw [beq_iff_eq]; omega
            have g2 : ((N : Int) + 1 == L) = false := by rw [beq_eq_false_iff_ne]; omega
            go_wp2
            go_roundw
            case rel => exact ⟨I + 1, N + 1, bh, I + 1, by omega, by go_num, rfl, by go_num, by go_num, trivial, HH.out _ _ (by rw [if_neg (by omega)]) (by rw [if_pos k1])⟩
            case measure => simp [intOf]; omega
          · have g1 : ((N : Int) + 1 == L - 1) = false := by rw [beq_eq_false_iff_ne]; omega
            by_cases k2 : N + 1 = j + 1
            · have g2 : ((N : Int) + 1 == L) = true := by rw [beq_iff_eq]; omega
              go_wp2
              go_roundw
              case rel => exact ⟨I + 1, N + 1, I + 1, ah, by omega, by go_num, by go_num, rfl, by go_num, trivial, HH.out _ _ (by rw [if_pos k2]) (by rw [if_neg k1])⟩
              case measure => simp [intOf]; omega
            · have g2 : ((N : Int) + 1 == L) = false := by rw [beq_eq_false_iff_ne]; omega
              go_wp2
              go_roundw
              case rel => exact ⟨I + 1, N + 1, bh, ah, by omega, by go_num, rfl, rfl, by go_num, trivial, HH.out _ _ (by rw [if_neg k2]) (by rw [if_neg k1])⟩
              case measure => simp [intOf]; omega
        · have hc' : ((s[I].toNat : Int) == 10) = false := by
            rw [beq_eq_false_iff_ne]
            intro e
            apply hc
            rw [← UInt8.toNat_inj]
            simpa using (by omega : s[I].toNat = 10)
          have HM : Hid _ := Fl.Inv.miss HV.out (by rw [HZ.out]; exact hlt) hc
          clear hc
          go_wp2
          go_roundw
          case rel => exact ⟨I + 1, N, bh, ah, by omega, rfl, rfl, rfl, by go_num, trivial, HM⟩
          case measure => simp [intOf]; omega
      · obtain rfl : I = s.size := by omega
        obtain ⟨f1, f2⟩ := Fl.Inv.fin HV.out HJ.out
        have HX1 : Hid (s.extract 0 bh = Fl.pre s (j + 1)) := by show _ = _; rw [f1]; exact Fl.pre_extract s _
        have HX2 : Hid (s.extract 0 ah = Fl.pre s j) := by show _ = _; rw [f2]; exact Fl.pre_extract s _
        clear f1 f2
        have HA1 : Hid (∀ X, TabM X ∧ Tab X ∧ TabN X ∧ TabT X → Calls Tryz.prog 9 #[.string (s.extract 0 bh)] X (AsbPost X (Am.all (Fl.pre s (j + 1))))) := fun X h => by rw [HX1.out]; exact HI.out _ X h
        have HA2 : Hid (∀ X, TabM X ∧ Tab X ∧ TabN X ∧ TabT X → Calls Tryz.prog 9 #[.string (s.extract 0 ah)] X (AsbPost X (Am.all (Fl.pre s j)))) := fun X h => by rw [HX2.out]; exact HI.out _ X h
        go_wp2_with fail
        refine (HA1.out _ HT4.out).mono ?_
        rintro e w5 ⟨v5, rfl, hown5, hb5⟩
        obtain ⟨a5, c5, rfl, -⟩ := OwnW.seg hown5
        have HB5 : Hid _ := HB4.out.trans (hb5.mono HB4.out.size)
        have HT5 : Hid _ := HTb.out _ _ HT4.out hb5
        clear hown5 hb5
        rw [HE.out.1, HE.out.2.1]
        have hCe : (C == C) = true := by simp
        have hLe : (L == L) = true := by simp
        go_wp2_with fail
        refine (HA2.out _ HT5.out).mono ?_
        rintro e w6 ⟨v6, rfl, hown6, hb6⟩
        obtain ⟨a6, c6, rfl, -⟩ := OwnW.seg hown6
        have HB6 : Hid _ := HB5.out.trans (hb6.mono HB5.out.size)
        clear hown6 hb6
        have hq : (Am.all (Fl.pre s j)).2.2.1 = 0 ∨ (Am.all (Fl.pre s j)).2.2.1 = 5 := by
          rcases HE.out.2.2.1 with h | h | h
          · exact .inl h
          · exact .inr h
          · exact absurd h HE.out.2.2.2
        rcases hq with h | h
        · rw [h]
          go_wp2
          go_ret
          exact ⟨rfl, HB6.out⟩
        · rw [h]
          go_wp2
          go_ret
          exact ⟨rfl, HB6.out⟩
end Go.Proofs.YtdjapcfejmhjnaaGreatDoor
