
/-
  The program's device in a block of its own: open, read, put, what it hands out. Conditions: at most 8 words in each queue, the places behind them zero.
-/
import Derived.Test.YthfmggfohegpnaaRows
import Derived.Test.YthfmggfohegpnaaDvd
namespace Go.Proofs.Ythfmggfohegpnaa
open Go.ChangeShapes Go.WideShapes Go.ChangeAt Go.RowKit Go.Deep
set_option linter.unusedVariables false

/-- A device in the block 'B': what is latched, what is seen. -/
def DvM (w : World) (B : Nat) (zs ys : List Int) : Prop := ∃ cur, Row w B 65 cur ∧ cur.length = 18 ∧ Qat cur 0 zs ∧ Qat cur 9 ys
theorem DvM.betw {w w' : World} {B lo hi : Nat} {zs ys : List Int} (h : DvM w B zs ys) (hb : Betw lo hi w w') (ho : B < lo ∨ hi ≤ B) : DvM w' B zs ys := by obtain ⟨cur, h1, h2⟩ := h; exact ⟨cur, h1.betw hb ho, h2⟩
theorem DvM.below {w w' : World} {B : Nat} {zs ys : List Int} (h : DvM w B zs ys) (hb : Below w.heap.size w w') : DvM w' B zs ys := by obtain ⟨cur, h1, h2⟩ := h; exact ⟨cur, h1.below hb, h2⟩
theorem DvM.lt {w : World} {B : Nat} {zs ys : List Int} (h : DvM w B zs ys) : B < w.heap.size := by obtain ⟨cur, h1, h2⟩ := h; exact h1.lt
theorem DvM.few {w : World} {B : Nat} {zs ys : List Int} (h : DvM w B zs ys) : zs.length ≤ 8 ∧ ys.length ≤ 8 := by obtain ⟨cur, h1, h2, h3, h4⟩ := h; exact ⟨h3.len, h4.len⟩
theorem DvM.to0 {w w' : World} {B : Nat} {ys zs' : List Int} {cur : List Value} (hl : cur.length = 18) (hy : Qat cur 9 ys) (h : Qto w w' B 65 cur 0 zs') : DvM w' B zs' ys ∧ Betw B (B + 1) w w' := by
  obtain ⟨cur', h1, h2, h3, h4, h5⟩ := h
  exact ⟨⟨cur', h1, by omega, h2, hy.of fun i h6 _ => h4 i (by omega)⟩, h5⟩
theorem DvM.to9 {w w' : World} {B : Nat} {zs ys' : List Int} {cur : List Value} (hl : cur.length = 18) (hz : Qat cur 0 zs) (h : Qto w w' B 65 cur 9 ys') : DvM w' B zs ys' ∧ Betw B (B + 1) w w' := by
  obtain ⟨cur', h1, h2, h3, h4, h5⟩ := h
  exact ⟨⟨cur', h1, by omega, hz.of fun i h6 _ => h4 i (by omega), h2⟩, h5⟩
theorem dv_put (B : Nat) (zs ys : List Int) (x : Int) (w : World) (h : DvM w B zs ys) :
    Calls Try.prog 38 #[.pointer (some ⟨B, 0, none⟩), .int .u32 x] w fun e w' => e = .returned (.bool (decide (zs.length < 8))) ∧ DvM w' B (if zs.length = 8 then zs else zs ++ [x]) ys ∧ Betw B (B + 1) w w' := by
  obtain ⟨cur, h1, h2, h3, h4⟩ := h
  refine (impl_put B 0 65 cur zs x w h1 h3).mono ?_
  rintro e w' ⟨g1, g2⟩
  exact ⟨g1, DvM.to0 h2 h4 g2⟩
theorem dv_take (B : Nat) (zs ys : List Int) (w : World) (h : DvM w B zs ys) :
    Calls Try.prog 62 #[.pointer (some ⟨B, 9, none⟩)] w fun e w' => e = .returned (.tuple #[.int .u32 (ys.getD 0 0), .bool (decide (0 < ys.length))]) ∧ DvM w' B zs (ys.drop 1) ∧ Betw B (B + 1) w w' := by
  obtain ⟨cur, h1, h2, h3, h4⟩ := h
  refine (impl_take B 9 65 cur ys w h1 h4).mono ?_
  rintro e w' ⟨g1, g2⟩
  exact ⟨g1, DvM.to9 h2 h3 g2⟩
theorem qat_pour {cur : List Value} {zs ys : List Int} {n m K : Nat} (hl : cur.length = 18) (hz : Qat cur 0 zs) (hy : Qat cur 9 ys) (hn : zs.length = n) (hm : ys.length = m) (hK : min n (8 - m) = K) :
    Qat ((splice cur (9 + m) ((zs.take K).map (Value.int .u32))).set 17 (.int .i64 ((m + K : Nat) : Int))) 0 zs ∧ Qat ((splice cur (9 + m) ((zs.take K).map (Value.int .u32))).set 17 (.int .i64 ((m + K : Nat) : Int))) 9 (ys ++ zs.take K) ∧ ((splice cur (9 + m) ((zs.take K).map (Value.int .u32))).set 17 (.int .i64 ((m + K : Nat) : Int))).length = 18 := by
  have hm8 := hy.len
  have hXL : ((zs.take K).map (Value.int .u32)).length = K := by simp; omega
  have hsl : (splice cur (9 + m) ((zs.take K).map (Value.int .u32))).length = 18 := (length_splice _ _ _ (by rw [hXL]; omega)).trans hl
  have hout : ∀ i, i < 9 + m ∨ 9 + m + K ≤ i → (splice cur (9 + m) ((zs.take K).map (Value.int .u32)))[i]? = cur[i]? := fun i hi => by
    unfold splice
    rcases hi with hi | hi
    · rw [List.getElem?_append_left (by simp; omega), List.getElem?_take, if_pos hi]
    · rw [List.getElem?_append_right (by simp; omega), List.getElem?_append_right (by simp; omega), List.getElem?_drop]
      congr 1
      simp
      omega
  have hin : ∀ i, i < K → (splice cur (9 + m) ((zs.take K).map (Value.int .u32)))[9 + m + i]? = some (.int .u32 (zs.getD i 0)) := fun i hi => by
    unfold splice
    rw [List.getElem?_append_right (by simp; omega), List.getElem?_append_left (by simp; omega)]
    have e1 : 9 + m + i - (cur.take (9 + m)).length = i := by simp; omega
    rw [e1, List.getElem?_map, List.getElem?_take, if_pos hi]
    simp [List.getD, List.getElem?_eq_getElem (show i < zs.length by omega)]
  refine ⟨hz.of fun i h1 h2 => by rw [List.getElem?_set_ne (by omega), hout i (by omega)], ⟨by simp; omega, fun i hi => ?_, ?_⟩, by rw [List.length_set]; exact hsl⟩
  · rw [List.getElem?_set_ne (by omega)]
    by_cases h1 : i < m
    · rw [hout _ (by omega), hy.at_ i hi]
      simp only [List.getD]
      rw [List.getElem?_append_left (by omega)]
    · by_cases h2 : i < m + K
      · have := hin (i - m) (by omega)
        rw [show 9 + m + (i - m) = 9 + i by omega] at this
        rw [this]
        simp only [List.getD]
        rw [List.getElem?_append_right (by omega), hm, List.getElem?_take, if_pos (by omega)]
      · rw [hout _ (by omega), hy.at_ i hi]
        simp only [List.getD]
        rw [List.getElem?_eq_none (by omega), List.getElem?_eq_none (by simp; omega)]
  · rw [show (9 : Nat) + 8 = 17 from rfl, List.getElem?_set_self (by rw [hsl]; omega)]
    simp only [List.length_append, List.length_take, hm, hn]
    congr 4
    omega
set_option maxRecDepth 20000 in
set_option maxHeartbeats 2000000 in
theorem dv_pour (B : Nat) (zs ys : List Int) (K : Nat) (w : World) (h : DvM w B zs ys) (HK : Hid (goes zs ys = K)) :
    Calls Try.prog 61 #[.pointer (some ⟨B, 9, none⟩), .pointer (some ⟨B, 0, none⟩)] w fun e w' => e = .returned (.bool (decide (0 < K))) ∧ DvM w' B (zs.drop K) (ys ++ zs.take K) ∧ Betw B (B + 1) w w' := by
  obtain ⟨cur, hr, hl18, hz, hy⟩ := h
  obtain ⟨n, HL⟩ : ∃ n, Hid (zs.length = n) := ⟨_, rfl⟩
  obtain ⟨m, HM⟩ : ∃ n, Hid (ys.length = n) := ⟨_, rfl⟩
  have HKK : Hid (min n (8 - m) = K) := (show min n (8 - m) = K by rw [← HK.out, ← HL.out, ← HM.out]; rfl)
  have hn8 : n ≤ 8 := by have := hz.len; have := HL.out; omega
  have hm8 : m ≤ 8 := by have := hy.len; have := HM.out; omega
  have hKn : K ≤ n := by have := HKK.out; omega
  have hKm : m + K ≤ 8 := by have := HKK.out; omega
  have HR : Hid (Row w B 65 cur) := hr
  have HZ : Hid (Qat cur 0 zs) := hz
  have HY : Hid (Qat cur 9 ys) := hy
  have HC : Hid (cur.length = 18) := hl18
  have hc : w.cell? ⟨B, 17, none⟩ = some (.int .i64 (m : Int)) := by rw [hr.cell, show (17 : Nat) = 9 + 8 from rfl, hy.cnt, HM.out]
  obtain ⟨aC, hslA, hsaA⟩ := sliceAt_from B 9 m hm8
  have HSA : Hid (0 < 8 - m → aC = some ⟨B, 9 + m, none⟩) := hsaA
  have HE : Hid (∀ X : World, Row X B 65 cur → Calls Try.prog 60 #[.pointer (some ⟨B, 0, none⟩)] X fun e w' => e = .returned (.slice (some ⟨B, 0, none⟩) n 8) ∧ Below X.heap.size X w' ∧ w'.heap = X.heap) := fun X hX => impl_held B 0 65 cur zs n X hX HZ.out HL.out
  obtain ⟨XS, HX⟩ : ∃ XS, Hid (XS = (zs.take K).map (Value.int .u32)) := ⟨_, rfl⟩
  have HXL : Hid (XS.length = K) := (show XS.length = K by rw [HX.out]; simp [HL.out]; omega)
  have HXS : Hid (∀ X : World, Row X B 65 cur → ∃ ad, some (⟨B, 0, none⟩ : Addr) = some ad ∧ ∀ j v, XS[j]? = some v → X.cell? (ad.add j) = some v) := fun X hX => by
    refine ⟨⟨B, 0, none⟩, rfl, fun j v e => ?_⟩
    rw [add_plain, hX.cell]
    rw [HX.out, List.getElem?_map, List.getElem?_take] at e
    by_cases hj : j < K
    · rw [if_pos hj] at e
      obtain ⟨z, hz, rfl⟩ := Option.map_eq_some_iff.1 e
      have := HZ.out.at_ j (by omega)
      rw [this]
      simp [List.getD, hz]
    · rw [if_neg hj] at e; simp at e
  have HFT : Hid (9 + m + K ≤ cur.length) := (show 9 + m + K ≤ cur.length by rw [HC.out]; omega)
  have HMN : Hid (K = Nat.min n (8 - m)) := HKK.out.symm
  clear hr hz hy hsaA hl18 HK
  obtain ⟨qk, HQK⟩ : ∃ q, Hid (decide (0 < K) = q) := ⟨_, rfl⟩
  rw [HQK.out]
  go_enter Try.func61, Try.ntmps61
  go_wp2
  have hb : Below w.heap.size w w := Below.refl _ _
  have hh : w.heap = w.heap := rfl
  have HC0 : Hid (w.cell? ⟨B, 17, none⟩ = some (.int .i64 (m : Int))) := hc
  go_region_held_law (fun w' => w'.cell? ⟨B, 17, none⟩ = some (.int .i64 (m : Int))) (first | with_reducible exact hc | with_reducible exact dr_c hc) (first
    | (go_at_call 60; refine Calls.mono (HE.out _ (HR.out.heap (by first | exact hh | rfl))) ?_; rintro u w3 ⟨rfl, hbb, hhe⟩; have HR3 : Hid (Row w3 B 65 cur) := HR.out.heap (hhe.trans (by first | exact hh | rfl)); have HB3 : Hid (Below w.heap.size w w3) := (by first | exact hbb | exact ((Below.refl _ w).drew).trans (hbb.mono (Nat.le_refl _))); replace hc := kept_c HB3.out HC0.out; clear hbb hhe hb hh)
    | (refine step_copy_q rfl (.tmp 13) (.tmp 15) 22 22 rfl 31 Try.underlying22 infoU1 aC (some ⟨B, 0, none⟩) (8 - m) (8 - m) n 8 rfl rfl B (9 + m) cur 65 (by first | exact HR3.out | exact HR3.out.heap rfl) XS K HXL.out HMN.out (fun h0 => ⟨HSA.out (by omega), by first | exact HXS.out _ HR3.out | exact HXS.out _ (HR3.out.heap rfl)⟩) HFT.out (by rw [HX.out]; exact us_one _) ?_; intro w4 hr4 hb4; have HR4 : Hid (Row w4 B 65 (splice cur (9 + m) XS)) := hr4; have HB4 : Hid (Betw B (B + 1) w w4) := (by first | exact (Below.betw HB3.out).trans hb4 | exact ((Below.betw HB3.out).trans (Below.betw (Below.refl _ _).drew)).trans hb4); replace hc : w4.cell? ⟨B, 17, none⟩ = some (.int .i64 (m : Int)) := (by
        rw [hr4.cell]
        unfold splice
        have h1 := HXL.out
        have h2 := HC.out
        rw [List.getElem?_append_right (by simp; omega), List.getElem?_append_right (by simp; omega), List.getElem?_drop]
        have h3 := HY.out.cnt
        rw [HM.out] at h3
        rw [← h3]
        congr 1
        simp
        omega); clear hr4 hb4))
  all_goals
    rename_i hhh
    clear hhh
    have hf4 := HR4.out.free
    have hw : IntKind.i64.wrap ((m : Int) + (K : Int)) = ((m + K : Nat) : Int) := by rw [IntKind.wrap_i64]; omega
    have hqp := qat_pour HC.out HZ.out HY.out HL.out HM.out HKK.out
    rw [← HX.out] at hqp
    have HD : Hid (Calls Try.prog 66 #[.pointer (some ⟨B, 0, none⟩), .int .i64 (K : Int)] (w4.setCell ⟨B, 17, none⟩ (.int .i64 ((m + K : Nat) : Int))) fun e w' => (∃ v, e = .returned v) ∧ DvM w' B (zs.drop K) (ys ++ zs.take K) ∧ Betw B (B + 1) w w') := by
      refine (impl_drop B 0 65 ((splice cur (9 + m) XS).set 17 (.int .i64 ((m + K : Nat) : Int))) zs K (w4.setCell ⟨B, 17, none⟩ (.int .i64 ((m + K : Nat) : Int))) (HR4.out.set _ _) hqp.1 (by rw [HL.out]; exact hKn)).mono ?_
      rintro e w' ⟨g1, g2⟩
      obtain ⟨g3, g4⟩ := DvM.to0 hqp.2.2 hqp.2.1 g2
      exact ⟨g1, g3, (HB4.out.trans ((Betw.refl _ _ w4).setCell (p := ⟨B, 17, none⟩) (Nat.le_refl _) (by simp) _)).trans g4⟩
    clear hqp hslA HE HXS HSA HMN HFT
    go_wp2_with fail
    refine HD.out.mono ?_
    rintro u w5 ⟨⟨v, rfl⟩, hd5, hb5⟩
    have H5 : Hid (DvM w5 B (zs.drop K) (ys ++ zs.take K) ∧ Betw B (B + 1) w w5) := ⟨hd5, hb5⟩
    clear hd5 hb5 HD hf4 hc hw
    by_cases h0 : 0 < K
    · have h0' : (0 : Int) < (K : Int) := by omega
      have hdd : qk = true := by rw [← HQK.out]; exact decide_eq_true h0
      subst hdd
      go_wp2
      go_ret
      exact ⟨rfl, H5.out.1, H5.out.2⟩
    · have h0' : ¬ ((0 : Int) < (K : Int)) := by omega
      have hdd : qk = false := by rw [← HQK.out]; exact decide_eq_false h0
      subst hdd
      go_wp2
      go_ret
      exact ⟨rfl, H5.out.1, H5.out.2⟩
set_option maxHeartbeats 1000000 in
theorem dv_open (B : Nat) (zs ys : List Int) (K : Nat) (w : World) (h : DvM w B zs ys) (HK : Hid (goes zs ys = K)) :
    Calls Try.prog 43 #[.pointer (some ⟨B, 0, none⟩)] w fun e w' => e = .returned (.bool (decide (0 < K))) ∧ DvM w' B (zs.drop K) (ys ++ zs.take K) ∧ Betw B (B + 1) w w' := by
  have HP : Hid (∀ X : World, X.heap = w.heap → Betw B (B + 1) w X → Calls Try.prog 61 #[.pointer (some ⟨B, 9, none⟩), .pointer (some ⟨B, 0, none⟩)] X fun e w' => e = .returned (.bool (decide (0 < K))) ∧ DvM w' B (zs.drop K) (ys ++ zs.take K) ∧ Betw B (B + 1) w w') := fun X hX hbX => by
    have hd : DvM X B zs ys := by obtain ⟨cur, h1, h2⟩ := h; exact ⟨cur, h1.heap hX, h2⟩
    refine (dv_pour B zs ys K X hd HK).mono ?_
    rintro e w' ⟨g1, g2, g3⟩
    exact ⟨g1, g2, hbX.trans g3⟩
  clear h
  go_enter Try.func43, Try.ntmps43
  go_wp2
  go_region_held_law (fun w' => True) (exact True.intro) (first
    | (go_at_call 61; refine Calls.mono (HP.out _ rfl (by first | exact Betw.refl _ _ _ | exact Below.betw (Below.refl _ _).drew)) ?_; rintro u w3 ⟨rfl, hd3, hb3⟩; have H3 : Hid (DvM w3 B (zs.drop K) (ys ++ zs.take K) ∧ Betw B (B + 1) w w3) := ⟨hd3, hb3⟩; clear hd3 hb3))
  all_goals
    go_wp2
    go_ret
    exact ⟨rfl, H3.out.1, H3.out.2⟩
set_option maxHeartbeats 1000000 in
theorem dv_read (B : Nat) (zs ys : List Int) (w : World) (h : DvM w B zs ys) :
    Calls Try.prog 44 #[.pointer (some ⟨B, 0, none⟩)] w fun e w' => e = .returned (.tuple #[.int .u32 (ys.getD 0 0), .int .i64 (if ys.length = 0 then 1 else 0)]) ∧ DvM w' B zs (ys.drop 1) ∧ Betw B (B + 1) w w' := by
  have HT : Hid (Calls Try.prog 62 #[.pointer (some ⟨B, 9, none⟩)] w fun e w' => e = .returned (.tuple #[.int .u32 (ys.getD 0 0), .bool (decide (0 < ys.length))]) ∧ DvM w' B zs (ys.drop 1) ∧ Betw B (B + 1) w w') := dv_take B zs ys w h
  clear h
  generalize ys.getD 0 0 = z at HT ⊢
  obtain ⟨q, HQ⟩ : ∃ q, Hid (decide (0 < ys.length) = q) := ⟨_, rfl⟩
  obtain ⟨D, HD⟩ : ∃ D, Hid (ys.drop 1 = D) := ⟨_, rfl⟩
  obtain ⟨cd, HCD⟩ : ∃ cd : Int, Hid ((if ys.length = 0 then (1 : Int) else 0) = cd) := ⟨_, rfl⟩
  rw [HQ.out, HD.out] at HT
  rw [HD.out, HCD.out]
  go_enter Try.func44, Try.ntmps44
  go_wp2_with fail
  refine HT.out.mono ?_
  rintro u w1 ⟨rfl, hd1, hb1⟩
  have H1 : Hid (DvM w1 B zs D ∧ Betw B (B + 1) w w1) := ⟨hd1, hb1⟩
  clear hd1 hb1 HT
  cases q
  · have e : cd = 1 := by have h1 := HQ.out; simp only [decide_eq_false_iff_not] at h1; rw [← HCD.out]; exact if_pos (by omega)
    subst e
    go_wp2
    exact bodyPost_ret (v := .tuple #[.int .u32 z, .int .i64 1]) (by simp [results, Try.results44, go_sem]) rfl ⟨rfl, H1.out.1, H1.out.2⟩
  · have e : cd = 0 := by have h1 := HQ.out; simp only [decide_eq_true_eq] at h1; rw [← HCD.out]; exact if_neg (by omega)
    subst e
    go_wp2
    exact bodyPost_ret (v := .tuple #[.int .u32 z, .int .i64 0]) (by simp [results, Try.results44, go_sem]) rfl ⟨rfl, H1.out.1, H1.out.2⟩
end Go.Proofs.Ythfmggfohegpnaa
