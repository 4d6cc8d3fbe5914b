
/-
  The walk of FnDevice: whatever script was drawn, the law returns true and nothing that was there is written. Conditions: the bytes read as bytes, at most 1048576 of them.
-/
import Derived.Test.YthfmggfohegpnaaRows
import Derived.Test.YthfmggfohegpnaaCdq
import Derived.Test.YthfmggfohegpnaaOfu
import Derived.Test.YthfmggfohegpnaaDim
import Derived.Test.YthfmggfohegpnaaSpdB
namespace Go.Proofs.Ythfmggfohegpnaa
open Go.ChangeShapes Go.WideShapes Go.ChangeAt Go.RowKit Go.Deep
set_option linter.unusedVariables false

theorem big_no (a : Option Addr) (n cap : Nat) (w : World) (h : n ≤ 1048576) : Calls Try.prog 31 #[.slice a n cap] w fun e w' => e = .returned (.bool false) ∧ w' = w := by
  have hg : ¬ ((1048576 : Int) < (n : Int)) := by omega
  go_enter Try.func31, Try.ntmps31
  go_wp2
  go_ret
  exact ⟨rfl, rfl⟩
theorem big_yes (a : Option Addr) (n cap : Nat) (w : World) (h : ¬ n ≤ 1048576) : Calls Try.prog 31 #[.slice a n cap] w fun e w' => e = .returned (.bool true) ∧ w' = w := by
  have hg : (1048576 : Int) < (n : Int) := by omega
  go_enter Try.func31, Try.ntmps31
  go_wp2
  go_ret
  exact ⟨rfl, rfl⟩
theorem ply_in {ops : List Cp} {ps : List Ac} {m : Nat} (h : plyD ops = ps) (hm : m < ps.length) : m < ops.length ∧ kdsOk ops ∧ ps.getD m ad = sdN ops m := by
  unfold plyD at h
  split at h
  · rename_i g
    subst h
    rw [sdL_len] at hm
    exact ⟨hm, g.2, sdL_at _ _ _ hm⟩
  · subst h
    simp at hm
theorem ASeg.below {w w' : World} {a : Option Addr} {xs : List Ac} (h : ASeg w a xs) (hb : Below w.heap.size w w') : ASeg w' a xs := fun h0 => by
  obtain ⟨b, off, e, hlt, hc⟩ := h h0
  exact ⟨b, off, e, Nat.lt_of_lt_of_le hlt hb.size, fun i hi => ⟨kept_c hb (hc i hi).1, kept_c hb (hc i hi).2.1, kept_c hb (hc i hi).2.2⟩⟩
def slen : Value → Nat
  | .slice _ n _ => n
  | _ => 0
/-- The law's own account of a device, in memory. -/
structure DV (w3 wr : World) (zs ys : List Int) (g6 o6 n6 c6 g7 o7 n7 c7 : Nat) : Prop where
  gb : Below w3.heap.size w3 wr
  o6 : OffU wr w3.heap.size g6 o6 n6 c6 zs
  o7 : OffU wr w3.heap.size g7 o7 n7 c7 ys
  ne : g6 ≠ g7
variable {w3 wr w9 : World} {zs ys : List Int} {g6 o6 n6 c6 g7 o7 n7 c7 : Nat}
theorem DV.below (h : DV w3 wr zs ys g6 o6 n6 c6 g7 o7 n7 c7) (hb : Below wr.heap.size wr w9) : DV w3 w9 zs ys g6 o6 n6 c6 g7 o7 n7 c7 :=
  ⟨h.gb.trans (hb.mono h.gb.size), h.o6.below hb, h.o7.below hb, h.ne⟩
theorem grown_gb {base g : Nat} (h : Below base w3 wr) (hb : base ≤ wr.heap.size) (hg : wr.grownBy w9 (some g)) (hlo : base ≤ g) : Below base w3 w9 :=
  Below.grown h hg hb (fun g' e => by injection e with e; omega)
theorem DV.push6 {x : Int} {g' o' c' : Nat} (h : DV w3 wr zs ys g6 o6 n6 c6 g7 o7 n7 c7) (ho : OffU w9 w3.heap.size g' o' (n6 + 1) c' (zs ++ [x])) (hg : wr.grownBy w9 (some g6)) (hw : g' = g6 ∨ g' = wr.heap.size) : DV w3 w9 (zs ++ [x]) ys g' o' (n6 + 1) c' g7 o7 n7 c7 := by
  have hne := h.ne
  have hlt := h.o7.lt
  exact ⟨grown_gb h.gb h.gb.size hg h.o6.lo, ho, h.o7.other hg.size (hg.block g7 hlt (fun e => by injection e with e; omega)), by omega⟩
theorem DV.push7 {x : Int} {g' o' c' : Nat} (h : DV w3 wr zs ys g6 o6 n6 c6 g7 o7 n7 c7) (ho : OffU w9 w3.heap.size g' o' (n7 + 1) c' (ys ++ [x])) (hg : wr.grownBy w9 (some g7)) (hw : g' = g7 ∨ g' = wr.heap.size) : DV w3 w9 zs (ys ++ [x]) g6 o6 n6 c6 g' o' (n7 + 1) c' := by
  have hne := h.ne
  have hlt := h.o6.lt
  exact ⟨grown_gb h.gb h.gb.size hg h.o7.lo, h.o6.other hg.size (hg.block g6 hlt (fun e => by injection e with e; omega)), ho, by omega⟩
theorem few_ok {zs ys : List Int} (h : FewD (zs, ys)) : dvOk zs.length ys.length = true := by simp [dvOk]; exact h
theorem dev0f {zs ys : List Int} (h : FewD (zs, ys)) (h8 : zs.length = 8) (x : Int) : stpD (zs, ys) (0, x) = ((zs, ys), (false, 0, 0)) := by
  unfold stpD inpF
  rw [if_pos (show ((0, x) : Cp).1 = 0 from rfl)]
  simp only
  rw [if_pos (few_ok h), if_pos h8]
theorem dev0 {zs ys : List Int} (h : FewD (zs, ys)) (h8 : ¬ zs.length = 8) (x : Int) : stpD (zs, ys) (0, x) = ((zs ++ [x], ys), (true, 0, 0)) := by
  unfold stpD inpF
  simp [few_ok h, h8]
theorem dev1 {zs ys : List Int} (h : FewD (zs, ys)) (x : Int) : stpD (zs, ys) (1, x) = ((zs.drop (goes zs ys), ys ++ zs.take (goes zs ys)), (decide (0 < goes zs ys), 0, 0)) := by
  unfold stpD opnF
  simp [few_ok h]
theorem dev2e {zs : List Int} (h : FewD (zs, [])) (x : Int) : stpD (zs, []) (2, x) = ((zs, []), (false, 0, 1)) := by
  have := few_ok h
  unfold stpD redF
  simp at this
  simp [this]
theorem dev2 {zs ys : List Int} (h : FewD (zs, ys)) (h0 : ¬ ys.length = 0) (x : Int) : stpD (zs, ys) (2, x) = ((zs, ys.drop 1), (false, ys.getD 0 0, 0)) := by
  unfold stpD redF
  rw [if_neg (by simp), if_neg (by simp)]
  simp only
  rw [if_pos (few_ok h), if_neg h0]
set_option maxRecDepth 20000 in
set_option maxHeartbeats 1500000 in
theorem device_law (a : Option Addr) (n cap : Nat) (zs0 : List Int) (w : World) (hl : zs0.length = n) (hs : Seg .u8 w a zs0) (hb8 : ∀ z ∈ zs0, (Lit.int .u8 z).wf = true) (hn : n ≤ 1048576) :
    Calls Try.prog 8 #[.slice a n cap] w fun e w' => e = .returned (.bool true) ∧ Below w.heap.size w w' := by
  have HD : Hid (Calls Try.prog 32 #[.slice a n cap] w fun e w' => ∃ (a' : Option Addr) (xs : List Cp) (n' c' : Nat), e = .returned (.slice a' n' c') ∧ Below w.heap.size w w' ∧ PI w' w.heap.size w'.heap.size a' xs ∧ xs.length = n' ∧ n' ≤ 1001) := draw_dplay w a zs0 cap n hs hb8 hn hl
  clear hs hb8 hl
  go_enter Try.func8, Try.ntmps8
  go_wp2_with fail
  refine (big_no a n cap _ hn).mono ?_
  rintro e w0 ⟨rfl, h0⟩
  rw [h0]
  clear h0 w0
  go_wp2_with fail
  refine Calls.mono HD.out ?_
  rintro e w1 ⟨a1, ops, n1, c1, rfl, hb1, ho1, hx1, hn1⟩
  obtain ⟨ps, HPS⟩ : ∃ p, Hid (plyD ops = p) := ⟨_, rfl⟩
  obtain ⟨y, HYL⟩ : ∃ y, Hid (ps.length = y) := ⟨_, rfl⟩
  have HXL : Hid (ops.length = n1) := hx1
  have HB1 : Hid (Below w.heap.size w w1) := hb1
  have X1 : Hid (PSeg w1 a1 ops) := PI.seg ho1
  have HIM : Hid (∀ (X : World), PSeg X a1 ops → Calls Try.prog 25 #[.slice a1 n1 c1] X fun e w' => ∃ a' c', e = .returned (.slice a' y c') ∧ Below X.heap.size X w' ∧ AI w' X.heap.size w'.heap.size a' ps) := fun X h1 => by have g := impl_play a1 n1 c1 ops X h1 HXL.out (by omega); rw [HPS.out, HYL.out] at g; exact g
  have HSP : Hid (∀ (X : World), PSeg X a1 ops → Calls Try.prog 23 #[.slice a1 n1 c1] X fun e w' => ∃ a' c', e = .returned (.slice a' y c') ∧ Below X.heap.size X w' ∧ AI w' X.heap.size w'.heap.size a' ps) := fun X h1 => by have g := spec_play a1 n1 c1 ops X h1 HXL.out (by omega); rw [HPS.out, HYL.out] at g; exact g
  have HIN : Hid (∀ m, m < y → m < n1 ∧ kdsOk ops ∧ ps.getD m ad = sdN ops m) := fun m hm => by rw [← HXL.out]; exact ply_in HPS.out (by rw [HYL.out]; exact hm)
  have hy : y ≤ 1000 := by rw [← HYL.out, ← HPS.out]; exact ply_len ops
  clear HD hb1 ho1 hx1 HPS
  go_wp2_with fail
  refine Calls.mono (HIM.out _ X1.out) ?_
  rintro e w2 ⟨a2, c2, rfl, hb2, ho2⟩
  have HB2 : Hid (Below w.heap.size w w2) := HB1.out.trans (hb2.mono HB1.out.size)
  have X2 : Hid (PSeg w2 a1 ops) := X1.out.below hb2
  have S2 : Hid (ASeg w2 a2 ps) := AI.seg ho2
  clear HB1 X1 hb2 ho2 HIM
  go_wp2_with fail
  refine Calls.mono (HSP.out _ X2.out) ?_
  rintro e w3 ⟨a3, c3, rfl, hb3, ho3⟩
  have HB3 : Hid (Below w.heap.size w w3) := HB2.out.trans (hb3.mono HB2.out.size)
  have X3 : Hid (PSeg w3 a1 ops) := X2.out.below hb3
  have S3 : Hid (ASeg w3 a2 ps) := S2.out.below hb3
  clear HB2 X2 S2 hb3 ho3 HSP
  have hal1 : Below w3.heap.size w3 (w3.alloc (.cells #[] 31)) := (Below.refl _ _).alloc (Nat.le_refl _) _
  have hal2 : Below (w3.alloc (.cells #[] 31)).heap.size (w3.alloc (.cells #[] 31)) ((w3.alloc (.cells #[] 31)).alloc (.cells #[] 31)) := (Below.refl _ _).alloc (Nat.le_refl _) _
  have HI0 : Hid (DV w3 ((w3.alloc (.cells #[] 31)).alloc (.cells #[] 31)) (stN ops 0).1 (stN ops 0).2 w3.heap.size 0 0 0 (w3.heap.size + 1) 0 0 0) := ⟨hal1.trans (hal2.mono hal1.size), (OffU.new w3 _ (Nat.le_refl _)).below hal2, by have g := OffU.new (w3.alloc (.cells #[] 31)) w3.heap.size hal1.size; simpa [stN] using g, by omega⟩
  clear hal1 hal2
  go_wp2
  go_loopw [6, 7, 8] (fun v6 v7 i wr => ∃ (m g6 o6 n6 c6 g7 o7 n7 c7 : Nat), m ≤ y ∧ i = .int .i64 m ∧ v6 = .slice (some ⟨g6, o6, none⟩) n6 c6 ∧ v7 = .slice (some ⟨g7, o7, none⟩) n7 c7 ∧ Hid (DV w3 wr (stN ops m).1 (stN ops m).2 g6 o6 n6 c6 g7 o7 n7 c7)) (fun _ _ i _ => y - (intOf i).toNat)
  case atStart => exact ⟨0, _, _, _, _, _, _, _, _, by omega, rfl, rfl, rfl, HI0⟩
  case round =>
    obtain ⟨m, g6, o6, n6, c6, g7, o7, n7, c7, hm, rfl, rfl, rfl, HR⟩ := hrel
    clear HI0
    by_cases hmy : m < y
    rotate_left
    · have HE : Hid (Below w.heap.size w wr) := HB3.out.trans (HR.out.gb.mono HB3.out.size)
      go_wp2
      go_ret
      exact ⟨rfl, HE.out⟩
    have hmy' : (m : Int) < (y : Int) := by omega
    obtain ⟨hmn, hkd, hsd⟩ := HIN.out m hmy
    have hmn' : (m : Int) < (n1 : Int) := by omega
    obtain ⟨b1, p1, rfl, hbl1, q1⟩ := PSeg.at (X3.out.below HR.out.gb) m (by have := HXL.out; omega)
    obtain ⟨b2, p2, rfl, hbl2, r1⟩ := ASeg.at S3.out m (by have := HYL.out; omega)
    have hkm := hkd m (by have := HXL.out; omega)
    rw [hsd] at r1
    have HST : Hid (stN ops (m + 1) = (stpD (stN ops m) (ops.getD m cp0)).1) := (rfl : stN ops (m + 1) = _)
    have hsd2 : sdN ops m = (stpD (stN ops m) (ops.getD m cp0)).2 := rfl
    rw [hsd2] at r1
    have hR := HR.out
    have hfw := few_stN ops m
    generalize stN ops m = s at r1 HST hR hfw
    generalize ops.getD m cp0 = op at q1 r1 hkm HST
    obtain ⟨zs, ys⟩ := s
    obtain ⟨x1, x2⟩ := op
    simp only at hkm hR
    have HQ : Hid (DV w3 wr zs ys g6 o6 n6 c6 g7 o7 n7 c7) := hR
    have HF : Hid (FewD (zs, ys)) := hfw
    have hl6 : zs.length = n6 := hR.o6.len
    have hl7 : ys.length = n7 := hR.o7.len
    have hc6 := hR.o6.le
    have hc7 := hR.o7.le
    have hq6 : n6 ≤ 8 := by rw [← hl6]; exact hfw.1
    have hq7 : n7 ≤ 8 := by rw [← hl7]; exact hfw.2
    obtain ⟨q0, q1⟩ := q1
    simp only at q0 q1
    clear hR HR hsd hsd2 hkd hbl1 hbl2 hfw
    have hcs : x1 = 0 ∨ x1 = 1 ∨ x1 = 2 := by omega
    clear hkm
    rcases hcs with rfl | rfl | rfl
    · by_cases hf : n6 = 8
      · have hst := dev0f HF.out (by rw [hl6]; exact hf) x2
        rw [hst] at HST r1
        obtain ⟨r0, _⟩ := r1
        simp only at r0
        replace r0 := kept_c HQ.out.gb r0
        have HN : Hid (DV w3 wr (stN ops (m + 1)).1 (stN ops (m + 1)).2 g6 o6 n6 c6 g7 o7 n7 c7) := by
          rw [HST.out]
          exact HQ.out
        have hf' : ¬ ((n6 : Int) < 8) := by omega
        clear hst HST HQ hl6 hl7 HF hf
        go_wp2
        go_roundw
        case rel => exact ⟨m + 1, g6, o6, n6, c6, g7, o7, n7, c7, by omega, by go_num, rfl, rfl, HN⟩
        case measure => simp [intOf]; omega
      · have hst := dev0 HF.out (by rw [hl6]; exact hf) x2
        rw [hst] at HST r1
        obtain ⟨r0, _⟩ := r1
        simp only at r0
        replace r0 := kept_c HQ.out.gb r0
        have hal : Below wr.heap.size wr (wr.alloc (.cells #[.int .u32 x2] 31)) := (Below.refl _ _).alloc (Nat.le_refl _) _
        have HQA : Hid (DV w3 (wr.alloc (.cells #[.int .u32 x2] 31)) zs ys g6 o6 n6 c6 g7 o7 n7 c7) := HQ.out.below hal
        have HXC : Hid ((wr.alloc (.cells #[.int .u32 x2] 31)).cell? ⟨wr.heap.size, 0, none⟩ = some (.int .u32 x2)) := (show (wr.alloc (.cells #[.int .u32 x2] 31)).cell? ⟨wr.heap.size, 0, none⟩ = some (.int .u32 x2) by simp)
        have HPU : Hid (∀ g' o' c' w9, OffU w9 w3.heap.size g' o' (n6 + 1) c' (zs ++ [x2]) → (wr.alloc (.cells #[.int .u32 x2] 31)).grownBy w9 (some g6) → (g' = g6 ∨ g' = (wr.alloc (.cells #[.int .u32 x2] 31)).heap.size) → Hid (DV w3 w9 (stN ops (m + 1)).1 (stN ops (m + 1)).2 g' o' (n6 + 1) c' g7 o7 n7 c7)) := fun g' o' c' w9 k1 k2 k3 => by
          rw [HST.out]
          exact HQA.out.push6 k1 k2 k3
        have hf' : (n6 : Int) < 8 := by omega
        clear hst HST HQ hal hl6 hl7 HF hf
        go_wp2_with (at_builtin; (refine wpList_append_off _ rfl (.tmp 80) (.tmp 86) rfl w3.heap.size g6 o6 n6 c6 zs x2 wr.heap.size 0 rfl rfl HQA.out.o6 (by omega) HXC.out ?_; intro g9 o9 c9 w9 ho9 hg9 hown9; have HZ := HPU.out g9 o9 c9 w9 ho9 hg9 hown9; clear ho9 hg9 hown9 q0 q1 r0))
        go_roundw
        case rel => exact ⟨m + 1, g9, o9, n6 + 1, c9, g7, o7, n7, c7, by omega, by go_num, rfl, rfl, HZ⟩
        case measure => simp [intOf]; omega
    · have hst := dev1 HF.out x2
      rw [hst] at HST r1
      obtain ⟨r0, _⟩ := r1
      simp only at r0
      have HR0 : Hid (w3.cell? ⟨b2, p2 + m * 3, none⟩ = some (.bool (decide (0 < goes zs ys)))) := r0
      clear r0
      have hgo : goes zs ys = min n6 (8 - n7) := by unfold goes; rw [hl6, hl7]
      obtain ⟨kk, HKK⟩ : ∃ k, Hid (goes zs ys = k) := ⟨_, rfl⟩
      have HKN : Hid (kk = min n6 (8 - n7)) := by rw [← HKK.out]; exact hgo
      rw [HKK.out] at HR0 HST
      have HJ0 : Hid (DV w3 wr (zs.drop 0) (ys ++ zs.take 0) g6 o6 n6 c6 g7 o7 n7 c7) := by
        show DV _ _ _ _ _ _ _ _ _ _ _ _
        simpa using HQ.out
      have HLZ : Hid (zs.length = n6) := hl6
      clear hst HQ HF hl6 hl7 hgo HKK
      go_wp2
      clear q0 q1
      go_loopw [6, 7, 9] (fun v6 v7 v9 wj => ∃ (j g6 o6 m6 c6 g7 o7 m7 c7 : Nat), j ≤ kk ∧ m6 = n6 - j ∧ m7 = n7 + j ∧ m6 ≤ c6 ∧ v6 = .slice (some ⟨g6, o6, none⟩) m6 c6 ∧ v7 = .slice (some ⟨g7, o7, none⟩) m7 c7 ∧ v9 = .bool (decide (0 < j)) ∧ Hid (DV w3 wj (zs.drop j) (ys ++ zs.take j) g6 o6 m6 c6 g7 o7 m7 c7)) (fun v6 _ _ _ => slen v6)
      case atStart => exact ⟨0, _, _, _, _, _, _, _, _, by omega, by omega, by omega, hc6, rfl, rfl, rfl, HJ0⟩
      case round =>
        clear HJ0
        obtain ⟨j, g6, o6, m6, c6, g7, o7, m7, c7, hj, hm6, hm7, hmc, rfl, rfl, rfl, HJ⟩ := hrel
        rename World => wj
        have hkk := HKN.out
        have HM : Hid (m6 = n6 - j ∧ m7 = n7 + j) := ⟨hm6, hm7⟩
        by_cases hjk : j < kk
        · have ha1 : (0 : Int) < (m6 : Int) := by omega
          have ha2 : (m7 : Int) < 8 := by omega
          obtain ⟨z, HZz⟩ : ∃ z, Hid (zs.getD j 0 = z) := ⟨_, rfl⟩
          have e6 : wj.cell? ⟨g6, o6, none⟩ = some (.int .u32 z) := by
            have g := HJ.out.o6.el 0 (by omega)
            rw [Nat.add_zero] at g
            rw [g, ← HZz.out]
            simp [List.getD, List.getElem?_drop]
          have hal : Below wj.heap.size wj (wj.alloc (.cells #[.int .u32 z] 31)) := (Below.refl _ _).alloc (Nat.le_refl _) _
          have HJA : Hid (DV w3 (wj.alloc (.cells #[.int .u32 z] 31)) (zs.drop j) (ys ++ zs.take j) g6 o6 m6 c6 g7 o7 m7 c7) := HJ.out.below hal
          have HXC : Hid ((wj.alloc (.cells #[.int .u32 z] 31)).cell? ⟨wj.heap.size, 0, none⟩ = some (.int .u32 z)) := (show (wj.alloc (.cells #[.int .u32 z] 31)).cell? ⟨wj.heap.size, 0, none⟩ = some (.int .u32 z) by simp)
          obtain ⟨off', hsl, hsg⟩ := off_slice g6 o6 m6 c6 (by omega) hmc
          have HPU : Hid (∀ g' o' c' w9, OffU w9 w3.heap.size g' o' (m7 + 1) c' ((ys ++ zs.take j) ++ [z]) → (wj.alloc (.cells #[.int .u32 z] 31)).grownBy w9 (some g7) → (g' = g7 ∨ g' = (wj.alloc (.cells #[.int .u32 z] 31)).heap.size) → Hid (DV w3 w9 (zs.drop (j + 1)) (ys ++ zs.take (j + 1)) g6 off' (m6 - 1) (c6 - 1) g' o' (m7 + 1) c')) := fun g' o' c' w9 k1 k2 k3 => by
            have g := HJA.out.push7 k1 k2 k3
            have hlz := HLZ.out
            have hjz : j < zs.length := by omega
            have e1 : (ys ++ zs.take j) ++ [z] = ys ++ zs.take (j + 1) := by
              rw [List.append_assoc, ← HZz.out, List.take_add_one]
              simp [List.getD, hjz]
            have e2 : (zs.drop j).drop 1 = zs.drop (j + 1) := by rw [List.drop_drop]
            rw [e1] at g
            have g2 := hsg _ _ _ g.o6
            rw [e2] at g2
            exact ⟨g.gb, g2, g.o7, g.ne⟩
          clear hal HJ hsg HZz hm6 hm7 hkk
          go_wp2_with (at_builtin; (refine wpList_append_off _ rfl (.tmp 98) (.tmp 102) rfl w3.heap.size g7 o7 m7 c7 (ys ++ zs.take j) z wj.heap.size 0 rfl rfl HJA.out.o7 (by omega) HXC.out ?_; intro g9 o9 c9 w9 ho9 hg9 hown9; have HZ := HPU.out g9 o9 c9 w9 ho9 hg9 hown9; clear ho9 hg9 hown9 e6))
          go_roundw
          case rel => exact ⟨j + 1, g6, off', m6 - 1, c6 - 1, g9, o9, m7 + 1, c9, by omega, by have := HM.out; omega, by have := HM.out; omega, by omega, rfl, rfl, by simp, HZ⟩
          case measure => simp [slen]; omega
        · obtain rfl : j = kk := by omega
          have r0 := kept_c HJ.out.gb HR0.out
          have HN : Hid (DV w3 wj (stN ops (m + 1)).1 (stN ops (m + 1)).2 g6 o6 m6 c6 g7 o7 m7 c7) := by
            rw [HST.out]
            exact HJ.out
          have hz8 : m6 = 0 ∨ ((0 : Int) < (m6 : Int) ∧ ¬ ((m7 : Int) < 8)) := by omega
          clear HJ HST HR0 hm6 hm7 hkk HM
          generalize decide (0 < j) = q at r0 ⊢
          rcases hz8 with hz6 | ⟨ha1, ha2⟩
          · have ha1 : ¬ ((0 : Int) < (m6 : Int)) := by omega
            clear hz6
            cases q
            · go_wp2
              go_roundw
              case rel => exact ⟨m + 1, g6, o6, m6, c6, g7, o7, m7, c7, by omega, by go_num, rfl, rfl, HN⟩
              case measure => simp [intOf]; omega
            · go_wp2
              go_roundw
              case rel => exact ⟨m + 1, g6, o6, m6, c6, g7, o7, m7, c7, by omega, by go_num, rfl, rfl, HN⟩
              case measure => simp [intOf]; omega
          · skip
            cases q
            · go_wp2
              go_roundw
              case rel => exact ⟨m + 1, g6, o6, m6, c6, g7, o7, m7, c7, by omega, by go_num, rfl, rfl, HN⟩
              case measure => simp [intOf]; omega
            · go_wp2
              go_roundw
              case rel => exact ⟨m + 1, g6, o6, m6, c6, g7, o7, m7, c7, by omega, by go_num, rfl, rfl, HN⟩
              case measure => simp [intOf]; omega
    · by_cases h0 : n7 = 0
      · have e : ys = [] := List.eq_nil_of_length_eq_zero (by omega)
        subst e
        subst h0
        have hst := dev2e HF.out x2
        rw [hst] at HST r1
        obtain ⟨_, _, r2⟩ := r1
        simp only at r2
        replace r2 := kept_c HQ.out.gb r2
        have HN : Hid (DV w3 wr (stN ops (m + 1)).1 (stN ops (m + 1)).2 g6 o6 n6 c6 g7 o7 0 c7) := by
          rw [HST.out]
          exact HQ.out
        clear hst HST HQ hl6 hl7 HF
        go_wp2
        go_roundw
        case rel => exact ⟨m + 1, g6, o6, n6, c6, g7, o7, 0, c7, by omega, by go_num, rfl, rfl, HN⟩
        case measure => simp [intOf]; omega
      · have hst := dev2 HF.out (by rw [hl7]; exact h0) x2
        rw [hst] at HST r1
        obtain ⟨_, rr, r2⟩ := r1
        simp only at rr r2
        replace r2 := kept_c HQ.out.gb r2
        replace rr := kept_c HQ.out.gb rr
        have e7 := HQ.out.o7.el 0 (by omega)
        rw [Nat.add_zero] at e7
        generalize ys.getD 0 0 = z at rr e7
        have h0' : ¬ ((n7 : Int) = 0) := by omega
        have h0'' : (0 : Int) < (n7 : Int) := by omega
        obtain ⟨off', hsl, hsg⟩ := off_slice g7 o7 n7 c7 (by omega) hc7
        have HNX : Hid (∀ X, Below wr.heap.size wr X → Hid (DV w3 X (stN ops (m + 1)).1 (stN ops (m + 1)).2 g6 o6 n6 c6 g7 off' (n7 - 1) (c7 - 1))) := fun X hX => by
          rw [HST.out]
          have g := HQ.out.below hX
          exact ⟨g.gb, g.o6, hsg _ _ _ g.o7, g.ne⟩
        clear hst HST HQ hl6 hl7 HF hsg
        go_wp2
        go_quiet (fail)
        go_wp2
        go_roundw
        case rel => exact ⟨m + 1, g6, o6, n6, c6, g7, off', n7 - 1, c7 - 1, by omega, by go_num, rfl, rfl, (HNX.out _ (below_drewN (Below.refl _ _) _))⟩
        case measure => simp [intOf]; omega
end Go.Proofs.Ythfmggfohegpnaa
