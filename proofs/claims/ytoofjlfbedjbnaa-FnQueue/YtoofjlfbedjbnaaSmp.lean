
/-
  The walk of FnSample: whatever row and script were drawn, the law returns true and nothing that was there is written. Conditions: the bytes read as bytes, at most 1048576 of them.
-/
import Derived.Test.YtoofjlfbedjbnaaRows
import Derived.Test.YtoofjlfbedjbnaaCdp
import Derived.Test.YtoofjlfbedjbnaaSplB
namespace Go.Proofs.Ytoofjlfbedjbnaa
open Go.ChangeShapes Go.WideShapes Go.ChangeAt Go.RowKit Go.Deep
set_option linter.unusedVariables false

theorem big_no (a : Option Addr) (n cap : Nat) (w : World) (h : n ≤ 1048576) : Calls Try.prog 53 #[.slice a n cap] w fun e w' => e = .returned (.bool false) ∧ w' = w := by
  have hg : ¬ ((1048576 : Int) < (n : Int)) := by omega
  go_enter Try.func53, Try.ntmps53
  go_wp2
  go_ret
  exact ⟨rfl, rfl⟩
theorem big_yes (a : Option Addr) (n cap : Nat) (w : World) (h : ¬ n ≤ 1048576) : Calls Try.prog 53 #[.slice a n cap] w fun e w' => e = .returned (.bool true) ∧ w' = w := by
  have hg : (1048576 : Int) < (n : Int) := by omega
  go_enter Try.func53, Try.ntmps53
  go_wp2
  go_ret
  exact ⟨rfl, rfl⟩
/-- A script that was played: each op is one, and what it told. -/
theorem ply_in {k f t d : Int} {ops ps : List Cp} {m : Nat} (h : plyF k f t d ops = ps) (hm : m < ps.length) : chOk k f t d = true ∧ m < ops.length ∧ kdsOk ops ∧ ps.getD m cp0 = sdN k f t d ops m := by
  unfold plyF at h
  split at h
  · rename_i g
    subst h
    rw [sdL_len] at hm
    exact ⟨g.1, hm, g.2.2, sdL_at _ _ _ _ _ _ _ hm⟩
  · subst h
    simp at hm
/-- The ends of a sampling channel. -/
def SampI (s : Chs) : Prop := s.1 = 0 ∧ s.2.1.length ≤ 1 ∧ s.2.2.length ≤ 1
theorem samp_out {f t d : Int} (hch : chOk 0 f t d = true) {n : Nat} (hn : n ≤ 1) : outOk 0 f t d 0 (n : Int) = true := by
  unfold outOk; rw [hch]; simp; omega
theorem samp_in {f t d : Int} (hch : chOk 0 f t d = true) {n : Nat} (hn : n ≤ 1) : inOk 0 f t d (n : Int) = true := by
  unfold inOk; rw [hch]; simp; omega
theorem samp0 {f t d : Int} (hch : chOk 0 f t d = true) {sn rd : List Int} (h : SampI (0, sn, rd)) (x : Int) : stpF 0 f t d (0, sn, rd) (0, x) = ((0, [x], rd), (0, 0)) := by
  unfold stpF sndF
  simp [samp_out hch h.2.1]
theorem samp1e {f t d : Int} (hch : chOk 0 f t d = true) {sn : List Int} (x : Int) : stpF 0 f t d (0, sn, []) (1, x) = ((0, sn, []), (1, 0)) := by
  have hi := samp_in hch (n := 0) (by omega)
  unfold stpF rcvF
  simp at hi ⊢
  simp [hi]
theorem samp1 {f t d : Int} (hch : chOk 0 f t d = true) {sn rd : List Int} (h : SampI (0, sn, rd)) (h0 : 0 < rd.length) (x : Int) : stpF 0 f t d (0, sn, rd) (1, x) = ((0, sn, rd), (0, rd.getD 0 0)) := by
  have hi := samp_in hch h.2.2
  have hz : ¬ ((rd.length : Int) = 0) := by omega
  unfold stpF rcvF
  rw [if_neg (by simp), if_pos (by simp)]
  simp only
  rw [if_pos hi, if_neg hz]
  simp
theorem samp_bor {f t d : Int} (hch : chOk 0 f t d = true) {sn rd : List Int} (h : SampI (0, sn, rd)) : borOk 0 f t d 0 (sn.length : Int) (rd.length : Int) = true := by
  unfold borOk
  rw [samp_out hch h.2.1, samp_in hch h.2.2]
  rfl
theorem samp2e {f t d : Int} (hch : chOk 0 f t d = true) {rd : List Int} (h : SampI (0, [], rd)) (x : Int) : stpF 0 f t d (0, [], rd) (2, x) = ((0, [], rd), (0, 0)) := by
  have hb := samp_bor hch h
  unfold stpF borF
  rw [if_neg (by simp), if_neg (by simp), if_pos (by simp)]
  simp only
  rw [if_pos hb]
  simp
theorem samp2 {f t d : Int} (hch : chOk 0 f t d = true) {sn rd : List Int} (h : SampI (0, sn, rd)) (h0 : 0 < sn.length) (x : Int) : stpF 0 f t d (0, sn, rd) (2, x) = ((0, [], sn), (0, 0)) := by
  have hb := samp_bor hch h
  have hz : ¬ ((sn.length : Int) = 0) := by omega
  unfold stpF borF
  rw [if_neg (by simp), if_neg (by simp), if_pos (by simp)]
  simp only
  rw [if_pos hb]
  have hz2 : ¬ sn = [] := fun e => by subst e; simp at h0
  simp [hz2]
theorem samp3 {f t d : Int} (hch : chOk 0 f t d = true) {sn rd : List Int} (h : SampI (0, sn, rd)) (x : Int) : stpF 0 f t d (0, sn, rd) (3, x) = ((0, [], rd), (0, 0)) := by
  have ho := samp_out hch h.2.1
  unfold stpF
  rw [if_neg (by simp), if_neg (by simp), if_neg (by simp)]
  simp only
  rw [if_pos ho]
set_option maxRecDepth 20000 in
set_option maxHeartbeats 1500000 in
theorem sample_law (a : Option Addr) (n cap : Nat) (zs : List Int) (w : World) (hl : zs.length = n) (hs : Seg .u8 w a zs) (hb8 : ∀ z ∈ zs, (Lit.int .u8 z).wf = true) (hn : n ≤ 1048576) :
    Calls Try.prog 12 #[.slice a n cap] w fun e w' => e = .returned (.bool true) ∧ Below w.heap.size w w' := by
  have HD : Hid (Calls Try.prog 54 #[.slice a n cap] w fun e w' => ∃ (k f t d : Int) (a' : Option Addr) (xs : List Cp) (n' c' : Nat), e = .returned (.tuple #[crw k f t d, .slice a' n' c']) ∧ Below w.heap.size w w' ∧ PI w' w.heap.size w'.heap.size a' xs ∧ xs.length = n' ∧ n' ≤ 1001) := draw_play w a zs cap n hs hb8 hn hl
  clear hs hb8 hl
  go_enter Try.func12, Try.ntmps12
  go_wp2_with fail
  refine (big_no a n cap _ hn).mono ?_
  rintro e w0 ⟨rfl, h0⟩
  rw [h0]
  clear h0 w0
  go_wp2_with fail
  refine Calls.mono HD.out ?_
  rintro e w1 ⟨k, f, t, d, a1, ops, n1, c1, rfl, hb1, ho1, hx1, hn1⟩
  obtain ⟨ps, HPS⟩ : ∃ p, Hid (plyF k f t d ops = p) := ⟨_, rfl⟩
  obtain ⟨y, HYL⟩ : ∃ y, Hid (ps.length = y) := ⟨_, rfl⟩
  have HXL : Hid (ops.length = n1) := hx1
  have hal : Below w1.heap.size w1 (w1.alloc (.cells (crow k f t d) 25)) := (Below.refl _ _).alloc (Nat.le_refl _) _
  have HB1 : Hid (Below w.heap.size w (w1.alloc (.cells (crow k f t d) 25))) := hb1.trans (hal.mono hb1.size)
  have P1 : Hid (Bk (w1.alloc (.cells (crow k f t d) 25)) w1.heap.size (crow k f t d)) := Bk.new _ _ _ _ rfl
  have X1 : Hid (PSeg (w1.alloc (.cells (crow k f t d) 25)) a1 ops) := PI.seg (PI.below ho1 hal)
  have HIM : Hid (∀ (X : World), PSeg X a1 ops → Calls Try.prog 47 #[crw k f t d, .slice a1 n1 c1] X fun e w' => ∃ a' c', e = .returned (.slice a' y c') ∧ Below X.heap.size X w' ∧ PI w' X.heap.size w'.heap.size a' ps) := fun X h1 => by have g := impl_play k f t d a1 n1 c1 ops X h1 HXL.out (by omega); rw [HPS.out, HYL.out] at g; exact g
  have HSP : Hid (∀ (X : World), PSeg X a1 ops → Calls Try.prog 45 #[crw k f t d, .slice a1 n1 c1] X fun e w' => ∃ a' c', e = .returned (.slice a' y c') ∧ Below X.heap.size X w' ∧ PI w' X.heap.size w'.heap.size a' ps) := fun X h1 => by have g := spec_play k f t d a1 n1 c1 ops X h1 HXL.out (by omega); rw [HPS.out, HYL.out] at g; exact g
  have HIN : Hid (∀ m, m < y → chOk k f t d = true ∧ m < n1 ∧ kdsOk ops ∧ ps.getD m cp0 = sdN k f t d ops m) := fun m hm => by rw [← HXL.out]; exact ply_in HPS.out (by rw [HYL.out]; exact hm)
  have hy : y ≤ 1000 := by
    have g := HYL.out
    rw [← HPS.out] at g
    unfold plyF at g
    split at g
    · rename_i g2
      rw [sdL_len] at g
      omega
    · simp at g; omega
  clear HD hb1 ho1 hx1 hal HPS
  go_wp2_with fail
  refine Calls.mono (HIM.out _ X1.out) ?_
  rintro e w2 ⟨a2, c2, rfl, hb2, ho2⟩
  have HB2 : Hid (Below w.heap.size w w2) := HB1.out.trans (hb2.mono HB1.out.size)
  have P2 : Hid (Bk w2 w1.heap.size (crow k f t d)) := P1.out.below hb2
  have X2 : Hid (PSeg w2 a1 ops) := X1.out.below hb2
  have S2 : Hid (PSeg w2 a2 ps) := PI.seg ho2
  clear HB1 P1 X1 hb2 ho2 HIM
  have p0 := P2.out.cell 0 _ rfl
  have p1 := P2.out.cell 1 _ rfl
  have p2 := P2.out.cell 2 _ rfl
  have p3 := P2.out.cell 3 _ rfl
  go_wp2_with fail
  refine Calls.mono (HSP.out _ X2.out) ?_
  rintro e w3 ⟨a3, c3, rfl, hb3, ho3⟩
  clear p0 p1 p2 p3
  have HB3 : Hid (Below w.heap.size w w3) := HB2.out.trans (hb3.mono HB2.out.size)
  have P3 : Hid (Bk w3 w1.heap.size (crow k f t d)) := P2.out.below hb3
  have X3 : Hid (PSeg w3 a1 ops) := X2.out.below hb3
  have S3 : Hid (PSeg w3 a2 ps) := S2.out.below hb3
  clear HB2 P2 X2 S2 hb3 ho3 HSP
  obtain ⟨q1, HQ1⟩ : ∃ q, Hid (chOk k f t d = q) := ⟨_, rfl⟩
  have p0 := P3.out.cell 0 _ rfl
  have p1 := P3.out.cell 1 _ rfl
  have p2 := P3.out.cell 2 _ rfl
  have p3 := P3.out.cell 3 _ rfl
  go_wp2_with fail
  refine (spec_chok k f t d q1 _ HQ1).mono ?_
  rintro x w4 ⟨rfl, hb4⟩
  clear p0 p1 p2 p3
  have HB4 : Hid (Below w.heap.size w w4) := HB3.out.trans (hb4.mono HB3.out.size)
  have P4 : Hid (Bk w4 w1.heap.size (crow k f t d)) := P3.out.below hb4
  have X4 : Hid (PSeg w4 a1 ops) := X3.out.below hb4
  have S4 : Hid (PSeg w4 a2 ps) := S3.out.below hb4
  clear HB3 P3 X3 S3 hb4
  cases q1
  · go_wp2
    go_ret
    exact ⟨rfl, HB4.out⟩
  have p0 := P4.out.cell 0 _ rfl
  cases hk0 : (k == 0)
  · have hkn : (k != 0) = true := by simp only [bne, hk0]; rfl
    go_wp2
    go_ret
    exact ⟨rfl, HB4.out⟩
  have hk : k = 0 := by simpa using hk0
  subst hk
  have HCH : Hid (chOk 0 f t d = true) := HQ1.out
  have hal : Below w4.heap.size w4 ((w4.alloc (.cells #[] 48)).alloc (.cells #[] 48)) := ((Below.refl _ _).alloc (Nat.le_refl _) _).alloc (by simp) _
  have HI0 : Hid (Below w.heap.size w ((w4.alloc (.cells #[] 48)).alloc (.cells #[] 48)) ∧ PSeg ((w4.alloc (.cells #[] 48)).alloc (.cells #[] 48)) a1 ops ∧ PSeg ((w4.alloc (.cells #[] 48)).alloc (.cells #[] 48)) a2 ps ∧ SampI (stN 0 f t d ops 0) ∧ (stN 0 f t d ops 0).2.2.length = 0 ∧ (stN 0 f t d ops 0).2.1.length = 0 ∧ Seg .u32 ((w4.alloc (.cells #[] 48)).alloc (.cells #[] 48)) (some ⟨w4.heap.size, 0, none⟩) (stN 0 f t d ops 0).2.2 ∧ Seg .u32 ((w4.alloc (.cells #[] 48)).alloc (.cells #[] 48)) (some ⟨w4.heap.size + 1, 0, none⟩) (stN 0 f t d ops 0).2.1) := ⟨HB4.out.trans (hal.mono HB4.out.size), X4.out.below hal, S4.out.below hal, ⟨rfl, by simp [stN], by simp [stN]⟩, rfl, rfl, fun h => absurd h (by simp [stN]), fun h => absurd h (by simp [stN])⟩
  clear hal HB4 P4 X4 S4 HQ1
  go_wp2
  clear p0
  go_loopw [6, 7, 8] (fun v6 v7 i wr => ∃ (m : Nat) (a6 : Option Addr) (n6 c6 : Nat) (a7 : Option Addr) (n7 c7 : Nat), m ≤ y ∧ i = .int .i64 m ∧ v6 = .slice a6 n6 c6 ∧ v7 = .slice a7 n7 c7 ∧ Hid (Below w.heap.size w wr ∧ PSeg wr a1 ops ∧ PSeg wr a2 ps ∧ SampI (stN 0 f t d ops m) ∧ (stN 0 f t d ops m).2.2.length = n6 ∧ (stN 0 f t d ops m).2.1.length = n7 ∧ Seg .u32 wr a6 (stN 0 f t d ops m).2.2 ∧ Seg .u32 wr a7 (stN 0 f t d ops m).2.1)) (fun _ _ i _ => y - (intOf i).toNat)
  case atStart => exact ⟨0, _, _, _, _, _, _, by omega, rfl, rfl, rfl, HI0.out⟩
  case round =>
    obtain ⟨m, a6, n6, c6, a7, n7, c7, hm, rfl, rfl, rfl, HR⟩ := hrel
    clear HI0
    by_cases hmy : m < y
    rotate_left
    · go_wp2
      go_ret
      exact ⟨rfl, HR.out.1⟩
    have hmy' : (m : Int) < (y : Int) := by omega
    obtain ⟨_, hmn, hkd, hsd⟩ := HIN.out m hmy
    have hmn' : (m : Int) < (n1 : Int) := by omega
    obtain ⟨b1, o1, rfl, hbl1, p1⟩ := PSeg.at HR.out.2.1 m (by have := HXL.out; omega)
    obtain ⟨b2, o2, rfl, hbl2, r1⟩ := PSeg.at HR.out.2.2.1 m (by have := HYL.out; omega)
    have hkm := hkd m (by have := HXL.out; omega)
    rw [hsd] at r1
    have HST : Hid (stN 0 f t d ops (m + 1) = (stpF 0 f t d (stN 0 f t d ops m) (ops.getD m cp0)).1) := (rfl : stN 0 f t d ops (m + 1) = _)
    have hsd2 : sdN 0 f t d ops m = (stpF 0 f t d (stN 0 f t d ops m) (ops.getD m cp0)).2 := rfl
    rw [hsd2] at r1
    have HSS : Hid (stN 0 f t d ops m = stN 0 f t d ops m) := rfl
    generalize hs9 : stN 0 f t d ops m = s at r1 HST HSS
    generalize ops.getD m cp0 = op at p1 r1 hkm HST
    have hR := HR.out
    rw [hs9] at hR
    obtain ⟨s1, sn, rd⟩ := s
    obtain ⟨x1, x2⟩ := op
    obtain ⟨hRb, hRx, hRs, hRi, hR6, hR7, hRa, hRc⟩ := hR
    have hs1 : s1 = 0 := hRi.1
    subst hs1
    simp only at hkm hR6 hR7 hRa hRc
    subst hR6 hR7
    have HRi : Hid (SampI (0, sn, rd)) := hRi
    have HW : Hid (Below w.heap.size w wr ∧ PSeg wr (some ⟨b1, o1, none⟩) ops ∧ PSeg wr (some ⟨b2, o2, none⟩) ps ∧ Seg .u32 wr a6 rd ∧ Seg .u32 wr a7 sn) := ⟨hRb, hRx, hRs, hRa, hRc⟩
    obtain ⟨q0, q1⟩ := p1
    simp only at q0 q1
    clear hRb hRx hRs hRi hRa hRc HR HSS hs9 hsd hsd2 hkd hbl1 hbl2
    have hcs : x1 = 0 ∨ x1 = 1 ∨ x1 = 2 ∨ x1 = 3 := by omega
    clear hkm
    rcases hcs with rfl | rfl | rfl | rfl
    · have hst := samp0 HCH.out HRi.out x2
      rw [hst] at HST r1
      obtain ⟨r0, _⟩ := r1
      simp only at r0
      have hal : Below wr.heap.size wr (wr.alloc (.cells #[.int .u32 x2] 48)) := (Below.refl _ _).alloc (Nat.le_refl _) _
      have r0' := kept_c hal r0
      have HN : Hid (Below w.heap.size w (wr.alloc (.cells #[.int .u32 x2] 48)) ∧ PSeg (wr.alloc (.cells #[.int .u32 x2] 48)) (some ⟨b1, o1, none⟩) ops ∧ PSeg (wr.alloc (.cells #[.int .u32 x2] 48)) (some ⟨b2, o2, none⟩) ps ∧ SampI (stN 0 f t d ops (m + 1)) ∧ (stN 0 f t d ops (m + 1)).2.2.length = rd.length ∧ (stN 0 f t d ops (m + 1)).2.1.length = 1 ∧ Seg .u32 (wr.alloc (.cells #[.int .u32 x2] 48)) a6 (stN 0 f t d ops (m + 1)).2.2 ∧ Seg .u32 (wr.alloc (.cells #[.int .u32 x2] 48)) (some ⟨wr.heap.size, 0, none⟩) (stN 0 f t d ops (m + 1)).2.1) := by
        rw [HST.out]
        exact ⟨HW.out.1.trans (hal.mono HW.out.1.size), HW.out.2.1.below hal, HW.out.2.2.1.below hal, ⟨rfl, by simp, HRi.out.2.2⟩, rfl, rfl, HW.out.2.2.2.1.below hal, fun _ => ⟨wr.heap.size, 0, rfl, by simp, fun i hi => by simp at hi; subst hi; simp⟩⟩
      clear hst HST HW hal
      go_wp2
      go_roundw
      case rel => exact ⟨m + 1, _, _, _, _, _, _, by omega, by go_num, rfl, rfl, HN.out⟩
      case measure => simp [intOf]; omega
    · by_cases h0 : 0 < rd.length
      rotate_left
      · have e : rd = [] := List.eq_nil_of_length_eq_zero (by omega)
        subst e
        have hst := samp1e (sn := sn) HCH.out x2
        rw [hst] at HST r1
        obtain ⟨r0, _⟩ := r1
        simp only at r0
        have HN : Hid (Below w.heap.size w wr ∧ PSeg wr (some ⟨b1, o1, none⟩) ops ∧ PSeg wr (some ⟨b2, o2, none⟩) ps ∧ SampI (stN 0 f t d ops (m + 1)) ∧ (stN 0 f t d ops (m + 1)).2.2.length = 0 ∧ (stN 0 f t d ops (m + 1)).2.1.length = sn.length ∧ Seg .u32 wr a6 (stN 0 f t d ops (m + 1)).2.2 ∧ Seg .u32 wr a7 (stN 0 f t d ops (m + 1)).2.1) := by
          rw [HST.out]
          exact ⟨HW.out.1, HW.out.2.1, HW.out.2.2.1, HRi.out, rfl, rfl, HW.out.2.2.2.1, HW.out.2.2.2.2⟩
        clear hst HST HW
        simp only [List.length_nil]
        go_wp2
        go_roundw
        case rel => exact ⟨m + 1, _, _, _, _, _, _, by omega, by go_num, rfl, rfl, HN.out⟩
        case measure => simp [intOf]; omega
      · have hst := samp1 HCH.out HRi.out h0 x2
        rw [hst] at HST r1
        obtain ⟨r0, rr⟩ := r1
        simp only at r0 rr
        obtain ⟨b6, o6, rfl, hbl6, hc6⟩ := HW.out.2.2.2.1 h0
        have e6 := hc6 0 h0
        rw [Nat.add_zero] at e6
        obtain ⟨N6, HN6⟩ : ∃ N, Hid (rd.length = N) := ⟨_, rfl⟩
        have HN : ∀ X, Below wr.heap.size wr X → Hid (Below w.heap.size w X ∧ PSeg X (some ⟨b1, o1, none⟩) ops ∧ PSeg X (some ⟨b2, o2, none⟩) ps ∧ SampI (stN 0 f t d ops (m + 1)) ∧ (stN 0 f t d ops (m + 1)).2.2.length = N6 ∧ (stN 0 f t d ops (m + 1)).2.1.length = sn.length ∧ Seg .u32 X (some ⟨b6, o6, none⟩) (stN 0 f t d ops (m + 1)).2.2 ∧ Seg .u32 X a7 (stN 0 f t d ops (m + 1)).2.1) := fun X hX => by
          rw [HST.out]
          exact ⟨HW.out.1.trans (hX.mono HW.out.1.size), HW.out.2.1.below hX, HW.out.2.2.1.below hX, HRi.out, HN6.out, rfl, HW.out.2.2.2.1.below hX, HW.out.2.2.2.2.below hX⟩
        have HNX : Hid (∀ X, Below wr.heap.size wr X → Hid (Below w.heap.size w X ∧ PSeg X (some ⟨b1, o1, none⟩) ops ∧ PSeg X (some ⟨b2, o2, none⟩) ps ∧ SampI (stN 0 f t d ops (m + 1)) ∧ (stN 0 f t d ops (m + 1)).2.2.length = N6 ∧ (stN 0 f t d ops (m + 1)).2.1.length = sn.length ∧ Seg .u32 X (some ⟨b6, o6, none⟩) (stN 0 f t d ops (m + 1)).2.2 ∧ Seg .u32 X a7 (stN 0 f t d ops (m + 1)).2.1)) := HN
        rw [HN6.out] at h0 ⊢
        have h0' : ¬ ((N6 : Int) = 0) := by omega
        have h0'' : (0 : Int) < (N6 : Int) := by omega
        generalize rd.getD 0 0 = z at rr e6
        clear hst HST HW HN hc6 hbl6 HN6
        go_wp2
        go_quiet (fail)
        go_wp2
        go_roundw
        case rel => exact ⟨m + 1, _, _, _, _, _, _, by omega, by go_num, rfl, rfl, (HNX.out _ (below_drewN (Below.refl _ _) _)).out⟩
        case measure => simp [intOf]; omega
    · by_cases h0 : 0 < sn.length
      rotate_left
      · have e : sn = [] := List.eq_nil_of_length_eq_zero (by omega)
        subst e
        have hst := samp2e HCH.out HRi.out x2
        rw [hst] at HST
        have hal : Below wr.heap.size wr (wr.alloc (.cells #[] 48)) := (Below.refl _ _).alloc (Nat.le_refl _) _
        have HN : Hid (Below w.heap.size w (wr.alloc (.cells #[] 48)) ∧ PSeg (wr.alloc (.cells #[] 48)) (some ⟨b1, o1, none⟩) ops ∧ PSeg (wr.alloc (.cells #[] 48)) (some ⟨b2, o2, none⟩) ps ∧ SampI (stN 0 f t d ops (m + 1)) ∧ (stN 0 f t d ops (m + 1)).2.2.length = rd.length ∧ (stN 0 f t d ops (m + 1)).2.1.length = 0 ∧ Seg .u32 (wr.alloc (.cells #[] 48)) a6 (stN 0 f t d ops (m + 1)).2.2 ∧ Seg .u32 (wr.alloc (.cells #[] 48)) (some ⟨wr.heap.size, 0, none⟩) (stN 0 f t d ops (m + 1)).2.1) := by
          rw [HST.out]
          exact ⟨HW.out.1.trans (hal.mono HW.out.1.size), HW.out.2.1.below hal, HW.out.2.2.1.below hal, HRi.out, rfl, rfl, HW.out.2.2.2.1.below hal, fun h => absurd h (by simp)⟩
        clear hst HST HW hal r1
        simp only [List.length_nil]
        go_wp2
        go_roundw
        case rel => exact ⟨m + 1, _, _, _, _, _, _, by omega, by go_num, rfl, rfl, HN.out⟩
        case measure => simp [intOf]; omega
      · have hst := samp2 HCH.out HRi.out h0 x2
        rw [hst] at HST
        have hal : Below wr.heap.size wr (wr.alloc (.cells #[] 48)) := (Below.refl _ _).alloc (Nat.le_refl _) _
        obtain ⟨N7, HN7⟩ : ∃ N, Hid (sn.length = N) := ⟨_, rfl⟩
        have HN : Hid (Below w.heap.size w (wr.alloc (.cells #[] 48)) ∧ PSeg (wr.alloc (.cells #[] 48)) (some ⟨b1, o1, none⟩) ops ∧ PSeg (wr.alloc (.cells #[] 48)) (some ⟨b2, o2, none⟩) ps ∧ SampI (stN 0 f t d ops (m + 1)) ∧ (stN 0 f t d ops (m + 1)).2.2.length = N7 ∧ (stN 0 f t d ops (m + 1)).2.1.length = 0 ∧ Seg .u32 (wr.alloc (.cells #[] 48)) a7 (stN 0 f t d ops (m + 1)).2.2 ∧ Seg .u32 (wr.alloc (.cells #[] 48)) (some ⟨wr.heap.size, 0, none⟩) (stN 0 f t d ops (m + 1)).2.1) := by
          rw [HST.out]
          exact ⟨HW.out.1.trans (hal.mono HW.out.1.size), HW.out.2.1.below hal, HW.out.2.2.1.below hal, ⟨rfl, by simp, HRi.out.2.1⟩, HN7.out, rfl, HW.out.2.2.2.2.below hal, fun h => absurd h (by simp)⟩
        rw [HN7.out] at h0 ⊢
        have h0'' : (0 : Int) < (N7 : Int) := by omega
        clear hst HST HW hal r1 HN7
        go_wp2
        go_roundw
        case rel => exact ⟨m + 1, _, _, _, _, _, _, by omega, by go_num, rfl, rfl, HN.out⟩
        case measure => simp [intOf]; omega
    · have hst := samp3 HCH.out HRi.out x2
      rw [hst] at HST
      have hal : Below wr.heap.size wr (wr.alloc (.cells #[] 48)) := (Below.refl _ _).alloc (Nat.le_refl _) _
      have HN : Hid (Below w.heap.size w (wr.alloc (.cells #[] 48)) ∧ PSeg (wr.alloc (.cells #[] 48)) (some ⟨b1, o1, none⟩) ops ∧ PSeg (wr.alloc (.cells #[] 48)) (some ⟨b2, o2, none⟩) ps ∧ SampI (stN 0 f t d ops (m + 1)) ∧ (stN 0 f t d ops (m + 1)).2.2.length = rd.length ∧ (stN 0 f t d ops (m + 1)).2.1.length = 0 ∧ Seg .u32 (wr.alloc (.cells #[] 48)) a6 (stN 0 f t d ops (m + 1)).2.2 ∧ Seg .u32 (wr.alloc (.cells #[] 48)) (some ⟨wr.heap.size, 0, none⟩) (stN 0 f t d ops (m + 1)).2.1) := by
        rw [HST.out]
        exact ⟨HW.out.1.trans (hal.mono HW.out.1.size), HW.out.2.1.below hal, HW.out.2.2.1.below hal, ⟨rfl, by simp, HRi.out.2.2⟩, rfl, rfl, HW.out.2.2.2.1.below hal, fun h => absurd h (by simp)⟩
      clear hst HST HW hal r1
      go_wp2
      go_roundw
      case rel => exact ⟨m + 1, _, _, _, _, _, _, by omega, by go_num, rfl, rfl, HN.out⟩
      case measure => simp [intOf]; omega
end Go.Proofs.Ytoofjlfbedjbnaa
