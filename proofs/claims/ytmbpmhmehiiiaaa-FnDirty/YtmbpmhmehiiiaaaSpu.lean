
/-
  A use of a cache, as the specification does it. Conditions: the cache is right, the address is one.
-/
import Derived.Test.YtmbpmhmehiiiaaaRows
import Derived.Test.YtmbpmhmehiiiaaaUpu
import Derived.Test.YtmbpmhmehiiiaaaCpy
import Derived.Test.YtmbpmhmehiiiaaaCpz
import Derived.Test.YtmbpmhmehiiiaaaCem
import Derived.Test.YtmbpmhmehiiiaaaCho
import Derived.Deep.RegionHeldLaw
import Derived.Deep.RegionLaw
namespace Go.Proofs.Ytmbpmhmehiiiaaa
open Go.ChangeShapes Go.WideShapes Go.ChangeAt Go.RowKit Go.Deep
set_option linter.unusedVariables false

theorem OwnW.one (w : World) (x : Wy) (B : Nat) (hB : B = w.heap.size) : OwnW (w.alloc (.cells #[.int .i64 x.1, .bool x.2] 61)) B (.slice (some ⟨B, 0, none⟩) 1 1) [x] := by
  subst hB
  exact ⟨rfl, .inr ⟨w.heap.size, 1, #[.int .i64 x.1, .bool x.2], rfl, Nat.le_refl _, by show (w.heap.push _)[w.heap.size]? = _; simp, Nat.le_refl _, by unfold maxLen; omega, rfl, rfl⟩⟩
def useD (h M : Nat) (t : Int) (q : Bool) (D : Nat → List Wy) : Nat → List Wy := fun i => if i = h then usedRow M (D i) t q else D i
set_option maxRecDepth 100000 in
set_option maxHeartbeats 4000000 in
theorem spec_use (n M L A : Nat) (q : Bool) (a : Option Addr) (cap : Nat) (D : Nat → List Wy) (w : World) (hs : RSeg w a n D) (hq : CacheOkP (n : Int) (M : Int) (L : Int) n D) (hA : A ≤ 65535) (h : Nat) (t : Int) (hh : A / L % n = h) (ht : ((A / L / n : Nat) : Int) = t) :
    Calls Try.prog 24 #[cch (n : Int) (M : Int) (L : Int) (.slice a n cap), .int .i64 A, .bool q] w fun e w' => ∃ a' cap', e = .returned (.tuple #[cch (n : Int) (M : Int) (L : Int) (.slice a' n cap'), .bool (usedHit (D h) t), .bool (usedBack M (D h) t q)]) ∧ Below w.heap.size w w' ∧ ORows w' w.heap.size w'.heap.size a' n (useD h M t q D) := by
  have hp := shapeOk_parts hq.1
  have hn16 : n ≤ 16 := by omega
  have hn1 : 1 ≤ n := by omega
  have hLz : ¬ L = 0 := by omega
  have hnz : ¬ n = 0 := by omega
  have hhn : h < n := by rw [← hh]; exact Nat.mod_lt _ (by omega)
  have HE := home_eq (S := n) (L := L) (A := A) rfl ⟨by omega, by omega⟩ ⟨by omega, by omega⟩ hA
  obtain ⟨HE1, HE2⟩ : Hid _ ∧ Hid _ := HE
  have hM1 : 1 ≤ M := by omega
  have hM2 : M ≤ 1048576 := by omega
  have HOK : Hid (∀ i, i < n → RowOk (M : Int) (D i)) := hq.2.2
  have HS : Hid _ := hs
  obtain ⟨iR, hi1, hi2, hi3, hi4⟩ := infoR'
  have HI : Hid _ := And.intro hi1 (And.intro hi2 (And.intro hi3 hi4))
  have HB0 : Hid (Below w.heap.size w (((w.alloc (.cells #[.int .i64 n, .int .i64 M, .int .i64 L, .slice a n cap] 34)).alloc (.cells #[.int .i64 0, .int .i64 0, .int .i64 0, .slice none 0 0] 34)).alloc (.cells #[.int .i64 n, .int .i64 M, .int .i64 L, .slice none 0 0] 34))) := (((Below.refl _ w).alloc (Nat.le_refl _) _).alloc (by simp) _).alloc (by simp; omega) _
  have A0 : Hid _ := ((Bk.new w #[.int .i64 n, .int .i64 M, .int .i64 L, .slice a n cap] 34 w.heap.size rfl).alloc (.cells #[.int .i64 0, .int .i64 0, .int .i64 0, .slice none 0 0] 34)).alloc (.cells #[.int .i64 n, .int .i64 M, .int .i64 L, .slice none 0 0] 34)
  have A1 : Hid _ := (Bk.new (w.alloc (.cells #[.int .i64 n, .int .i64 M, .int .i64 L, .slice a n cap] 34)) #[.int .i64 0, .int .i64 0, .int .i64 0, .slice none 0 0] 34 (w.heap.size + 1) (by simp)).alloc (.cells #[.int .i64 n, .int .i64 M, .int .i64 L, .slice none 0 0] 34)
  have A2 : Hid _ := Bk.new ((w.alloc (.cells #[.int .i64 n, .int .i64 M, .int .i64 L, .slice a n cap] 34)).alloc (.cells #[.int .i64 0, .int .i64 0, .int .i64 0, .slice none 0 0] 34)) #[.int .i64 n, .int .i64 M, .int .i64 L, .slice none 0 0] 34 (w.heap.size + 2) (by simp)
  clear hs hq hp hi1 hi2 hi3 hi4 hA
  go_enter Try.func24, Try.ntmps24
  go_wp2
  rw [HE1.out, HE2.out, hh, ht]
  clear HE1 HE2 hh ht hLz hnz
  obtain ⟨W0, HW0⟩ : ∃ W, Hid ((((w.alloc (.cells #[.int .i64 n, .int .i64 M, .int .i64 L, .slice a n cap] 34)).alloc (.cells #[.int .i64 0, .int .i64 0, .int .i64 0, .slice none 0 0] 34)).alloc (.cells #[.int .i64 n, .int .i64 M, .int .i64 L, .slice none 0 0] 34)) = W) := ⟨_, rfl⟩
  rw [HW0.out] at HB0 A0 A1 A2 ⊢
  have hW0 : W0.heap.size = w.heap.size + 3 := by rw [← HW0.out]; simp
  clear HW0
  obtain ⟨P2, hP2⟩ : ∃ p, w.heap.size + 1 + 1 = p := ⟨_, rfl⟩
  replace A2 : Hid (Bk W0 P2 #[.int .i64 n, .int .i64 M, .int .i64 L, .slice none 0 0]) := by rw [← hP2]; exact A2
  rw [hP2]
  obtain ⟨D', HD'⟩ : ∃ D', Hid (useD h M t q D = D') := ⟨_, rfl⟩
  go_loopw [13, 14, 15] (fun hv bv i wr => ∃ (k : Nat) (hit back : Bool), k ≤ n ∧ i = .int .i64 k ∧ hv = .bool hit ∧ bv = .bool back ∧ w.heap.size + 3 ≤ wr.heap.size ∧ Hid (hit = (decide (h < k) && usedHit (D h) t) ∧ back = (decide (h < k) && usedBack M (D h) t q)) ∧ Hid (Below w.heap.size w wr ∧ Bk wr w.heap.size #[.int .i64 n, .int .i64 M, .int .i64 L, .slice a n cap] ∧ Bk wr (w.heap.size + 1) #[.int .i64 0, .int .i64 0, .int .i64 0, .slice none 0 0] ∧ ∃ v m A C R, Bk wr P2 #[.int .i64 n, .int .i64 M, .int .i64 L, v] ∧ Rla wr (w.heap.size + 3) m v k D' A C R)) (fun _ _ i _ => n - (intOf i).toNat)
  case atStart => exact ⟨0, false, false, by omega, rfl, rfl, rfl, by omega, ⟨by simp, by simp⟩, HB0.out, A0.out, A1.out, _, w.heap.size + 3, fun _ => none, fun _ => 0, fun _ => 0, A2.out, Rla.none _ _ _ _ _ _ _ (by omega)⟩
  case round =>
    obtain ⟨k, hit, back, hk, rfl, rfl, rfl, hsz, HHB, HR⟩ := hrel
    clear A0 A1 A2 HB0
    obtain ⟨hb, B0, B1, v, m, A, C, R, B2, hr⟩ := HR.out
    have j3 := B0.cell 3 _ rfl
    by_cases hlt : k < n
    rotate_left
    · obtain rfl : k = n := by omega
      obtain ⟨a', cap', rfl, hrows⟩ := hr.rows
      have HH : Hid (usedHit (D h) t = hit ∧ usedBack M (D h) t q = back) := by
        have := HHB.out
        simp only [hhn, decide_true, Bool.true_and] at this
        exact ⟨this.1.symm, this.2.symm⟩
      have c0 := B2.cell 0 _ rfl
      have c1 := B2.cell 1 _ rfl
      have c2 := B2.cell 2 _ rfl
      have c3 := B2.cell 3 _ rfl
      have C0 := B1.set 0 (.int .i64 k) (by simp) rfl
      have C1 := C0.set 1 (.int .i64 M) (by simp) rfl
      have C2 := C1.set 2 (.int .i64 L) (by simp) rfl
      have C3 := C2.set 3 (.slice a' k cap') (by simp) rfl
      have f := B1.free
      have m0 := B1.cell 0 _ rfl
      have m1 := C0.cell 1 _ rfl
      have m2 := C1.cell 2 _ rfl
      have m3 := C2.cell 3 _ rfl
      have n0 := C3.cell 0 _ rfl
      have n1 := C3.cell 1 _ rfl
      have n2 := C3.cell 2 _ rfl
      have n3 := C3.cell 3 _ rfl
      have HZ : Hid _ := And.intro hrows (And.intro hb hr.mle)
      clear hrows hb hr B0 B1 B2 C0 C1 C2 C3 HR HHB
      go_wp2
      refine bodyPost_ret (v := .tuple #[cch (k : Int) (M : Int) (L : Int) (.slice a' k cap'), .bool hit, .bool back]) (by simp [results, Try.results24, go_sem, n0, n1, n2, n3]) rfl ⟨a', cap', by rw [HH.out.1, HH.out.2], ?_, ?_⟩
      · exact below_four HZ.out.2.1 (w.heap.size + 1) (by omega) _ _ _ _
      · have hbt := betw_four (Betw.refl (w.heap.size + 1) (w.heap.size + 1 + 1) wr) (w.heap.size + 1) (Nat.le_refl _) (by omega) (.int .i64 k) (.int .i64 M) (.int .i64 L) (.slice a' k cap')
        rw [HD'.out]
        exact (HZ.out.1.betw hbt (.inr (by omega))).wide (by omega) (by have := HZ.out.2.2; simpa using this)
    have hlt' : (k : Int) < (n : Int) := by omega
    obtain ⟨av, cv, rfl⟩ := hr.form
    obtain ⟨b1, o1, a1, c1, rfl, hbl1, e1, s1⟩ := RSeg.at (w := w) HS.out k hlt
    replace e1 := kept_cell hb e1
    have HX : Hid (WSeg wr a1 (D k)) := WSeg.below s1 hb
    have hlen : (D k).length ≤ M := by have := (HOK.out k hlt).1; omega
    have c3 := B2.cell 3 _ rfl
    have f3 := B2.free
    by_cases hkh : k = h
    · rename World => wo
      obtain rfl : k = h := hkh
      have hkk : (((k : Nat) : Int) != ((k : Nat) : Int)) = false := by simp
      have e0 : hit = false := by rw [HHB.out.1]; simp
      have e0' : back = false := by rw [HHB.out.2]; simp
      subst e0
      subst e0'
      have HDk : Hid (D' k = usedRow M (D k) t q) := by rw [← HD'.out]; show useD k M t q D k = _; simp [useD]
      have HRK : Hid (RowOk (M : Int) (D k)) := HOK.out k hlt
      obtain ⟨ws, HWS⟩ : ∃ ws, Hid (D k = ws) := ⟨_, rfl⟩
      rw [HWS.out] at e1 HX hlen HDk HRK
      obtain ⟨len, Hlen⟩ : ∃ len, Hid (ws.length = len) := ⟨_, rfl⟩
      rw [Hlen.out] at e1 hlen
      have hal1 : Below wo.heap.size wo (wo.alloc (.cells #[.int .i64 t, .bool q] 61)) := (Below.refl _ _).alloc (Nat.le_refl _) _
      have HA2 : Hid (Below wo.heap.size wo ((wo.alloc (.cells #[.int .i64 t, .bool q] 61)).alloc (.cells #[] 61))) := hal1.alloc hal1.size _
      have HK2 : Hid (Bk ((wo.alloc (.cells #[.int .i64 t, .bool q] 61)).alloc (.cells #[] 61)) wo.heap.size #[.int .i64 t, .bool q]) := (Bk.new wo #[.int .i64 t, .bool q] 61 wo.heap.size rfl).alloc _
      have HO2 : Hid (OwnW ((wo.alloc (.cells #[.int .i64 t, .bool q] 61)).alloc (.cells #[] 61)) (wo.heap.size + 1) (.slice (some ⟨wo.heap.size + 1, 0, none⟩) 0 0) []) := OwnW.new (wo.alloc (.cells #[.int .i64 t, .bool q] 61)) (wo.heap.size + 1) (by simp)
      obtain ⟨iW, hw1, hw2, hw3, hw4⟩ := infoW'
      have HIW : Hid _ := And.intro hw1 (And.intro hw2 (And.intro hw3 hw4))
      have HST : Hid _ := And.intro hb (And.intro B0 (And.intro B1 (And.intro B2 hr)))
      clear hb B0 B1 B2 hr s1 HR hal1 hw1 hw2 hw3 hw4 c3 f3
      go_wp2
      obtain ⟨W2, HW2⟩ : ∃ W, Hid ((wo.alloc (.cells #[.int .i64 t, .bool q] 61)).alloc (.cells #[] 61) = W) := ⟨_, rfl⟩
      rw [HW2.out] at HA2 HK2 HO2 ⊢
      have hW2 : W2.heap.size = wo.heap.size + 2 := by rw [← HW2.out]; simp
      clear HW2 j3 e1
      go_loopw [13, 18, 19] (fun hv v i w2 => ∃ (j : Nat) (hj : Bool), j ≤ len ∧ i = .int .i64 j ∧ hv = .bool hj ∧ wo.heap.size + 2 ≤ w2.heap.size ∧ Hid (hj = hitU ws t j) ∧ Hid (Below wo.heap.size wo w2 ∧ Bk w2 wo.heap.size #[.int .i64 t, .bool (dirtU ws t q j)] ∧ OwnW w2 (wo.heap.size + 1) v (restU ws t j) ∧ v ≠ .slice none 0 0)) (fun _ _ i _ => len - (intOf i).toNat)
      case atStart => exact ⟨0, false, by omega, rfl, rfl, by omega, (hitU_zero ws t).symm, HA2.out, by rw [dirtU_zero]; exact HK2.out, by rw [restU_zero]; exact HO2.out, by simp⟩
      case round =>
        obtain ⟨j, hj, hjl, rfl, rfl, hsz2, HJ, HR2⟩ := hrel
        clear HA2 HK2 HO2
        obtain ⟨hb2, BW, hown, hvn⟩ := HR2.out
        by_cases hlj : j < len
        rotate_left
        · obtain rfl : j = len := by omega
          obtain ⟨a8, c8, R8, rfl, hc8, how8⟩ := hown.ow
          have hs8 := how8.seg
          have hl8 : (restU ws t j).length ≤ j := restU_len_le ws t j
          obtain ⟨rs', N', bk, hN', HRS⟩ : ∃ (rs' : List Wy) (N' : Nat) (bk : Bool), N' ≤ M ∧ Hid (rs'.length = N' ∧ WSeg wr a8 rs' ∧ usedRow M ws t q = (t, dirtU ws t q j) :: rs' ∧ usedBack M ws t q = bk ∧ ((restU ws t j).length = M ∧ N' + 1 = M ∧ bk = ((restU ws t j).getD (M - 1) wd).2 ∨ (restU ws t j).length ≠ M ∧ N' = (restU ws t j).length ∧ bk = false)) := by
            by_cases hf : (restU ws t j).length = M
            · have := used_full (wr := q) hM1 (ws := ws) (t := t) (by rw [Hlen.out]; exact hf)
              rw [Hlen.out] at this
              exact ⟨_, M - 1, _, by omega, by rw [List.length_take]; omega, hs8.take (M - 1) (by omega), this.1, rfl, .inl ⟨hf, by omega, this.2⟩⟩
            · have := used_room (wr := q) (ws := ws) (t := t) (M := M) (by rw [Hlen.out]; exact hlen) (by rw [Hlen.out]; exact hf)
              rw [Hlen.out] at this
              exact ⟨_, _, _, by omega, rfl, hs8, this.1, this.2, .inr ⟨hf, rfl, rfl⟩⟩
          have HWD : Hid (usedHit ws t = hj) := by rw [HJ.out, ← Hlen.out]; exact hitU_all ws t
          have hbx := HST.out.1.trans (hb2.mono HST.out.1.size)
          obtain ⟨d, HD⟩ : ∃ d, Hid (dirtU ws t q j = d) := ⟨_, rfl⟩
          rw [HD.out] at BW HRS
          have j1 := kept_cell hb2 (HST.out.2.1.cell 1 _ rfl)
          have c3 := kept_cell hb2 (HST.out.2.2.2.1.cell 3 _ rfl)
          have k0 := BW.cell 0 _ rfl
          have k1 := BW.cell 1 _ rfl
          obtain ⟨rs, HRR⟩ : ∃ rs, Hid (restU ws t j = rs) := ⟨_, rfl⟩
          rw [HRR.out] at HRS hl8 hs8 hc8
          rw [HRR.out]
          have HS8 : Hid _ := hs8
          obtain ⟨N, HNR⟩ : ∃ N, Hid (rs.length = N) := ⟨_, rfl⟩
          rw [HNR.out] at hl8 hc8 HRS
          rw [HNR.out]
          have HST2 : Hid _ := And.intro hb2 (And.intro BW hbx)
          clear hb2 BW hown how8 hs8 HR2 hbx HJ
          have hcase : (N = M ∧ N' + 1 = M ∧ bk = (rs.getD (M - 1) wd).2) ∨ (N ≠ M ∧ N' = N ∧ bk = false) := HRS.out.2.2.2.2
          rcases hcase with ⟨rfl, h2, h3⟩ | ⟨h1, rfl, rfl⟩
          · obtain ⟨b8, o8, rfl, hbl8, _, d8⟩ := WSeg.at HS8.out N' (by rw [HNR.out]; omega)
            rw [show N - 1 = N' by omega] at h3
            rw [← h3] at d8
            have hk1 : IntKind.i64.wrap ((N : Int) - 1) = (N' : Int) := by rw [IntKind.wrap_i64]; omega
            have hk3 : (N' : Int) < (N : Int) := by omega
            have hk4 : N' ≤ c8 := by omega
            have hk5 : (N' : Int) ≤ (c8 : Int) := by omega
            have hk6 : N' ≤ 1048575 := by omega
            have HH2 : Hid (N' + 1 = N) := h2
            clear h2 h3
            go_wp2
            have hald : Below wr.heap.size wr (wr.alloc (.cells #[.int .i64 t, .bool d] 61)).drew := ((Below.refl _ _).alloc (Nat.le_refl _) _).drew
            have HON : Hid (OwnW (wr.alloc (.cells #[.int .i64 t, .bool d] 61)).drew wr.heap.size (.slice (some ⟨wr.heap.size, 0, none⟩) 1 1) [(t, d)]) := (OwnW.one wr (t, d) wr.heap.size rfl).below ((Below.refl _ _).drew)
            have HX2 : Hid (WSeg (wr.alloc (.cells #[.int .i64 t, .bool d] 61)).drew (some ⟨b8, o8, none⟩) rs') := WSeg.below HRS.out.2.1 hald
            have HNN : Hid ([(t, d)].length + rs'.length ≤ 1048576) := by show _ ≤ _; rw [HRS.out.1]; simp; omega
            have HLE : Hid (wr.heap.size ≤ (wr.alloc (.cells #[.int .i64 t, .bool d] 61)).drew.heap.size) := hald.size
            have HAL : Hid _ := hald
            have cA := kept_cell hald c3
            have HRL : Hid _ := HRS.out.1
            have HVN : Hid (Value.slice (some ⟨wr.heap.size, 0, none⟩) 1 1 ≠ .slice none 0 0) := fun e => by cases e
            have HN1 : Hid ([(t, d)].length + N' = N' + 1) := by show _ = _; simp; omega
            have HKK : Hid (k + 1 ≤ maxLen ∧ (k + 1) * 24 ≤ 140737488355328) := by show _ ∧ _; unfold maxLen; omega
            have HWS3 : Hid (w.heap.size + 3 ≤ wr.heap.size) := by show _ ≤ _; omega
            have H1 : Hid (0 < 1) := Nat.one_pos
            have HP23 : Hid (P2 < w.heap.size + 3) := by show _ < _; omega
            clear hald
            go_region_law
              (first
                | (refine step_append_ways_s _ rfl (.tmp 115) (.tmp 116) 68 rfl Try.underlying68 wr.heap.size (.slice (some ⟨wr.heap.size, 0, none⟩) 1 1) [(t, d)] rs' (some ⟨b8, o8, none⟩) N' c8 rfl rfl HRL.out HON.out HX2.out HNN.out HLE.out HVN.out (some 117) rfl (N' + 1) HN1.out ?_
                   intro g5 cap5 w5 how5 hgrow5 hc5
                   have hb5 : Below wr.heap.size wr w5 := Below.grown HAL.out hgrow5 HLE.out (fun g e => Nat.le_of_eq (Option.some.inj e))
                   have c5 := kept_cell hb5 c3
                   have hb6 : Below wr.heap.size wr (w5.alloc (.cells #[.slice (some ⟨g5, 0, none⟩) (N' + 1) cap5] 68)) := hb5.alloc hb5.size _
                   have c6 := kept_cell hb6 c3
                   have HR6 : Hid (Rla (w5.alloc (.cells #[.slice (some ⟨g5, 0, none⟩) (N' + 1) cap5] 68)) (w.heap.size + 3) m (.slice av k cv) k D' A C R) := (HST.out.2.2.2.2.below HST2.out.1).below hb6
                   have hown6 := HR6.out.own
                   have H5 : Hid (OW w5 wr.heap.size w5.heap.size (some ⟨g5, 0, none⟩) ((t, d) :: rs') g5 ∧ N' + 1 ≤ cap5 ∧ Below wr.heap.size wr (w5.alloc (.cells #[.slice (some ⟨g5, 0, none⟩) (N' + 1) cap5] 68))) := ⟨how5, hc5, hb6⟩
                   have HS5 : Hid (w.heap.size + 3 ≤ (w5.alloc (.cells #[.slice (some ⟨g5, 0, none⟩) (N' + 1) cap5] 68)).heap.size) := Nat.le_trans HWS3.out hb6.size
                   clear how5 hgrow5 hc5 hb5 hb6)
                | (refine step_append_lies_d rfl (.tmp 113) (.tmp 118) 32 rfl (w.heap.size + 3) 68 iR (.slice none 0 0) 1 24 Try.underlying32 HI.out.1 HI.out.2.1 HI.out.2.2.1 HI.out.2.2.2 rfl H1.out (.slice av k cv) k _ rfl hown6 ⟨w5.heap.size, 0, none⟩ 1 1 [.slice (some ⟨g5, 0, none⟩) (N' + 1) cap5] rfl rfl (news_at w5 _ _ _ rfl) (one_slice _ _ _) H1.out HKK.out.1 HKK.out.2 HS5.out (some 119) rfl ?_
                   intro g cap1 w9 hown1 hgrow hat hlt1
                   have B9 := ((HST.out.2.2.2.1.below HST2.out.1).below H5.out.2.2).grown hgrow (own_low hown6) HP23.out
                   have c9 := B9.cell 3 _ rfl
                   have f9 := B9.free
                   have HY : Hid _ := And.intro hown1 (And.intro hgrow (And.intro hat hlt1))
                   clear hown1 hgrow hat hlt1 B9))
            all_goals
              have HZ : Hid (Below w.heap.size w (w9.setCell ⟨P2, 3, none⟩ (.slice (some ⟨g, 0, none⟩) (k + 1) cap1)) ∧ Bk (w9.setCell ⟨P2, 3, none⟩ (.slice (some ⟨g, 0, none⟩) (k + 1) cap1)) w.heap.size #[.int .i64 n, .int .i64 (N : Nat), .int .i64 L, .slice (some ⟨b1, o1, none⟩) n cap] ∧ Bk (w9.setCell ⟨P2, 3, none⟩ (.slice (some ⟨g, 0, none⟩) (k + 1) cap1)) (w.heap.size + 1) #[.int .i64 0, .int .i64 0, .int .i64 0, .slice none 0 0] ∧ (∃ v m A C R, Bk (w9.setCell ⟨P2, 3, none⟩ (.slice (some ⟨g, 0, none⟩) (k + 1) cap1)) P2 #[.int .i64 n, .int .i64 (N : Nat), .int .i64 L, v] ∧ Rla (w9.setCell ⟨P2, 3, none⟩ (.slice (some ⟨g, 0, none⟩) (k + 1) cap1)) (w.heap.size + 3) m v (k + 1) D' A C R)) := by
                obtain ⟨hown1, hgrow, hat, hlt1⟩ := HY.out
                obtain ⟨hb, B0, B1, B2, hr⟩ := HST.out
                obtain ⟨how, hcp, hb6⟩ := H5.out
                have hb7 := HST2.out.1.trans (hb6.mono HST2.out.1.size)
                have hlow := own_low hown6
                have hbw := hb.trans (hb7.mono hb.size)
                have hm := hr.mle
                have hDD : D' k = (t, d) :: rs' := HDk.out.trans HRS.out.2.2.1
                have how6 : OW (w5.alloc (.cells #[.slice (some ⟨g5, 0, none⟩) (N' + 1) cap5] 68)) (w.heap.size + 3) (w5.alloc (.cells #[.slice (some ⟨g5, 0, none⟩) (N' + 1) cap5] 68)).heap.size (some ⟨g5, 0, none⟩) (D' k) g5 := by
                  rw [hDD]
                  exact (how.below ((Below.refl _ _).alloc (Nat.le_refl _) _)).wide HWS3.out (by simp)
                have h2 := HR6.out.step (some ⟨g5, 0, none⟩) cap5 g5 _ g cap1 how6 (fun h0 => by
                    rw [hDD] at h0
                    obtain ⟨_, _, g1, _⟩ := how h0
                    have := HST2.out.1.size
                    omega) (by rw [hDD, List.length_cons, HRL.out]; exact hcp) (by rw [hDD, List.length_cons, HRL.out]; exact hown1) hgrow hat rfl hlt1
                refine ⟨(hbw.grown hgrow hbw.size (fun g e => by have := hlow g e; omega)).setCell (p := ⟨P2, 3, none⟩) (by show _ ≤ P2; omega) _, ((B0.below hb7).grown hgrow hlow (by omega)).other _ _ _ (by omega), ((B1.below hb7).grown hgrow hlow (by omega)).other _ _ _ (by omega), _, _, _, _, _, ((B2.below hb7).grown hgrow hlow HP23.out).set 3 _ (by simp) rfl, h2.betw ((Betw.refl P2 (P2 + 1) w9).setCell (p := ⟨P2, 3, none⟩) (Nat.le_refl _) (Nat.lt_succ_self _) _) (by have := HP23.out; omega)⟩
              have HS9 : Hid (w.heap.size + 3 ≤ w9.heap.size) := Nat.le_trans HS5.out HY.out.2.1.size
              have HE9 : Hid (hj = (decide (k < k + 1) && usedHit (D k) t) ∧ bk = (decide (k < k + 1) && usedBack (N) (D k) t q)) := by show _ ∧ _; rw [HWS.out, HWD.out, HRS.out.2.2.2.1]; simp
              clear HY HST HST2 HR6 H5 hown6 c3 cA c6 c9 f9 c5 HON HX HX2 HAL HLE HNN k0 k1 j1
              go_wp2
              go_roundw
              case rel => first | exact ⟨k + 1, hj, bk, by omega, by go_num, rfl, rfl, by have := HS9.out; simpa using this, HE9.out, HZ.out⟩ | ((repeat (refine Exists.intro (α := Value) _ ?_)); exact ⟨⟨k + 1, hj, bk, by omega, by go_num, rfl, rfl, by have := HS9.out; simpa using this, HE9.out, HZ.out⟩, rfl⟩)
              case measure => simp [intOf]; omega
          · have hk1 : (((N' : Nat) : Int) == ((M : Nat) : Int)) = false := by simp; omega
            go_wp2
            have hald : Below wr.heap.size wr (wr.alloc (.cells #[.int .i64 t, .bool d] 61)).drew := ((Below.refl _ _).alloc (Nat.le_refl _) _).drew
            have HON : Hid (OwnW (wr.alloc (.cells #[.int .i64 t, .bool d] 61)).drew wr.heap.size (.slice (some ⟨wr.heap.size, 0, none⟩) 1 1) [(t, d)]) := (OwnW.one wr (t, d) wr.heap.size rfl).below ((Below.refl _ _).drew)
            have HX2 : Hid (WSeg (wr.alloc (.cells #[.int .i64 t, .bool d] 61)).drew a8 rs') := WSeg.below HRS.out.2.1 hald
            have HNN : Hid ([(t, d)].length + rs'.length ≤ 1048576) := by show _ ≤ _; rw [HRS.out.1]; simp; omega
            have HLE : Hid (wr.heap.size ≤ (wr.alloc (.cells #[.int .i64 t, .bool d] 61)).drew.heap.size) := hald.size
            have HAL : Hid _ := hald
            have cA := kept_cell hald c3
            have HRL : Hid _ := HRS.out.1
            have HVN : Hid (Value.slice (some ⟨wr.heap.size, 0, none⟩) 1 1 ≠ .slice none 0 0) := fun e => by cases e
            have HN1 : Hid ([(t, d)].length + N' = N' + 1) := by show _ = _; simp; omega
            have HKK : Hid (k + 1 ≤ maxLen ∧ (k + 1) * 24 ≤ 140737488355328) := by show _ ∧ _; unfold maxLen; omega
            have HWS3 : Hid (w.heap.size + 3 ≤ wr.heap.size) := by show _ ≤ _; omega
            have H1 : Hid (0 < 1) := Nat.one_pos
            have HP23 : Hid (P2 < w.heap.size + 3) := by show _ < _; omega
            clear hald
            go_region_law
              (first
                | (refine step_append_ways_s _ rfl (.tmp 115) (.tmp 116) 68 rfl Try.underlying68 wr.heap.size (.slice (some ⟨wr.heap.size, 0, none⟩) 1 1) [(t, d)] rs' a8 N' c8 rfl rfl HRL.out HON.out HX2.out HNN.out HLE.out HVN.out (some 117) rfl (N' + 1) HN1.out ?_
                   intro g5 cap5 w5 how5 hgrow5 hc5
                   have hb5 : Below wr.heap.size wr w5 := Below.grown HAL.out hgrow5 HLE.out (fun g e => Nat.le_of_eq (Option.some.inj e))
                   have c5 := kept_cell hb5 c3
                   have hb6 : Below wr.heap.size wr (w5.alloc (.cells #[.slice (some ⟨g5, 0, none⟩) (N' + 1) cap5] 68)) := hb5.alloc hb5.size _
                   have c6 := kept_cell hb6 c3
                   have HR6 : Hid (Rla (w5.alloc (.cells #[.slice (some ⟨g5, 0, none⟩) (N' + 1) cap5] 68)) (w.heap.size + 3) m (.slice av k cv) k D' A C R) := (HST.out.2.2.2.2.below HST2.out.1).below hb6
                   have hown6 := HR6.out.own
                   have H5 : Hid (OW w5 wr.heap.size w5.heap.size (some ⟨g5, 0, none⟩) ((t, d) :: rs') g5 ∧ N' + 1 ≤ cap5 ∧ Below wr.heap.size wr (w5.alloc (.cells #[.slice (some ⟨g5, 0, none⟩) (N' + 1) cap5] 68))) := ⟨how5, hc5, hb6⟩
                   have HS5 : Hid (w.heap.size + 3 ≤ (w5.alloc (.cells #[.slice (some ⟨g5, 0, none⟩) (N' + 1) cap5] 68)).heap.size) := Nat.le_trans HWS3.out hb6.size
                   clear how5 hgrow5 hc5 hb5 hb6)
                | (refine step_append_lies_d rfl (.tmp 113) (.tmp 118) 32 rfl (w.heap.size + 3) 68 iR (.slice none 0 0) 1 24 Try.underlying32 HI.out.1 HI.out.2.1 HI.out.2.2.1 HI.out.2.2.2 rfl H1.out (.slice av k cv) k _ rfl hown6 ⟨w5.heap.size, 0, none⟩ 1 1 [.slice (some ⟨g5, 0, none⟩) (N' + 1) cap5] rfl rfl (news_at w5 _ _ _ rfl) (one_slice _ _ _) H1.out HKK.out.1 HKK.out.2 HS5.out (some 119) rfl ?_
                   intro g cap1 w9 hown1 hgrow hat hlt1
                   have B9 := ((HST.out.2.2.2.1.below HST2.out.1).below H5.out.2.2).grown hgrow (own_low hown6) HP23.out
                   have c9 := B9.cell 3 _ rfl
                   have f9 := B9.free
                   have HY : Hid _ := And.intro hown1 (And.intro hgrow (And.intro hat hlt1))
                   clear hown1 hgrow hat hlt1 B9))
            all_goals
              have HZ : Hid (Below w.heap.size w (w9.setCell ⟨P2, 3, none⟩ (.slice (some ⟨g, 0, none⟩) (k + 1) cap1)) ∧ Bk (w9.setCell ⟨P2, 3, none⟩ (.slice (some ⟨g, 0, none⟩) (k + 1) cap1)) w.heap.size #[.int .i64 n, .int .i64 (M : Nat), .int .i64 L, .slice (some ⟨b1, o1, none⟩) n cap] ∧ Bk (w9.setCell ⟨P2, 3, none⟩ (.slice (some ⟨g, 0, none⟩) (k + 1) cap1)) (w.heap.size + 1) #[.int .i64 0, .int .i64 0, .int .i64 0, .slice none 0 0] ∧ (∃ v m A C R, Bk (w9.setCell ⟨P2, 3, none⟩ (.slice (some ⟨g, 0, none⟩) (k + 1) cap1)) P2 #[.int .i64 n, .int .i64 (M : Nat), .int .i64 L, v] ∧ Rla (w9.setCell ⟨P2, 3, none⟩ (.slice (some ⟨g, 0, none⟩) (k + 1) cap1)) (w.heap.size + 3) m v (k + 1) D' A C R)) := by
                obtain ⟨hown1, hgrow, hat, hlt1⟩ := HY.out
                obtain ⟨hb, B0, B1, B2, hr⟩ := HST.out
                obtain ⟨how, hcp, hb6⟩ := H5.out
                have hb7 := HST2.out.1.trans (hb6.mono HST2.out.1.size)
                have hlow := own_low hown6
                have hbw := hb.trans (hb7.mono hb.size)
                have hm := hr.mle
                have hDD : D' k = (t, d) :: rs' := HDk.out.trans HRS.out.2.2.1
                have how6 : OW (w5.alloc (.cells #[.slice (some ⟨g5, 0, none⟩) (N' + 1) cap5] 68)) (w.heap.size + 3) (w5.alloc (.cells #[.slice (some ⟨g5, 0, none⟩) (N' + 1) cap5] 68)).heap.size (some ⟨g5, 0, none⟩) (D' k) g5 := by
                  rw [hDD]
                  exact (how.below ((Below.refl _ _).alloc (Nat.le_refl _) _)).wide HWS3.out (by simp)
                have h2 := HR6.out.step (some ⟨g5, 0, none⟩) cap5 g5 _ g cap1 how6 (fun h0 => by
                    rw [hDD] at h0
                    obtain ⟨_, _, g1, _⟩ := how h0
                    have := HST2.out.1.size
                    omega) (by rw [hDD, List.length_cons, HRL.out]; exact hcp) (by rw [hDD, List.length_cons, HRL.out]; exact hown1) hgrow hat rfl hlt1
                refine ⟨(hbw.grown hgrow hbw.size (fun g e => by have := hlow g e; omega)).setCell (p := ⟨P2, 3, none⟩) (by show _ ≤ P2; omega) _, ((B0.below hb7).grown hgrow hlow (by omega)).other _ _ _ (by omega), ((B1.below hb7).grown hgrow hlow (by omega)).other _ _ _ (by omega), _, _, _, _, _, ((B2.below hb7).grown hgrow hlow HP23.out).set 3 _ (by simp) rfl, h2.betw ((Betw.refl P2 (P2 + 1) w9).setCell (p := ⟨P2, 3, none⟩) (Nat.le_refl _) (Nat.lt_succ_self _) _) (by have := HP23.out; omega)⟩
              have HS9 : Hid (w.heap.size + 3 ≤ w9.heap.size) := Nat.le_trans HS5.out HY.out.2.1.size
              have HE9 : Hid (hj = (decide (k < k + 1) && usedHit (D k) t) ∧ false = (decide (k < k + 1) && usedBack (M) (D k) t q)) := by show _ ∧ _; rw [HWS.out, HWD.out, HRS.out.2.2.2.1]; simp
              clear HY HST HST2 HR6 H5 hown6 c3 cA c6 c9 f9 c5 HON HX HX2 HAL HLE HNN k0 k1 j1
              go_wp2
              go_roundw
              case rel => first | exact ⟨k + 1, hj, false, by omega, by go_num, rfl, rfl, by have := HS9.out; simpa using this, HE9.out, HZ.out⟩ | ((repeat (refine Exists.intro (α := Value) _ ?_)); exact ⟨⟨k + 1, hj, false, by omega, by go_num, rfl, rfl, by have := HS9.out; simpa using this, HE9.out, HZ.out⟩, rfl⟩)
              case measure => simp [intOf]; omega
        have hlj' : (j : Int) < (len : Int) := by omega
        obtain ⟨b2, o2, rfl, hbl2, c2, d2⟩ := WSeg.at HX.out j (by rw [Hlen.out]; exact hlj)
        replace c2 := kept_cell hb2 c2
        replace d2 := kept_cell hb2 d2
        have HJL : Hid (j < ws.length) := by show _ < _; rw [Hlen.out]; exact hlj
        by_cases hx : (ws.getD j wd).1 = t
        · have hpos : posT ws t = j := pos_uniq HRK.out HJL.out hx
          have HN : Hid (hitU ws t (j + 1) = true ∧ dirtU ws t q (j + 1) = (q || (ws.getD j wd).2) ∧ restU ws t (j + 1) = restU ws t j) := ⟨hitU_hit hpos, dirtU_hit hpos, restU_hit HJL.out hpos⟩
          rw [hx] at c2
          generalize (ws.getD j wd).2 = d at d2 HN
          have k1 := BW.cell 1 _ rfl
          have f := BW.free
          have HST2 : Hid _ := And.intro hb2 (And.intro BW (And.intro hown hvn))
          clear hb2 BW hown hvn HR2 hpos hx hbl2
          cases q
          · go_wp2
            go_roundw
            case rel => exact ⟨j + 1, true, by omega, by go_num, rfl, by simpa using hsz2, HN.out.1.symm, HST2.out.1.setCell (p := ⟨wo.heap.size, 1, none⟩) (Nat.le_refl _) _, by rw [HN.out.2.1]; exact HST2.out.2.1.set 1 _ (by simp) (by simp), by rw [HN.out.2.2]; exact ownsRow_betw HST2.out.2.2.1 ((Betw.refl wo.heap.size (wo.heap.size + 1) wr).setCell (p := ⟨wo.heap.size, 1, none⟩) (Nat.le_refl _) (Nat.lt_succ_self _) _) (Nat.le_refl _), HST2.out.2.2.2⟩
            case measure => simp [intOf]; omega
          · go_wp2
            go_roundw
            case rel => exact ⟨j + 1, true, by omega, by go_num, rfl, by simpa using hsz2, HN.out.1.symm, HST2.out.1.setCell (p := ⟨wo.heap.size, 1, none⟩) (Nat.le_refl _) _, by rw [HN.out.2.1]; exact HST2.out.2.1.set 1 _ (by simp) (by simp), by rw [HN.out.2.2]; exact ownsRow_betw HST2.out.2.2.1 ((Betw.refl wo.heap.size (wo.heap.size + 1) wr).setCell (p := ⟨wo.heap.size, 1, none⟩) (Nat.le_refl _) (Nat.lt_succ_self _) _) (Nat.le_refl _), HST2.out.2.2.2⟩
            case measure => simp [intOf]; omega
        have HN : Hid (hitU ws t (j + 1) = hitU ws t j ∧ dirtU ws t q (j + 1) = dirtU ws t q j ∧ restU ws t (j + 1) = restU ws t j ++ [ws.getD j wd]) := ⟨hitU_miss HJL.out hx, dirtU_miss HJL.out hx, restU_miss (y := 0) HJL.out hx⟩
        have hrl : (restU ws t j).length ≤ j := restU_len_le ws t j
        generalize ws.getD j wd = x at c2 d2 hx HN
        obtain ⟨z, d⟩ := x
        simp only at c2 d2 hx
        have hx' : (z == t) = false := by simp [hx]
        generalize restU ws t j = ys at hown HN hrl
        have hal : Below wr.heap.size wr (wr.alloc (.cells #[.int .i64 z, .bool d] 61)) := (Below.refl _ _).alloc (Nat.le_refl _) _
        have hown2 : (wr.alloc (.cells #[.int .i64 z, .bool d] 61)).ownsRow (wo.heap.size + 1) 61 2 u18 ys.length (wayCells ys) := OwnW.below hown hal
        have HST2 : Hid _ := And.intro hb2 (And.intro BW (And.intro hown hal))
        clear hb2 BW hown hvn HR2 hx hbl2 hal
        go_wp2_with (at_builtin; (refine wpList_append_lies _ rfl (.tmp 87) (.tmp 92) 68 rfl (wo.heap.size + 1) 61 iW (.agg #[.int .i64 0, .bool false]) 2 16 Try.underlying68 HIW.out.1 HIW.out.2.1 HIW.out.2.2.1 HIW.out.2.2.2 rfl (by omega) _ _ _ rfl hown2 _ 1 1 [.int .i64 z, .bool d] rfl rfl (news_way _ _ _ _ rfl) (one_way _ _) (by omega) (by unfold maxLen; omega) (by omega) (by simp; omega) _ rfl ?_; intro gg cap1 w9 hown1 hgrow hat hlt1; have HY : Hid _ := And.intro hown1 hgrow; clear hown1 hgrow hat hlt1))
        go_roundw
        case rel =>
          obtain ⟨q1, q2⟩ := HY.out
          obtain ⟨hb2, BW, hown, hal⟩ := HST2.out
          have hlow := own_low hown2
          have hb6 := hb2.trans (hal.mono hb2.size)
          exact ⟨j + 1, hj, by omega, by go_num, rfl, Nat.le_trans hsz2 (Nat.le_trans hal.size q2.size), by rw [HN.out.1]; exact HJ.out, Below.grown hb6 q2 hb6.size (fun g e => by have := hlow g e; omega), by rw [HN.out.2.1]; exact (BW.below hal).grown q2 hlow (by omega), by rw [HN.out.2.2]; exact OwnW.snoc q1, by simp⟩
        case measure => simp [intOf]; omega
    have hkh' : (((k : Nat) : Int) != ((h : Nat) : Int)) = true := by simp; omega
    have HDk : Hid (D' k = D k) := by rw [← HD'.out]; show useD h M t q D k = D k; simp [useD, hkh]
    obtain ⟨ws, HWS⟩ : ∃ ws, Hid (D k = ws) := ⟨_, rfl⟩
    rw [HWS.out] at e1 HX hlen HDk
    obtain ⟨len, Hlen⟩ : ∃ len, Hid (ws.length = len) := ⟨_, rfl⟩
    rw [Hlen.out] at e1 hlen
    have hald : Below wr.heap.size wr (wr.alloc (.cells #[] 61)).drew := ((Below.refl _ _).alloc (Nat.le_refl _) _).drew
    have HON : Hid (OwnW (wr.alloc (.cells #[] 61)).drew wr.heap.size (.slice (some ⟨wr.heap.size, 0, none⟩) 0 0) []) := (OwnW.new wr wr.heap.size rfl).below ((Below.refl _ _).drew)
    have HX2 : Hid (WSeg (wr.alloc (.cells #[] 61)).drew a1 ws) := HX.out.below hald
    have HNN : Hid (([] : List Wy).length + ws.length ≤ 1048576) := by show _ ≤ _; rw [Hlen.out]; simp; omega
    have HLE : Hid (wr.heap.size ≤ (wr.alloc (.cells #[] 61)).drew.heap.size) := hald.size
    have HAL : Hid _ := hald
    have cA := kept_cell hald c3
    clear hald
    have HST : Hid _ := And.intro hb (And.intro B0 (And.intro B1 (And.intro B2 hr)))
    clear hb B0 B1 B2 hr s1 HR HWS
    go_wp2
    go_region_law
      (first
        | (refine step_append_ways _ rfl (.tmp 55) (.tmp 56) 68 rfl Try.underlying68 wr.heap.size (.slice (some ⟨wr.heap.size, 0, none⟩) 0 0) [] ws a1 len c1 rfl rfl Hlen.out HON.out HX2.out HNN.out HLE.out (by simp) ?_
           intro v5 w5 hown5 hgrow5 hne5 hat5
           replace hown5 : OwnW w5 wr.heap.size v5 ws := hown5
           obtain ⟨a5, cap5, R5, e5, hc5, how5⟩ := hown5.ow
           rw [Hlen.out] at e5
           subst e5
           have hb5 : Below wr.heap.size wr w5 := Below.grown HAL.out hgrow5 HLE.out (fun g e => by simp only [Value.ownBlock, Option.some.injEq] at e; omega)
           have c5 := kept_cell hb5 c3
           have hb6 : Below wr.heap.size wr (w5.alloc (.cells #[.slice a5 len cap5] 68)) := hb5.alloc hb5.size _
           have c6 := kept_cell hb6 c3
           have HR6 : Hid (Rla (w5.alloc (.cells #[.slice a5 len cap5] 68)) (w.heap.size + 3) m (.slice av k cv) k D' A C R) := HST.out.2.2.2.2.below hb6
           have hown6 := HR6.out.own
           have H5 : Hid (OW w5 wr.heap.size w5.heap.size a5 ws R5 ∧ ws.length ≤ cap5 ∧ Below wr.heap.size wr (w5.alloc (.cells #[.slice a5 len cap5] 68))) := ⟨how5, hc5, hb6⟩
           have hs5 : w.heap.size + 3 ≤ (w5.alloc (.cells #[.slice a5 len cap5] 68)).heap.size := Nat.le_trans hsz hb6.size
           clear hown5 hgrow5 hne5 hat5 hc5 how5 hb5 hb6)
        | (refine step_append_lies _ rfl (.tmp 54) (.tmp 58) 32 rfl (w.heap.size + 3) 68 iR (.slice none 0 0) 1 24 Try.underlying32 HI.out.1 HI.out.2.1 HI.out.2.2.1 HI.out.2.2.2 rfl (by omega) (.slice av k cv) k _ rfl hown6 ⟨w5.heap.size, 0, none⟩ 1 1 [.slice a5 len cap5] rfl rfl (news_at w5 _ _ _ rfl) (one_slice _ _ _) (by omega) (by unfold maxLen; omega) (by omega) hs5 _ rfl ?_
           intro g cap1 w9 hown1 hgrow hat hlt1
           have B9 := (HST.out.2.2.2.1.below H5.out.2.2).grown hgrow (own_low hown6) (by omega)
           have c9 := B9.cell 3 _ rfl
           have f9 := B9.free
           have HY : Hid _ := And.intro hown1 (And.intro hgrow (And.intro hat hlt1))
           clear hown1 hgrow hat hlt1 B9))
    all_goals
      have HZ : Hid (Below w.heap.size w (w9.setCell ⟨P2, 3, none⟩ (.slice (some ⟨g, 0, none⟩) (k + 1) cap1)) ∧ Bk (w9.setCell ⟨P2, 3, none⟩ (.slice (some ⟨g, 0, none⟩) (k + 1) cap1)) w.heap.size #[.int .i64 n, .int .i64 M, .int .i64 L, .slice (some ⟨b1, o1, none⟩) n cap] ∧ Bk (w9.setCell ⟨P2, 3, none⟩ (.slice (some ⟨g, 0, none⟩) (k + 1) cap1)) (w.heap.size + 1) #[.int .i64 0, .int .i64 0, .int .i64 0, .slice none 0 0] ∧ (∃ v m A C R, Bk (w9.setCell ⟨P2, 3, none⟩ (.slice (some ⟨g, 0, none⟩) (k + 1) cap1)) P2 #[.int .i64 n, .int .i64 M, .int .i64 L, v] ∧ Rla (w9.setCell ⟨P2, 3, none⟩ (.slice (some ⟨g, 0, none⟩) (k + 1) cap1)) (w.heap.size + 3) m v (k + 1) D' A C R)) := by
        obtain ⟨hown1, hgrow, hat, hlt1⟩ := HY.out
        obtain ⟨hb, B0, B1, B2, hr⟩ := HST.out
        obtain ⟨how, hcp, hb6⟩ := H5.out
        have hlow := own_low hown6
        have hbw := hb.trans (hb6.mono hb.size)
        have hm := hr.mle
        have how6 : OW (w5.alloc (.cells #[.slice a5 len cap5] 68)) (w.heap.size + 3) (w5.alloc (.cells #[.slice a5 len cap5] 68)).heap.size a5 (D' k) R5 := by
          rw [HDk.out]
          exact (how.below ((Below.refl _ _).alloc (Nat.le_refl _) _)).wide hsz (by simp)
        have h2 := HR6.out.step a5 cap5 R5 _ g cap1 how6 (fun h0 => by
            rw [HDk.out] at h0
            obtain ⟨_, _, g1, _⟩ := how h0
            omega) (by rw [HDk.out]; exact hcp) (by rw [HDk.out, Hlen.out]; exact hown1) hgrow hat rfl hlt1
        refine ⟨(hbw.grown hgrow hbw.size (fun g e => by have := hlow g e; omega)).setCell (p := ⟨P2, 3, none⟩) (by show _ ≤ P2; omega) _, ((B0.below hb6).grown hgrow hlow (by omega)).other _ _ _ (by omega), ((B1.below hb6).grown hgrow hlow (by omega)).other _ _ _ (by omega), _, _, _, _, _, ((B2.below hb6).grown hgrow hlow (by omega)).set 3 _ (by simp) rfl, h2.betw ((Betw.refl P2 (P2 + 1) w9).setCell (p := ⟨P2, 3, none⟩) (Nat.le_refl _) (Nat.lt_succ_self _) _) (by omega)⟩
      have HS9 : Hid (w.heap.size + 3 ≤ w9.heap.size) := Nat.le_trans hs5 HY.out.2.1.size
      clear HY HST HR6 H5 hown6 c3 cA c6 c9 f9 f3 c5 e1 j3 HON HX HX2 HAL HLE HNN
      go_wp2
      go_roundw
      case rel => exact ⟨k + 1, hit, back, by omega, by go_num, rfl, rfl, by have := HS9.out; simpa using this, ⟨by rw [HHB.out.1]; congr 1; simp; omega, by rw [HHB.out.2]; congr 1; simp; omega⟩, HZ.out⟩
      case measure => simp [intOf]; omega
end Go.Proofs.Ytmbpmhmehiiiaaa
