
/-
  The walk of FnHealth: whatever policy and run of faults were drawn, the law returns true and nothing that was there is written. Conditions: the bytes read as bytes, at most 1048576 of them.
-/
import Derived.Test.YtnjjjcmomjcmfaaRows
import Derived.Test.YtnjjjcmomjcmfaaHtr
import Derived.Test.YtnjjjcmomjcmfaaHda
namespace Go.Proofs.Ytnjjjcmomjcmfaa
open Go.ChangeShapes Go.WideShapes Go.ChangeAt Go.RowKit Go.Deep
set_option linter.unusedVariables false

theorem big_no (a : Option Addr) (n cap : Nat) (w : World) (h : n ≤ 1048576) : Calls Try.prog 26 #[.slice a n cap] w fun e w' => e = .returned (.bool false) ∧ w' = w := by
  have hg : ¬ ((1048576 : Int) < (n : Int)) := by omega
  go_enter Try.func26, Try.ntmps26
  go_wp2
  go_ret
  exact ⟨rfl, rfl⟩
theorem big_yes (a : Option Addr) (n cap : Nat) (w : World) (h : ¬ n ≤ 1048576) : Calls Try.prog 26 #[.slice a n cap] w fun e w' => e = .returned (.bool true) ∧ w' = w := by
  have hg : (1048576 : Int) < (n : Int) := by omega
  go_enter Try.func26, Try.ntmps26
  go_wp2
  go_ret
  exact ⟨rfl, rfl⟩
theorem OI.at {w : World} {lo hi : Nat} {a : Option Addr} {zs : List Int} (h : OI w lo hi a zs) (i : Nat) (hi' : i < zs.length) : ∃ b off, a = some ⟨b, off, none⟩ ∧ b < w.heap.size ∧ w.cell? ⟨b, off + i, none⟩ = some (.int .i64 (zs.getD i 0)) := by
  obtain ⟨B, off, e, _, _, hlt, hc, _⟩ := h (by omega)
  exact ⟨B, off, e, hlt, hc i hi'⟩
set_option maxRecDepth 20000 in
set_option maxHeartbeats 8000000 in
theorem health_law (a : Option Addr) (n cap : Nat) (zs : List Int) (w : World) (hl : zs.length = n) (hs : Seg .u8 w a zs) (hb8 : ∀ z ∈ zs, (Lit.int .u8 z).wf = true) (hn : n ≤ 1048576) :
    Calls Try.prog 8 #[.slice a n cap] w fun e w' => e = .returned (.bool true) ∧ Below w.heap.size w w' := by
  have HD : Hid (Calls Try.prog 27 #[.slice a n cap] w fun e w' => ∃ (k m : Int) (a' : Option Addr) (ys : List Int) (n' c' : Nat), e = .returned (.tuple #[pol k m, .slice a' n' c']) ∧ Below w.heap.size w w' ∧ OI w' w.heap.size w'.heap.size a' ys ∧ ys.length = n' ∧ n' ≤ 1001) := draw_run w a zs cap n hs hb8 hn hl
  clear hs hb8 hl
  go_enter Try.func8, Try.ntmps8
  go_wp2_with fail
  refine (big_no a n cap _ hn).mono ?_
  rintro e w0 ⟨rfl, h0⟩
  rw [h0]
  clear h0 w0
  go_wp2_with fail
  refine Calls.mono HD.out ?_
  rintro e w1 ⟨k, m, a1, xs, n1, c1, rfl, hb1, ho1, hx1, hn1⟩
  obtain ⟨s, ys, y, hyl, hy0, htr, hsp, him⟩ := run_both k m xs n1 hx1 (by omega)
  obtain ⟨fF, rF, lF, bF⟩ := s
  have hal : Below w1.heap.size w1 (w1.alloc (.cells (prow k m) 25)) := (Below.refl _ _).alloc (Nat.le_refl _) _
  have HB1 : Hid (Below w.heap.size w (w1.alloc (.cells (prow k m) 25))) := hb1.trans (hal.mono hb1.size)
  have P1 : Hid (Bk (w1.alloc (.cells (prow k m) 25)) w1.heap.size (prow k m)) := Bk.new _ _ _ _ rfl
  have X1 : Hid (Seg .i64 (w1.alloc (.cells (prow k m) 25)) a1 xs) := OI.seg (OI.below ho1 hal)
  have HSP : Hid (∀ (X : World) a1 c1, Seg .i64 X a1 xs → Calls Try.prog 20 #[pol k m, .slice a1 n1 c1] X fun e w' => ∃ a' c', e = .returned (.tuple #[hlt fF rF lF bF, .slice a' y c']) ∧ Below X.heap.size X w' ∧ OI w' X.heap.size w'.heap.size a' ys) := hsp
  have HIM : Hid (∀ (X : World) a1 c1, Seg .i64 X a1 xs → Calls Try.prog 22 #[pol k m, .slice a1 n1 c1] X fun e w' => ∃ a' c', e = .returned (.tuple #[hlt fF rF lF bF, .slice a' y c']) ∧ Below X.heap.size X w' ∧ OI w' X.heap.size w'.heap.size a' ys) := him
  have HTR : Hid (Tr k m ys y (fF, rF, lF, bF)) := htr
  have HYL : Hid (ys.length = y) := hyl
  clear HD hb1 ho1 hx1 hsp him htr hyl hal
  go_wp2_with fail
  refine Calls.mono (HIM.out _ a1 c1 X1.out) ?_
  rintro e w2 ⟨a2, c2, rfl, hb2, ho2⟩
  have hal : Below w2.heap.size w2 (w2.alloc (.cells (hrow fF rF lF bF) 31)) := (Below.refl _ _).alloc (Nat.le_refl _) _
  have hb2' := hb2.trans (hal.mono hb2.size)
  have HB2 : Hid (Below w.heap.size w (w2.alloc (.cells (hrow fF rF lF bF) 31))) := HB1.out.trans (hb2'.mono HB1.out.size)
  have P2 : Hid (Bk (w2.alloc (.cells (hrow fF rF lF bF) 31)) w1.heap.size (prow k m)) := P1.out.below hb2'
  have X2 : Hid (Seg .i64 (w2.alloc (.cells (hrow fF rF lF bF) 31)) a1 xs) := X1.out.below hb2'
  have Q2 : Hid (Bk (w2.alloc (.cells (hrow fF rF lF bF) 31)) w2.heap.size (hrow fF rF lF bF)) := Bk.new _ _ _ _ rfl
  have A2 : Hid (Seg .i64 (w2.alloc (.cells (hrow fF rF lF bF) 31)) a2 ys) := OI.seg (OI.below ho2 hal)
  clear HB1 P1 X1 hb2 hb2' ho2 hal HIM
  have p0 := P2.out.cell 0 _ rfl
  have p1 := P2.out.cell 1 _ rfl
  go_wp2_with fail
  refine Calls.mono (HSP.out _ a1 c1 X2.out) ?_
  rintro e w3 ⟨a3, c3, rfl, hb3, ho3⟩
  clear p0 p1
  have hal : Below w3.heap.size w3 (w3.alloc (.cells (hrow fF rF lF bF) 31)) := (Below.refl _ _).alloc (Nat.le_refl _) _
  have hb3' := hb3.trans (hal.mono hb3.size)
  have hB3 : Below w.heap.size w (w3.alloc (.cells (hrow fF rF lF bF) 31)) := HB2.out.trans (hb3'.mono HB2.out.size)
  have hP3 : Bk (w3.alloc (.cells (hrow fF rF lF bF) 31)) w1.heap.size (prow k m) := P2.out.below hb3'
  have hQ3 : Bk (w3.alloc (.cells (hrow fF rF lF bF) 31)) w2.heap.size (hrow fF rF lF bF) := Q2.out.below hb3'
  have hA3 : Seg .i64 (w3.alloc (.cells (hrow fF rF lF bF) 31)) a2 ys := A2.out.below hb3'
  clear HB2 P2 X2 Q2 A2 hb3 hb3' ho3 hal HSP
  go_wp2
  revert hB3 hP3 hQ3 hA3
  generalize w3.alloc (.cells (hrow fF rF lF bF) 31) = V
  generalize w3.heap.size = K3
  intro hB3 hP3 hQ3 hA3
  have HB : Hid (Below w.heap.size w V) := hB3
  have P : Hid (Bk V w1.heap.size (prow k m)) := hP3
  have Q : Hid (Bk V w2.heap.size (hrow fF rF lF bF)) := hQ3
  have A : Hid (Seg .i64 V a2 ys) := hA3
  clear hB3 hP3 hQ3 hA3
  obtain ⟨st, hst0, hsty, hstep, hinv⟩ := HTR.out
  have HS0 : Hid (st 0 = (0, 0, 0, false)) := hst0
  have HSY : Hid (st y = (fF, rF, lF, bF)) := hsty
  have HSTEP : Hid (∀ j, j < y → StepQ (st j) (ys.getD j 0) (st (j + 1))) := hstep
  have HINV : Hid (∀ j, j ≤ y → Inv k m j (st j)) := hinv
  clear hst0 hsty hstep hinv HTR
  go_loopw [9, 10, 11, 12] (fun r f b i wr => ∃ j : Nat, j ≤ y ∧ i = .int .i64 j ∧ r = .int .i64 (st j).2.1 ∧ f = .int .i64 (st j).1 ∧ b = .bool (st j).2.2.2 ∧ wr = V) (fun _ _ _ i _ => y - (intOf i).toNat)
  case atStart => exact ⟨0, by omega, rfl, by rw [HS0.out], by rw [HS0.out], by rw [HS0.out], rfl⟩
  case round =>
    obtain ⟨j, hj, rfl, hr, hf, hb, rfl⟩ := hrel
    have hi := HINV.out j hj
    by_cases hjy : j < y
    · have hjy' : (j : Int) < (y : Int) := by omega
      obtain ⟨b1, o1, rfl, hbl1, e1⟩ := Seg.at (w := wr) A.out j (by rw [HYL.out]; exact hjy)
      have hq := HSTEP.out j hjy
      obtain ⟨s2, HS2⟩ : ∃ s2, Hid (st (j + 1) = s2) := ⟨_, rfl⟩
      rw [HS2.out] at hq
      generalize st j = s1 at hq hi hr hf hb
      generalize ys.getD j 0 = x at e1 hq
      obtain ⟨f1, r1, l1, b2⟩ := s1
      obtain ⟨f2, r2, l2, b3⟩ := s2
      obtain ⟨⟨f10, f11⟩, ⟨r10, r11⟩, -, -, -, -⟩ := hi
      simp only at f10 f11 r10 r11 hr hf hb
      subst hr hf hb
      clear hbl1
      have hE2 : f2 = f2 := rfl
      rcases hq with ⟨q1, q2, q3, q4⟩ | ⟨q1, q2, hq⟩
      · simp only at q1 q2 q3 q4
        subst q1 q2 q3 q4
        cases b3
        · go_wp2
          go_roundw
          case rel => exact ⟨j + 1, by omega, by go_num, by rw [HS2.out], by rw [HS2.out], by rw [HS2.out], trivial⟩
          case measure => simp [intOf]; omega
        · go_wp2
          go_roundw
          case rel => exact ⟨j + 1, by omega, by go_num, by rw [HS2.out], by rw [HS2.out], by rw [HS2.out], trivial⟩
          case measure => simp [intOf]; omega
      · simp only at q1 q2 hq
        subst q1 q2
        have hwf : IntKind.i64.wrap (f1 + 1) = f1 + 1 := by rw [IntKind.wrap_i64]; omega
        have hwr : IntKind.i64.wrap (r1 + 1) = r1 + 1 := by rw [IntKind.wrap_i64]; omega
        rcases hq with ⟨q1, q2, q3⟩ | ⟨q1, q2, q3⟩ | ⟨q1, q2, q3⟩
        · subst q1 q2 q3
          go_wp2
          go_roundw
          case rel => exact ⟨j + 1, by omega, by go_num, by rw [HS2.out], by rw [HS2.out], by rw [HS2.out], trivial⟩
          case measure => simp [intOf]; omega
        · subst q1 q2 q3
          go_wp2
          go_roundw
          case rel => exact ⟨j + 1, by omega, by go_num, by rw [HS2.out], by rw [HS2.out], by rw [HS2.out], trivial⟩
          case measure => simp [intOf]; omega
        · subst q1 q2 q3
          go_wp2
          go_roundw
          case rel => exact ⟨j + 1, by omega, by go_num, by rw [HS2.out], by rw [HS2.out], by rw [HS2.out], trivial⟩
          case measure => simp [intOf]; omega
    · obtain rfl : j = y := by omega
      rw [HSY.out] at hi hr hf hb
      simp only at hr hf hb
      subst hr hf hb
      obtain ⟨⟨f10, f11⟩, ⟨r10, r11⟩, hrm, hbk, l10, l11⟩ := hi
      simp only at f10 f11 r10 r11 hrm hbk l10 l11
      have hok : opF fF rF lF = (fF, rF) := by
        have : hltOk fF rF lF = true := by
          unfold hltOk
          rw [inr_yes ⟨f10, by omega⟩, inr_yes ⟨r10, by omega⟩, inr_yes ⟨l10, l11⟩]
          rfl
        unfold opF
        rw [this]
        rfl
      have HO : Hid (∀ X, Calls Try.prog 16 #[hlt fF rF lF bF] X fun e w' => e = .returned (hlt fF rF 0 false) ∧ Below X.heap.size X w') := fun X => impl_oper fF rF lF bF fF rF X hok
      have c0 := Q.out.cell 0 _ rfl
      have c1 := Q.out.cell 1 _ rfl
      have c2 := Q.out.cell 2 _ rfl
      have c3 := Q.out.cell 3 _ rfl
      clear hok HSTEP HINV HSY HS0 A
      go_wp2_with fail
      refine Calls.mono (HO.out _) ?_
      rintro e w9 ⟨rfl, hb9⟩
      clear c0 c1 c2 c3
      have hal : Below w9.heap.size w9 (w9.alloc (.cells (hrow fF rF 0 false) 31)) := (Below.refl _ _).alloc (Nat.le_refl _) _
      have hb9' := hb9.trans (hal.mono hb9.size)
      have HB9 : Hid (Below w.heap.size w (w9.alloc (.cells (hrow fF rF 0 false) 31))) := HB.out.trans (hb9'.mono HB.out.size)
      have d0 := (Q.out.below hb9').cell 0 _ rfl
      have d1 := (Q.out.below hb9').cell 1 _ rfl
      have d3 := (Q.out.below hb9').cell 3 _ rfl
      have p0 := (P.out.below hb9').cell 0 _ rfl
      have p1 := (P.out.below hb9').cell 1 _ rfl
      clear hb9 hb9' hal HO
      have hbk2 : bF = true → (k == 2) = false := fun h => beq_eq_false_iff_ne.2 (hbk h)
      clear hbk
      cases hz : (rF == 0)
      · have hle : rF ≤ m := by
          rcases hrm with h | h
          · simp [h] at hz
          · exact h
        cases bF
        · go_wp2
          go_ret
          exact ⟨rfl, HB9.out⟩
        · have hk2 := hbk2 rfl
          clear hbk2
          go_wp2
          go_ret
          exact ⟨rfl, HB9.out⟩
      · cases bF
        · go_wp2
          go_ret
          exact ⟨rfl, HB9.out⟩
        · have hk2 := hbk2 rfl
          clear hbk2
          go_wp2
          go_ret
          exact ⟨rfl, HB9.out⟩
end Go.Proofs.Ytnjjjcmomjcmfaa
