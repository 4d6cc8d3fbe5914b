
/-
  The law FnDirty, walked: lines written back and lines dirty at the end are together at most the writes. Conditions: the bytes are at most 1048576.
-/
import Derived.Test.YtmbpmhmehiiiaaaRows
import Derived.Test.YtmbpmhmehiiiaaaFdp
import Derived.Test.YtmbpmhmehiiiaaaIcu
import Derived.Test.YtmbpmhmehiiiaaaCra
import Derived.Test.YtmbpmhmehiiiaaaDcs
import Derived.Test.YtmbpmhmehiiiaaaAlk
import Derived.Test.YtmbpmhmehiiiaaaRgi
namespace Go.Proofs.Ytmbpmhmehiiiaaa
open Go.ChangeShapes Go.WideShapes Go.ChangeAt Go.RowKit Go.Deep
set_option linter.unusedVariables false

abbrev UT (n M L : Nat) (h b : Bool) (a' : Option Addr) (cap' : Nat) : Value := .tuple #[cch (n : Int) (M : Int) (L : Int) (.slice a' n cap'), .bool h, .bool b]
theorem UT.inj {n M L : Nat} {h b : Bool} {a a' : Option Addr} {c c' : Nat} (e : UT n M L h b a c = UT n M L h b a' c') : a = a' ∧ c = c' := by
  injection e with e
  have h1 : cch (n : Int) (M : Int) (L : Int) (.slice a n c) = cch (n : Int) (M : Int) (L : Int) (.slice a' n c') := by
    have := congrArg (fun x => x[0]?) e
    simpa using this
  injection h1 with h1
  have h2 : Value.slice a n c = .slice a' n c' := by
    have := congrArg (fun x => x[3]?) h1
    simpa using this
  injection h2 with e1 e2 e3
  exact ⟨e1, e3⟩
/-- What stands while a cache is used and its room laid. -/
structure RU (wr : World) (cv av iv pv qv xv wv : Value) (n M L : Nat) (h b : Bool) (D : Nat → List Wy) (w' : World) (b0 b1 b2 b3 b4 b5 b6 b7 b8 b9 b10 b11 b12 b13 b14 b15 b16 b17 b18 b19 : Bool) (x47 x48 x49 x50 x51 x52 x53 x54 x55 x56 x57 x58 x46 x59 x60 x61 x9 x10 x11 : Value) : Prop where
  gb : Below wr.heap.size wr w'
  f0 : b0 = true → x47 = cv
  f1 : b1 = true → x48 = av
  f2 : b2 = true → x49 = iv
  f3 : b3 = true → x50 = pv
  f4 : b4 = true → x51 = pv
  f5 : b5 = true → x52 = xv
  f6 : b6 = true → x53 = av
  f7 : b7 = true → x54 = iv
  f8 : b8 = true → x55 = pv
  f9 : b9 = true → x56 = qv
  f10 : b10 = true → x57 = wv
  f11 : b11 = true → ∃ a' cap' lo hi, x58 = UT n M L h b a' cap' ∧ wr.heap.size ≤ lo ∧ hi ≤ w'.heap.size ∧ ORows w' lo hi a' n D ∧ (b16 = true → ∀ P, x9 = .pointer (some ⟨P, 0, none⟩) → P < lo ∨ hi ≤ P)
  f12 : b12 = true → b11 = true ∧ x46 = x58
  f13 : b13 = true → b11 = true ∧ ∀ a' cap', x58 = UT n M L h b a' cap' → x59 = cch (n : Int) (M : Int) (L : Int) (.slice a' n cap')
  f14 : b14 = true → x60 = .bool h
  f15 : b15 = true → x61 = .bool b
  f16 : b16 = true → ∃ Q, x9 = .pointer (some ⟨Q, 0, none⟩) ∧ wr.heap.size ≤ Q ∧ (b17 = false → Bk w' Q #[.int .i64 0, .int .i64 0, .int .i64 0, .slice none 0 0]) ∧ (b17 = true → ∀ a' cap', x58 = UT n M L h b a' cap' → Bk w' Q #[.int .i64 n, .int .i64 M, .int .i64 L, .slice a' n cap'])
  f17 : b17 = true → b16 = true ∧ b13 = true
  f18 : b18 = true → x10 = .bool h
  f19 : b19 = true → x11 = .bool b
theorem RU.below {wr : World} {cv av iv pv qv xv wv : Value} {n M L : Nat} {h b : Bool} {D : Nat → List Wy} {w' w'' : World} {b0 b1 b2 b3 b4 b5 b6 b7 b8 b9 b10 b11 b12 b13 b14 b15 b16 b17 b18 b19 : Bool} {x47 x48 x49 x50 x51 x52 x53 x54 x55 x56 x57 x58 x46 x59 x60 x61 x9 x10 x11 : Value} (z : RU wr cv av iv pv qv xv wv n M L h b D w' b0 b1 b2 b3 b4 b5 b6 b7 b8 b9 b10 b11 b12 b13 b14 b15 b16 b17 b18 b19 x47 x48 x49 x50 x51 x52 x53 x54 x55 x56 x57 x58 x46 x59 x60 x61 x9 x10 x11) (hb : Below w'.heap.size w' w'') : RU wr cv av iv pv qv xv wv n M L h b D w'' b0 b1 b2 b3 b4 b5 b6 b7 b8 b9 b10 b11 b12 b13 b14 b15 b16 b17 b18 b19 x47 x48 x49 x50 x51 x52 x53 x54 x55 x56 x57 x58 x46 x59 x60 x61 x9 x10 x11 :=
  { z with gb := z.gb.trans (hb.mono z.gb.size), f11 := fun e => by obtain ⟨a', c', lo, hi, e1, e2, e3, e4, e5⟩ := z.f11 e; exact ⟨a', c', lo, hi, e1, e2, Nat.le_trans e3 hb.size, e4.below hb, e5⟩, f16 := fun e => by obtain ⟨Q, e1, e2, e3, e4⟩ := z.f16 e; exact ⟨Q, e1, e2, fun y => (e3 y).below hb, fun y a' c' t => (e4 y a' c' t).below hb⟩ }
/-- What stands at the start of a round: the cache's box and its rows. -/
structure FD (w2 wr : World) (P5 n M L : Nat) (us : List Wy) (k : Nat) (ca : Option Addr) (cc lo hi : Nat) : Prop where
  bel : Below w2.heap.size w2 wr
  box : Bk wr P5 #[.int .i64 n, .int .i64 M, .int .i64 L, .slice ca n cc]
  rows : ORows wr lo hi ca n (runC n M L us k)
  ap : P5 < lo ∨ hi ≤ P5
  hh : hi ≤ wr.heap.size
  pl : w2.heap.size ≤ P5
theorem FD.next {w2 wr : World} {P5 n M L : Nat} {us : List Wy} {k : Nat} {ca : Option Addr} {cc lo hi : Nat} (h : FD w2 wr P5 n M L us k ca cc lo hi) {X : World} {a' : Option Addr} {cap' lo' hi' : Nat} (hb : Below wr.heap.size wr X) (ho : ORows X lo' hi' a' n (runC n M L us (k + 1))) (h1 : wr.heap.size ≤ lo') (h2 : hi' ≤ X.heap.size) :
    FD w2 ((((X.setCell ⟨P5, 0, none⟩ (.int .i64 n)).setCell ⟨P5, 1, none⟩ (.int .i64 M)).setCell ⟨P5, 2, none⟩ (.int .i64 L)).setCell ⟨P5, 3, none⟩ (.slice a' n cap')) P5 n M L us (k + 1) a' cap' lo' hi' := by
  have kk := h.box.below hb
  have hlt := h.box.lt
  have hbt : Betw P5 (P5 + 1) X ((((X.setCell ⟨P5, 0, none⟩ (.int .i64 n)).setCell ⟨P5, 1, none⟩ (.int .i64 M)).setCell ⟨P5, 2, none⟩ (.int .i64 L)).setCell ⟨P5, 3, none⟩ (.slice a' n cap')) := betw_four (Betw.refl _ _ X) P5 (Nat.le_refl _) (by omega) _ _ _ _
  exact ⟨below_four (h.bel.trans (hb.mono h.bel.size)) P5 h.pl _ _ _ _, (((kk.set 0 (.int .i64 n) (by simp) (cs' := #[.int .i64 n, .int .i64 M, .int .i64 L, .slice ca n cc]) rfl).set 1 (.int .i64 M) (by simp) (cs' := #[.int .i64 n, .int .i64 M, .int .i64 L, .slice ca n cc]) rfl).set 2 (.int .i64 L) (by simp) (cs' := #[.int .i64 n, .int .i64 M, .int .i64 L, .slice ca n cc]) rfl).set 3 (.slice a' n cap') (by simp) rfl, ho.betw hbt (by omega), by omega, Nat.le_trans h2 hbt.size, h.pl⟩
structure R20 (W : World) (ce : Value) (cc : Value) (sh : Value) (dv : Value) (wv : Value) (ww : Value) (bv : Value) (db : Value) (w0 : Value) (tt : Value) (TT : Nat) (w' : World) (b0 b1 b2 b3 b4 b5 b6 b7 b8 b9 b10 b11 b12 b13 b14 b15 b16 b17 b18 b19 b20 b21 b22 b23 b24 b25 b26 b27 b28 b29 : Bool) (x91 x92 x93 x94 x95 x96 x97 x98 x99 x100 x101 x102 x103 x104 x105 x106 x107 x108 x109 x110 x111 x112 x113 x114 x115 x116 x117 x118 x119 x2 : Value) : Prop where
  gb : Below W.heap.size W w'
  f0 : b0 = true → x91 = ce
  f1 : b1 = true → ∃ Ad Cd, x92 = .slice Ad 0 Cd
  f2 : b2 = true → x93 = .int .i64 0
  f3 : b3 = true → x94 = wv
  f4 : b4 = true → x95 = wv
  f5 : b5 = true → x96 = ce
  f6 : b6 = true → x97 = wv
  f7 : b7 = true → x98 = wv
  f8 : b8 = true → x99 = wv
  f9 : b9 = true → x100 = dv
  f10 : b10 = true → x101 = sh
  f11 : b11 = true → x102 = ww
  f12 : b12 = true → x103 = wv
  f13 : b13 = true → x104 = wv
  f14 : b14 = true → x105 = wv
  f15 : b15 = true → x106 = dv
  f16 : b16 = true → x107 = bv
  f17 : b17 = true → x108 = db
  f18 : b18 = true → x109 = w0
  f19 : b19 = true → x110 = wv
  f20 : b20 = true → x111 = wv
  f21 : b21 = true → x112 = wv
  f22 : b22 = true → x113 = cc
  f23 : b23 = true → ∃ Ad Cd, x114 = .slice Ad TT Cd
  f24 : b24 = true → x115 = tt
  f25 : b25 = true → x116 = sh
  f26 : b26 = true → x117 = ww
  f27 : b27 = true → x118 = wv
  f28 : b28 = true → x119 = wv
  f29 : b29 = true → x2 = wv
set_option maxRecDepth 20000 in
set_option maxHeartbeats 16000000 in
theorem dirty_law (a : Option Addr) (n0 cap : Nat) (z0 : List Int) (w : World) (hl : z0.length = n0) (hs : Seg .u8 w a z0) (hb : ∀ z ∈ z0, (Lit.int .u8 z).wf = true) (hn0 : n0 ≤ 1048576) :
    Calls Try.prog 3 #[.slice a n0 cap] w fun e w' => e = .returned (.bool true) ∧ Below w.heap.size w w' := by
  have HD : Hid _ := draw_cr w a z0 cap n0 hs hb hl hn0
  have HG : Hid _ := big_no a n0 cap w hn0
  clear hs hb hl
  go_enter Try.func3, Try.ntmps3
  go_wp2_with fail
  refine Calls.mono HG.out ?_
  rintro u w0 ⟨rfl, rfl⟩
  clear HG
  go_wp2_with fail
  refine Calls.mono HD.out ?_
  rintro u w1 ⟨s, y, l, a1, N, uc, us, rfl, hb1, hs1, hl1, hN⟩
  clear HD
  obtain ⟨P3, hP3⟩ : ∃ p, w1.heap.size = p := ⟨_, rfl⟩
  have hal : Below w1.heap.size w1 (w1.alloc (shrow 25 s y l)) := (Below.refl _ _).alloc (Nat.le_refl _) _
  have HQ1 : Hid (Bk (w1.alloc (shrow 25 s y l)) P3 #[.int .i64 s, .int .i64 y, .int .i64 l]) := Bk.new _ _ _ _ hP3.symm
  have HS1 : Hid (WSeg (w1.alloc (shrow 25 s y l)) a1 us) := hs1.below hal
  have HB1 : Hid (Below w0.heap.size w0 (w1.alloc (shrow 25 s y l))) := hb1.trans (hal.mono hb1.size)
  have HUL : Hid (us.length = N) := hl1
  clear hb1 hs1 hl1 hal
  go_wp2_with fail
  revert HQ1 HS1 HB1
  generalize (w1.alloc (shrow 25 s y l)) = w1'
  try rw [hP3]
  clear hP3 w1
  intro HQ1 HS1 HB1
  refine Calls.mono (spec_shok s y l _) ?_
  rintro u w2 ⟨rfl, hb2⟩
  have HB2 : Hid (Below w0.heap.size w0 w2) := HB1.out.trans (hb2.mono HB1.out.size)
  have HS2 : Hid (WSeg w2 a1 us) := HS1.out.below hb2
  have HQ2 : Hid (Bk w2 P3 #[.int .i64 s, .int .i64 y, .int .i64 l]) := HQ1.out.below hb2
  clear HQ1 HS1 HB1 hb2
  by_cases hsh : shapeOk s y l = true
  rotate_left
  · have hq : shapeOk s y l = false := by simpa using hsh
    rw [hq]
    clear hsh
    go_wp2
    go_ret
    exact ⟨rfl, HB2.out⟩
  rw [hsh]
  by_cases hN1 : N ≤ 150
  rotate_left
  · have hN2 : (150 : Int) < (N : Int) := by omega
    clear hsh
    go_wp2
    go_ret
    exact ⟨rfl, HB2.out⟩
  have hN2 : ¬ ((150 : Int) < (N : Int)) := by omega
  have hp := shapeOk_parts hsh
  obtain ⟨n, rfl⟩ : ∃ n : Nat, s = (n : Int) := ⟨s.toNat, by omega⟩
  obtain ⟨M, rfl⟩ : ∃ M : Nat, y = (M : Int) := ⟨y.toNat, by omega⟩
  obtain ⟨L, rfl⟩ : ∃ L : Nat, l = (L : Int) := ⟨l.toNat, by omega⟩
  have HSH : Hid (shapeOk (n : Int) (M : Int) (L : Int) = true) := hsh
  clear hsh hp
  have e0 := HQ2.out.cell 0 _ rfl
  have e1 := HQ2.out.cell 1 _ rfl
  have e2 := HQ2.out.cell 2 _ rfl
  by_cases hA : ∀ i, i < N → inr (us.getD i wd).1 0 65535 = true
  rotate_left
  · have hN0 : ¬ ((0 : Int) = (N : Int)) := fun e => hA (fun i hi => absurd hi (by omega))
    have hN00 : ((0 : Int) != (N : Int)) = true := by simpa using hN0
    have HCR : Hid _ := spec_cr_bad n M L a1 uc N us w2 HS2.out HUL.out HSH.out (by omega) hA
    clear hA
    go_wp2_with fail
    refine Calls.mono HCR.out ?_
    rintro u w3 ⟨v3, rfl, hb3, ho3⟩
    obtain ⟨a3, c3, rfl, hz3⟩ := OwnA.ai ho3
    clear hz3
    have HB3 : Hid (Below w0.heap.size w0 w3) := HB2.out.trans (hb3.mono HB2.out.size)
    clear hb3 ho3 HCR e0 e1 e2
    simp only [List.length_nil]
    go_wp2
    go_ret
    exact ⟨rfl, HB3.out⟩
  have HA : Hid (∀ i, i < N → inr (us.getD i wd).1 0 65535 = true) := hA
  have HCR : Hid _ := spec_crun n M L a1 uc N us w2 HS2.out HUL.out ⟨HSH.out, by omega, hA⟩
  clear hA
  go_wp2_with fail
  refine Calls.mono HCR.out ?_
  rintro u w3 ⟨v3, rfl, hb3, ho3⟩
  obtain ⟨a3, c3, rfl, hz3⟩ := OwnA.ai ho3
  clear hz3
  rw [accC_len]
  have hnn : ((N : Int) != (N : Int)) = false := by simp
  have HB3 : Hid (Below w0.heap.size w0 w3) := HB2.out.trans (hb3.mono HB2.out.size)
  have HS3 : Hid (WSeg w3 a1 us) := HS2.out.below hb3
  have HQ3 : Hid (Bk w3 P3 #[.int .i64 n, .int .i64 M, .int .i64 L]) := HQ2.out.below hb3
  clear hb3 ho3 HCR e0 e1 e2 HB2 HS2 HQ2 w2
  have e0 := HQ3.out.cell 0 _ rfl
  have e1 := HQ3.out.cell 1 _ rfl
  have e2 := HQ3.out.cell 2 _ rfl
  have HCEM : Hid _ := impl_cem n (M : Int) (L : Int) w3 HSH.out
  go_wp2_with fail
  refine Calls.mono HCEM.out ?_
  rintro u w4 ⟨B, rfl, hb4, hr4, hc4⟩
  clear HCEM e0 e1 e2 hnn
  have ho4 := rows_empty hr4 hc4
  obtain ⟨P5, hP5⟩ : ∃ p, w4.heap.size = p := ⟨_, rfl⟩
  have hal : Below w4.heap.size w4 (w4.alloc (.cells #[.int .i64 n, .int .i64 M, .int .i64 L, .slice (some ⟨B, 0, none⟩) n n] 34)) := (Below.refl _ _).alloc (Nat.le_refl _) _
  have HF0 : Hid (FD w3 (w4.alloc (.cells #[.int .i64 n, .int .i64 M, .int .i64 L, .slice (some ⟨B, 0, none⟩) n n] 34)) P5 n M L us 0 (some ⟨B, 0, none⟩) n w3.heap.size w4.heap.size) :=
    ⟨hb4.trans (hal.mono hb4.size), Bk.new _ _ _ _ hP5.symm, ho4.below hal, .inr (by omega), hal.size, by have := hb4.size; omega⟩
  clear hb4 hr4 hc4 ho4 hal
  go_wp2
  revert HF0
  generalize (w4.alloc (.cells #[.int .i64 n, .int .i64 M, .int .i64 L, .slice (some ⟨B, 0, none⟩) n n] 34)) = w5
  try rw [hP5]
  generalize w4.heap.size = hi4
  clear hP5
  intro HF0
  obtain ⟨w2, hw2⟩ : ∃ x, x = w3 := ⟨_, rfl⟩
  rw [← hw2] at HB3 HS3 HQ3 HF0
  clear hw2
  have HB2 : Hid (Below w0.heap.size w0 w2) := HB3.out
  have HS2 : Hid (WSeg w2 a1 us) := HS3.out
  have HQ2 : Hid (Bk w2 P3 #[.int .i64 n, .int .i64 M, .int .i64 L]) := HQ3.out
  clear HB3 HS3 HQ3
  go_loopw [6, 7, 8] (fun wv bv iv wr => ∃ k W0 Bk0 : Nat, k ≤ N ∧ wv = .int .i64 (W0 : Int) ∧ bv = .int .i64 (Bk0 : Int) ∧ iv = .int .i64 (k : Int) ∧ Hid (W0 = wrs us k ∧ Bk0 = bks n M L us k) ∧ Hid (∃ ca cc lo hi, FD w2 wr P5 n M L us k ca cc lo hi)) (fun _ _ i _ => N - (intOf i).toNat)
  case atStart => exact ⟨0, 0, 0, by omega, rfl, rfl, rfl, ⟨rfl, rfl⟩, _, _, _, _, HF0.out⟩
  case round =>
    obtain ⟨k, W0, Bk0, hk, rfl, rfl, rfl, HWB, HR⟩ := hrel
    clear HF0
    by_cases hkn : k < N
    rotate_left
    · have hkn' : ¬ ((k : Int) < (N : Int)) := by omega
      have hkN : k = N := by omega
      subst hkN
      obtain ⟨ca, cc, lo, hi, hfd⟩ := HR.out
      have HFD : Hid (FD w2 wr P5 n M L us k ca cc lo hi) := hfd
      obtain ⟨D, HD⟩ : ∃ D, Hid (runC n M L us k = D) := ⟨_, rfl⟩
      have hok : CacheOkP (n : Int) (M : Int) (L : Int) n D := by rw [← HD.out]; exact runC_ok HSH.out (fun j hj => HA.out j (by omega))
      have htt := ok_tot hok
      have hp := shapeOk_parts HSH.out
      have htm : tot D n ≤ 64 := by
        have : n * M ≤ 16 * 4 := Nat.mul_le_mul (by omega) (by omega)
        omega
      have hrs : RSeg wr ca n D := by rw [← HD.out]; exact hfd.rows.seg
      have HOK0 : Hid (CacheOkP (n : Int) (M : Int) (L : Int) n D) := hok
      have HRS : Hid (RSeg wr ca n D) := hrs
      have HTM : Hid (tot D n ≤ 64 ∧ n ≤ 16) := ⟨htm, by omega⟩
      obtain ⟨d, HDD⟩ : ∃ d, Hid (dt D n = d) := ⟨_, rfl⟩
      obtain ⟨TT, HTT⟩ : ∃ d, Hid (tot D n = d) := ⟨_, rfl⟩
      obtain ⟨WW, HWW⟩ : ∃ x, Hid (worstD (n : Int) (M : Int) (L : Int) = x) := ⟨_, rfl⟩
      have hw2 : WW = ((n * M : Nat) : Int) := by rw [← HWW.out, worstD, if_pos HSH.out, Int.natCast_mul]
      have hdl : dt D n ≤ tot D n := dt_le D n
      have hdw : dt D n + Bk0 ≤ W0 := by rw [HWB.out.1, HWB.out.2, ← HD.out]; exact dirty_le n M L us (by omega) k
      have hwn := wrs_le us k
      have hW0 : W0 ≤ 150 := by rw [HWB.out.1]; omega
      have ha1 : decide ((d : Int) ≤ WW) = true := decide_eq_true (by rw [hw2, ← HDD.out]; omega)
      have ha1' : (d : Int) ≤ WW := by rw [hw2, ← HDD.out]; omega
      have ha2' : (TT : Int) ≤ WW := by rw [hw2, ← HTT.out]; omega
      have ha3' : (d : Int) + (Bk0 : Int) ≤ (W0 : Int) := by rw [← HDD.out]; omega
      have ha4 : IntKind.i64.wrap ((d : Int) + (Bk0 : Int)) = (d : Int) + (Bk0 : Int) := wrap_small _ (by rw [← HDD.out]; omega)
      have c0 := hfd.box.cell 0 _ rfl
      have c1 := hfd.box.cell 1 _ rfl
      have c2 := hfd.box.cell 2 _ rfl
      have c3 := hfd.box.cell 3 _ rfl
      have HFL : Hid (Calls Try.prog 12 #[cch (n : Int) (M : Int) (L : Int) (.slice ca n cc)] wr (FPost wr n M L n noD ((dt D n : Nat) : Int))) := impl_fl n M L ca cc D wr hrs (by omega) (by omega) hok
      rw [HDD.out] at HFL
      clear hok htt hp htm hrs hdl hdw hwn hw2 ha1 hfd
      go_wp2_with fail
      refine Calls.mono HFL.out ?_
      rintro e w9 ⟨a9, c9, rfl, hb9, ho9⟩
      clear HFL c0 c1 c2 c3
      obtain ⟨P12, hP12⟩ : ∃ p, w9.heap.size = p := ⟨_, rfl⟩
      have ha9 : Below w9.heap.size w9 (w9.alloc (.cells #[.int .i64 n, .int .i64 M, .int .i64 L, .slice a9 n c9] 34)) := (Below.refl _ _).alloc (Nat.le_refl _) _
      have HB9 : Hid (Below wr.heap.size wr (w9.alloc (.cells #[.int .i64 n, .int .i64 M, .int .i64 L, .slice a9 n c9] 34))) := hb9.trans (ha9.mono hb9.size)
      have HK9 : Hid (Bk (w9.alloc (.cells #[.int .i64 n, .int .i64 M, .int .i64 L, .slice a9 n c9] 34)) P12 #[.int .i64 n, .int .i64 M, .int .i64 L, .slice a9 n c9]) := Bk.new _ _ _ _ hP12.symm
      have HR9 : Hid (RSeg (w9.alloc (.cells #[.int .i64 n, .int .i64 M, .int .i64 L, .slice a9 n c9] 34)) a9 n noD) := ho9.seg.below ha9
      clear hb9 ho9 ha9
      go_wp2
      revert HB9 HK9 HR9
      generalize (w9.alloc (.cells #[.int .i64 n, .int .i64 M, .int .i64 L, .slice a9 n c9] 34)) = V9
      try rw [hP12]
      clear hP12
      intro HB9 HK9 HR9
      have HBX : Hid (Below w0.heap.size w0 V9) := (HB2.out.trans (HFD.out.bel.mono HB2.out.size)).trans (HB9.out.mono (Nat.le_trans HB2.out.size HFD.out.bel.size))
      have HCE : Hid (∀ X, Below V9.heap.size V9 X → X.cell? ⟨P12, 0, none⟩ = some (.int .i64 n) ∧ X.cell? ⟨P12, 1, none⟩ = some (.int .i64 M) ∧ X.cell? ⟨P12, 2, none⟩ = some (.int .i64 L) ∧ X.cell? ⟨P12, 3, none⟩ = some (.slice a9 n c9)) := fun X hX => ⟨(HK9.out.below hX).cell 0 _ rfl, (HK9.out.below hX).cell 1 _ rfl, (HK9.out.below hX).cell 2 _ rfl, (HK9.out.below hX).cell 3 _ rfl⟩
      have HCC : Hid (∀ X, Below V9.heap.size V9 X → X.cell? ⟨P5, 0, none⟩ = some (.int .i64 n) ∧ X.cell? ⟨P5, 1, none⟩ = some (.int .i64 M) ∧ X.cell? ⟨P5, 2, none⟩ = some (.int .i64 L) ∧ X.cell? ⟨P5, 3, none⟩ = some (.slice ca n cc)) := fun X hX => by
        have kk := (HFD.out.box.below HB9.out).below hX
        exact ⟨kk.cell 0 _ rfl, kk.cell 1 _ rfl, kk.cell 2 _ rfl, kk.cell 3 _ rfl⟩
      have HCS : Hid (∀ X, Below V9.heap.size V9 X → X.cell? ⟨P3, 0, none⟩ = some (.int .i64 n) ∧ X.cell? ⟨P3, 1, none⟩ = some (.int .i64 M) ∧ X.cell? ⟨P3, 2, none⟩ = some (.int .i64 L)) := fun X hX => by
        have kk := ((HQ2.out.below HFD.out.bel).below HB9.out).below hX
        exact ⟨kk.cell 0 _ rfl, kk.cell 1 _ rfl, kk.cell 2 _ rfl⟩
      have hno : CacheOkP (n : Int) (M : Int) (L : Int) n noD := ⟨HSH.out, rfl, fun i hi => ⟨by simp [noD], fun j hj => absurd hj (by simp [noD])⟩⟩
      have hal0 : (sortL (allL (n : Int) noD n)).length = 0 := by rw [sortL_len, allL_len, tot_no]
      have HL0 : Hid (∀ X, Below V9.heap.size V9 X → Calls Try.prog 13 #[cch (n : Int) (M : Int) (L : Int) (.slice a9 n c9)] X fun e w' => ∃ a c, e = .returned (.slice a 0 c) ∧ Below X.heap.size X w') := fun X hX => (impl_li n M L a9 c9 noD X (HR9.out.below hX) (by have := HTM.out.2; omega) (by rw [tot_no]; omega) hno).mono fun e w' h => by
        obtain ⟨a, c, h1, h2, _⟩ := h
        exact ⟨a, c, by rw [h1, hal0], h2⟩
      have HOK : Hid (∀ X, Below V9.heap.size V9 X → Calls Try.prog 10 #[cch (n : Int) (M : Int) (L : Int) (.slice a9 n c9)] X fun e w' => e = .returned (.bool true) ∧ Below X.heap.size X w') := fun X hX => impl_cachek (n : Int) M L a9 c9 n noD X (HR9.out.below hX) (by have := HTM.out.2; omega) (by rw [tot_no]; omega) true ⟨fun _ => hno, fun _ => rfl⟩
      have HWD : Hid (∀ X, Below V9.heap.size V9 X → Calls Try.prog 14 #[shp (n : Int) (M : Int) (L : Int)] X fun e w' => e = .returned (.int .i64 WW) ∧ Below X.heap.size X w') := fun X hX => by rw [← HWW.out]; exact impl_wod (n : Int) (M : Int) (L : Int) X
      have HLT : Hid (∀ X, Below V9.heap.size V9 X → Calls Try.prog 13 #[cch (n : Int) (M : Int) (L : Int) (.slice ca n cc)] X fun e w' => ∃ a c, e = .returned (.slice a TT c) ∧ Below X.heap.size X w') := fun X hX => (impl_li n M L ca cc D X ((HRS.out.below HB9.out).below hX) (by have := HTM.out.2; omega) (by have := HTM.out.1; omega) HOK0.out).mono fun e w' h => by
        obtain ⟨a, c, h1, h2, _⟩ := h
        exact ⟨a, c, by rw [h1, sortL_len, allL_len, HTT.out], h2⟩
      clear HB9 HK9 HR9 HFD HRS HOK0 HR hno hal0 HWW HTT HDD HD HA HS2 HQ2 HSH HWB
      refine wp_region_inv (by kernel_rfl) (by kernel_rfl) (fun A ℓ a' w' => ∃ (x91 x92 x93 x94 x95 x96 x97 x98 x99 x100 x101 x102 x103 x104 x105 x106 x107 x108 x109 x110 x111 x112 x113 x114 x115 x116 x117 x118 x119 x2 : Value), a' = ((((((((((((((((((((((((((((((A.put (some 91) x91).put (some 92) x92).put (some 93) x93).put (some 94) x94).put (some 95) x95).put (some 96) x96).put (some 97) x97).put (some 98) x98).put (some 99) x99).put (some 100) x100).put (some 101) x101).put (some 102) x102).put (some 103) x103).put (some 104) x104).put (some 105) x105).put (some 106) x106).put (some 107) x107).put (some 108) x108).put (some 109) x109).put (some 110) x110).put (some 111) x111).put (some 112) x112).put (some 113) x113).put (some 114) x114).put (some 115) x115).put (some 116) x116).put (some 117) x117).put (some 118) x118).put (some 119) x119).put (some 2) x2) ∧ R20 V9 (cch (n : Int) (M : Int) (L : Int) (.slice a9 n c9)) (cch (n : Int) (M : Int) (L : Int) (.slice ca n cc)) (shp (n : Int) (M : Int) (L : Int)) (.int .i64 (d : Int)) (.bool true) (.int .i64 WW) (.int .i64 (Bk0 : Int)) (.int .i64 ((d : Int) + (Bk0 : Int))) (.int .i64 (W0 : Int)) (.int .i64 (TT : Int)) TT w' (ℓ 0) (ℓ 1) (ℓ 2) (ℓ 3) (ℓ 4) (ℓ 5) (ℓ 6) (ℓ 7) (ℓ 8) (ℓ 9) (ℓ 10) (ℓ 11) (ℓ 12) (ℓ 13) (ℓ 14) (ℓ 15) (ℓ 16) (ℓ 17) (ℓ 18) (ℓ 19) (ℓ 20) (ℓ 21) (ℓ 22) (ℓ 23) (ℓ 24) (ℓ 25) (ℓ 26) (ℓ 27) (ℓ 28) (ℓ 29) x91 x92 x93 x94 x95 x96 x97 x98 x99 x100 x101 x102 x103 x104 x105 x106 x107 x108 x109 x110 x111 x112 x113 x114 x115 x116 x117 x118 x119 x2) ?_ ?_ ?_ ?_
      · exact ⟨undef, undef, undef, undef, undef, undef, undef, undef, undef, undef, undef, undef, undef, undef, undef, undef, undef, undef, undef, undef, undef, undef, undef, undef, undef, undef, undef, undef, undef, u2, (by simp only [Act.put, List.setIfInBounds_toArray, List.set_cons_zero, List.set_cons_succ]), ⟨(Below.refl _ _).drew, (fun g => by cases g), (fun g => by cases g), (fun g => by cases g), (fun g => by cases g), (fun g => by cases g), (fun g => by cases g), (fun g => by cases g), (fun g => by cases g), (fun g => by cases g), (fun g => by cases g), (fun g => by cases g), (fun g => by cases g), (fun g => by cases g), (fun g => by cases g), (fun g => by cases g), (fun g => by cases g), (fun g => by cases g), (fun g => by cases g), (fun g => by cases g), (fun g => by cases g), (fun g => by cases g), (fun g => by cases g), (fun g => by cases g), (fun g => by cases g), (fun g => by cases g), (fun g => by cases g), (fun g => by cases g), (fun g => by cases g), (fun g => by cases g), (fun g => by cases g)⟩⟩
      · intro ℓ a' w' hI hall
        obtain ⟨x91, x92, x93, x94, x95, x96, x97, x98, x99, x100, x101, x102, x103, x104, x105, x106, x107, x108, x109, x110, x111, x112, x113, x114, x115, x116, x117, x118, x119, x2, rfl, hr⟩ := hI
        have hall' : ∀ i, i < 30 → ℓ i = true := hall
        obtain rfl := hr.f0 (hall' 0 (by decide))
        obtain ⟨Ad1, Cd1, rfl⟩ := hr.f1 (hall' 1 (by decide))
        obtain rfl := hr.f2 (hall' 2 (by decide))
        obtain rfl := hr.f3 (hall' 3 (by decide))
        obtain rfl := hr.f4 (hall' 4 (by decide))
        obtain rfl := hr.f5 (hall' 5 (by decide))
        obtain rfl := hr.f6 (hall' 6 (by decide))
        obtain rfl := hr.f7 (hall' 7 (by decide))
        obtain rfl := hr.f8 (hall' 8 (by decide))
        obtain rfl := hr.f9 (hall' 9 (by decide))
        obtain rfl := hr.f10 (hall' 10 (by decide))
        obtain rfl := hr.f11 (hall' 11 (by decide))
        obtain rfl := hr.f12 (hall' 12 (by decide))
        obtain rfl := hr.f13 (hall' 13 (by decide))
        obtain rfl := hr.f14 (hall' 14 (by decide))
        obtain rfl := hr.f15 (hall' 15 (by decide))
        obtain rfl := hr.f16 (hall' 16 (by decide))
        obtain rfl := hr.f17 (hall' 17 (by decide))
        obtain rfl := hr.f18 (hall' 18 (by decide))
        obtain rfl := hr.f19 (hall' 19 (by decide))
        obtain rfl := hr.f20 (hall' 20 (by decide))
        obtain rfl := hr.f21 (hall' 21 (by decide))
        obtain rfl := hr.f22 (hall' 22 (by decide))
        obtain ⟨Ad23, Cd23, rfl⟩ := hr.f23 (hall' 23 (by decide))
        obtain rfl := hr.f24 (hall' 24 (by decide))
        obtain rfl := hr.f25 (hall' 25 (by decide))
        obtain rfl := hr.f26 (hall' 26 (by decide))
        obtain rfl := hr.f27 (hall' 27 (by decide))
        obtain rfl := hr.f28 (hall' 28 (by decide))
        obtain rfl := hr.f29 (hall' 29 (by decide))
        have gb : Hid (Below V9.heap.size V9 w') := hr.gb
        clear hall hall' hr
        simp only [Act.put, List.setIfInBounds_toArray, List.set_cons_zero, List.set_cons_succ]
        go_wp2
        go_ret
        exact ⟨rfl, HBX.out.trans (gb.out.mono HBX.out.size)⟩
      · intro ℓ a' w' i o hI ho hi hL hdep K hK
        obtain ⟨x91, x92, x93, x94, x95, x96, x97, x98, x99, x100, x101, x102, x103, x104, x105, x106, x107, x108, x109, x110, x111, x112, x113, x114, x115, x116, x117, x118, x119, x2, rfl, hr⟩ := hI
        have hi7 : i < 30 := hi
        have hcs : i = 0 ∨ i = 1 ∨ i = 2 ∨ i = 3 ∨ i = 4 ∨ i = 5 ∨ i = 6 ∨ i = 7 ∨ i = 8 ∨ i = 9 ∨ i = 10 ∨ i = 11 ∨ i = 12 ∨ i = 13 ∨ i = 14 ∨ i = 15 ∨ i = 16 ∨ i = 17 ∨ i = 18 ∨ i = 19 ∨ i = 20 ∨ i = 21 ∨ i = 22 ∨ i = 23 ∨ i = 24 ∨ i = 25 ∨ i = 26 ∨ i = 27 ∨ i = 28 ∨ i = 29 := by omega
        clear hi hi7
        rcases hcs with rfl | rfl | rfl | rfl | rfl | rfl | rfl | rfl | rfl | rfl | rfl | rfl | rfl | rfl | rfl | rfl | rfl | rfl | rfl | rfl | rfl | rfl | rfl | rfl | rfl | rfl | rfl | rfl | rfl | rfl
        · obtain rfl := Option.some.inj ho
          clear hdep ho
          have gb : Hid (Below V9.heap.size V9 w') := hr.gb
          revert hK
          intro hK
          have kq := HCE.out _ gb.out
          have q0 := kq.1
          have q1 := kq.2.1
          have q2 := kq.2.2.1
          have q3 := kq.2.2.2
          rw [if_pos (by rfl)]
          try simp only [Act.put, List.setIfInBounds_toArray, List.set_cons_zero, List.set_cons_succ]
          go_simp
          exact hK.out _ _ (fun j => if j = 0 then true else ℓ j) ⟨cch (n : Int) (M : Int) (L : Int) (.slice a9 n c9), x92, x93, x94, x95, x96, x97, x98, x99, x100, x101, x102, x103, x104, x105, x106, x107, x108, x109, x110, x111, x112, x113, x114, x115, x116, x117, x118, x119, x2, (by simp only [Act.put, List.setIfInBounds_toArray, List.set_cons_zero, List.set_cons_succ]), ⟨hr.gb, (fun _ => rfl), hr.f1, hr.f2, hr.f3, hr.f4, hr.f5, hr.f6, hr.f7, hr.f8, hr.f9, hr.f10, hr.f11, hr.f12, hr.f13, hr.f14, hr.f15, hr.f16, hr.f17, hr.f18, hr.f19, hr.f20, hr.f21, hr.f22, hr.f23, hr.f24, hr.f25, hr.f26, hr.f27, hr.f28, hr.f29⟩⟩ (if_pos rfl) (fun j hj => if_neg hj)
        · obtain rfl := Option.some.inj ho
          have g0 : ℓ 0 = true := hdep { on := 0, ground := Ground.data } (by simp) rfl
          clear hdep ho
          have gb : Hid (Below V9.heap.size V9 w') := hr.gb
          revert hK
          obtain rfl := hr.f0 g0
          intro hK
          rw [if_pos (by rfl)]
          try simp only [Act.put, List.setIfInBounds_toArray, List.set_cons_zero, List.set_cons_succ]
          go_simp
          refine Calls.mono (HL0.out _ gb.out) ?_
          rintro e w9 ⟨a8, c8, rfl, hb9⟩
          exact hK.out _ _ (fun j => if j = 1 then true else ℓ j) ⟨cch (n : Int) (M : Int) (L : Int) (.slice a9 n c9), .slice a8 0 c8, x93, x94, x95, x96, x97, x98, x99, x100, x101, x102, x103, x104, x105, x106, x107, x108, x109, x110, x111, x112, x113, x114, x115, x116, x117, x118, x119, x2, (by simp only [Act.put, List.setIfInBounds_toArray, List.set_cons_zero, List.set_cons_succ]), ⟨(hr.gb.trans (hb9.mono hr.gb.size)), hr.f0, (fun _ => ⟨_, _, rfl⟩), hr.f2, hr.f3, hr.f4, hr.f5, hr.f6, hr.f7, hr.f8, hr.f9, hr.f10, hr.f11, hr.f12, hr.f13, hr.f14, hr.f15, hr.f16, hr.f17, hr.f18, hr.f19, hr.f20, hr.f21, hr.f22, hr.f23, hr.f24, hr.f25, hr.f26, hr.f27, hr.f28, hr.f29⟩⟩ (if_pos rfl) (fun j hj => if_neg hj)
        · obtain rfl := Option.some.inj ho
          have g1 : ℓ 1 = true := hdep { on := 1, ground := Ground.data } (by simp) rfl
          clear hdep ho
          have gb : Hid (Below V9.heap.size V9 w') := hr.gb
          revert hK
          obtain ⟨Ad1, Cd1, rfl⟩ := hr.f1 g1
          intro hK
          rw [if_pos (by rfl)]
          try simp only [Act.put, List.setIfInBounds_toArray, List.set_cons_zero, List.set_cons_succ]
          go_simp
          exact hK.out _ _ (fun j => if j = 2 then true else ℓ j) ⟨x91, .slice Ad1 0 Cd1, .int .i64 0, x94, x95, x96, x97, x98, x99, x100, x101, x102, x103, x104, x105, x106, x107, x108, x109, x110, x111, x112, x113, x114, x115, x116, x117, x118, x119, x2, (by simp only [Act.put, List.setIfInBounds_toArray, List.set_cons_zero, List.set_cons_succ]), ⟨hr.gb, hr.f0, hr.f1, (fun _ => rfl), hr.f3, hr.f4, hr.f5, hr.f6, hr.f7, hr.f8, hr.f9, hr.f10, hr.f11, hr.f12, hr.f13, hr.f14, hr.f15, hr.f16, hr.f17, hr.f18, hr.f19, hr.f20, hr.f21, hr.f22, hr.f23, hr.f24, hr.f25, hr.f26, hr.f27, hr.f28, hr.f29⟩⟩ (if_pos rfl) (fun j hj => if_neg hj)
        · obtain rfl := Option.some.inj ho
          have g2 : ℓ 2 = true := hdep { on := 2, ground := Ground.data } (by simp) rfl
          clear hdep ho
          have gb : Hid (Below V9.heap.size V9 w') := hr.gb
          revert hK
          obtain rfl := hr.f2 g2
          intro hK
          rw [if_pos (by rfl)]
          try simp only [Act.put, List.setIfInBounds_toArray, List.set_cons_zero, List.set_cons_succ]
          go_simp
          exact hK.out _ _ (fun j => if j = 3 then true else ℓ j) ⟨x91, x92, .int .i64 0, .bool true, x95, x96, x97, x98, x99, x100, x101, x102, x103, x104, x105, x106, x107, x108, x109, x110, x111, x112, x113, x114, x115, x116, x117, x118, x119, x2, (by simp only [Act.put, List.setIfInBounds_toArray, List.set_cons_zero, List.set_cons_succ]), ⟨hr.gb, hr.f0, hr.f1, hr.f2, (fun _ => rfl), hr.f4, hr.f5, hr.f6, hr.f7, hr.f8, hr.f9, hr.f10, hr.f11, hr.f12, hr.f13, hr.f14, hr.f15, hr.f16, hr.f17, hr.f18, hr.f19, hr.f20, hr.f21, hr.f22, hr.f23, hr.f24, hr.f25, hr.f26, hr.f27, hr.f28, hr.f29⟩⟩ (if_pos rfl) (fun j hj => if_neg hj)
        · obtain rfl := Option.some.inj ho
          have g3 : ℓ 3 = true := hdep { on := 3, ground := Ground.data } (by simp) rfl
          clear hdep ho
          have gb : Hid (Below V9.heap.size V9 w') := hr.gb
          revert hK
          obtain rfl := hr.f3 g3
          intro hK
          rw [if_pos (by rfl)]
          try simp only [Act.put, List.setIfInBounds_toArray, List.set_cons_zero, List.set_cons_succ]
          go_simp
          exact hK.out _ _ (fun j => if j = 4 then true else ℓ j) ⟨x91, x92, x93, .bool true, .bool true, x96, x97, x98, x99, x100, x101, x102, x103, x104, x105, x106, x107, x108, x109, x110, x111, x112, x113, x114, x115, x116, x117, x118, x119, x2, (by simp only [Act.put, List.setIfInBounds_toArray, List.set_cons_zero, List.set_cons_succ]), ⟨hr.gb, hr.f0, hr.f1, hr.f2, hr.f3, (fun _ => rfl), hr.f5, hr.f6, hr.f7, hr.f8, hr.f9, hr.f10, hr.f11, hr.f12, hr.f13, hr.f14, hr.f15, hr.f16, hr.f17, hr.f18, hr.f19, hr.f20, hr.f21, hr.f22, hr.f23, hr.f24, hr.f25, hr.f26, hr.f27, hr.f28, hr.f29⟩⟩ (if_pos rfl) (fun j hj => if_neg hj)
        · obtain rfl := Option.some.inj ho
          have g4 : ℓ 4 = true := hdep { on := 4, ground := Ground.guard } (by simp) rfl
          clear hdep ho
          have gb : Hid (Below V9.heap.size V9 w') := hr.gb
          revert hK
          obtain rfl := hr.f4 g4
          intro hK
          have kq := HCE.out _ gb.out
          have q0 := kq.1
          have q1 := kq.2.1
          have q2 := kq.2.2.1
          have q3 := kq.2.2.2
          try simp only [Act.put, List.setIfInBounds_toArray, List.set_cons_zero, List.set_cons_succ]
          rw [if_pos (by rfl)]
          try simp only [Act.put, List.setIfInBounds_toArray, List.set_cons_zero, List.set_cons_succ]
          go_simp
          exact hK.out _ _ (fun j => if j = 5 then true else ℓ j) ⟨x91, x92, x93, x94, .bool true, cch (n : Int) (M : Int) (L : Int) (.slice a9 n c9), x97, x98, x99, x100, x101, x102, x103, x104, x105, x106, x107, x108, x109, x110, x111, x112, x113, x114, x115, x116, x117, x118, x119, x2, (by simp only [Act.put, List.setIfInBounds_toArray, List.set_cons_zero, List.set_cons_succ]), ⟨hr.gb, hr.f0, hr.f1, hr.f2, hr.f3, hr.f4, (fun _ => rfl), hr.f6, hr.f7, hr.f8, hr.f9, hr.f10, hr.f11, hr.f12, hr.f13, hr.f14, hr.f15, hr.f16, hr.f17, hr.f18, hr.f19, hr.f20, hr.f21, hr.f22, hr.f23, hr.f24, hr.f25, hr.f26, hr.f27, hr.f28, hr.f29⟩⟩ (if_pos rfl) (fun j hj => if_neg hj)
        · obtain rfl := Option.some.inj ho
          have g4 : ℓ 4 = true := hdep { on := 4, ground := Ground.guard } (by simp) rfl
          have g5 : ℓ 5 = true := hdep { on := 5, ground := Ground.data } (by simp) rfl
          clear hdep ho
          have gb : Hid (Below V9.heap.size V9 w') := hr.gb
          revert hK
          obtain rfl := hr.f4 g4
          obtain rfl := hr.f5 g5
          intro hK
          try simp only [Act.put, List.setIfInBounds_toArray, List.set_cons_zero, List.set_cons_succ]
          rw [if_pos (by rfl)]
          try simp only [Act.put, List.setIfInBounds_toArray, List.set_cons_zero, List.set_cons_succ]
          go_simp
          refine Calls.mono (HOK.out _ gb.out) ?_
          rintro e w9 ⟨rfl, hb9⟩
          exact hK.out _ _ (fun j => if j = 6 then true else ℓ j) ⟨x91, x92, x93, x94, .bool true, cch (n : Int) (M : Int) (L : Int) (.slice a9 n c9), .bool true, x98, x99, x100, x101, x102, x103, x104, x105, x106, x107, x108, x109, x110, x111, x112, x113, x114, x115, x116, x117, x118, x119, x2, (by simp only [Act.put, List.setIfInBounds_toArray, List.set_cons_zero, List.set_cons_succ]), ⟨(hr.gb.trans (hb9.mono hr.gb.size)), hr.f0, hr.f1, hr.f2, hr.f3, hr.f4, hr.f5, (fun _ => rfl), hr.f7, hr.f8, hr.f9, hr.f10, hr.f11, hr.f12, hr.f13, hr.f14, hr.f15, hr.f16, hr.f17, hr.f18, hr.f19, hr.f20, hr.f21, hr.f22, hr.f23, hr.f24, hr.f25, hr.f26, hr.f27, hr.f28, hr.f29⟩⟩ (if_pos rfl) (fun j hj => if_neg hj)
        · obtain rfl := Option.some.inj ho
          have g4 : ℓ 4 = true := hdep { on := 4, ground := Ground.data } (by simp) rfl
          have g6 : ℓ 6 = true := hdep { on := 6, ground := Ground.data } (by simp) rfl
          clear hdep ho
          have gb : Hid (Below V9.heap.size V9 w') := hr.gb
          revert hK
          obtain rfl := hr.f4 g4
          obtain rfl := hr.f6 g6
          intro hK
          rw [if_pos (by rfl)]
          try simp only [Act.put, List.setIfInBounds_toArray, List.set_cons_zero, List.set_cons_succ]
          go_simp
          exact hK.out _ _ (fun j => if j = 7 then true else ℓ j) ⟨x91, x92, x93, x94, .bool true, x96, .bool true, .bool true, x99, x100, x101, x102, x103, x104, x105, x106, x107, x108, x109, x110, x111, x112, x113, x114, x115, x116, x117, x118, x119, x2, (by simp only [Act.put, List.setIfInBounds_toArray, List.set_cons_zero, List.set_cons_succ]), ⟨hr.gb, hr.f0, hr.f1, hr.f2, hr.f3, hr.f4, hr.f5, hr.f6, (fun _ => rfl), hr.f8, hr.f9, hr.f10, hr.f11, hr.f12, hr.f13, hr.f14, hr.f15, hr.f16, hr.f17, hr.f18, hr.f19, hr.f20, hr.f21, hr.f22, hr.f23, hr.f24, hr.f25, hr.f26, hr.f27, hr.f28, hr.f29⟩⟩ (if_pos rfl) (fun j hj => if_neg hj)
        · obtain rfl := Option.some.inj ho
          have g7 : ℓ 7 = true := hdep { on := 7, ground := Ground.data } (by simp) rfl
          clear hdep ho
          have gb : Hid (Below V9.heap.size V9 w') := hr.gb
          revert hK
          obtain rfl := hr.f7 g7
          intro hK
          rw [if_pos (by rfl)]
          try simp only [Act.put, List.setIfInBounds_toArray, List.set_cons_zero, List.set_cons_succ]
          go_simp
          exact hK.out _ _ (fun j => if j = 8 then true else ℓ j) ⟨x91, x92, x93, x94, x95, x96, x97, .bool true, .bool true, x100, x101, x102, x103, x104, x105, x106, x107, x108, x109, x110, x111, x112, x113, x114, x115, x116, x117, x118, x119, x2, (by simp only [Act.put, List.setIfInBounds_toArray, List.set_cons_zero, List.set_cons_succ]), ⟨hr.gb, hr.f0, hr.f1, hr.f2, hr.f3, hr.f4, hr.f5, hr.f6, hr.f7, (fun _ => rfl), hr.f9, hr.f10, hr.f11, hr.f12, hr.f13, hr.f14, hr.f15, hr.f16, hr.f17, hr.f18, hr.f19, hr.f20, hr.f21, hr.f22, hr.f23, hr.f24, hr.f25, hr.f26, hr.f27, hr.f28, hr.f29⟩⟩ (if_pos rfl) (fun j hj => if_neg hj)
        · obtain rfl := Option.some.inj ho
          have g8 : ℓ 8 = true := hdep { on := 8, ground := Ground.guard } (by simp) rfl
          clear hdep ho
          have gb : Hid (Below V9.heap.size V9 w') := hr.gb
          revert hK
          obtain rfl := hr.f8 g8
          intro hK
          try simp only [Act.put, List.setIfInBounds_toArray, List.set_cons_zero, List.set_cons_succ]
          rw [if_pos (by rfl)]
          try simp only [Act.put, List.setIfInBounds_toArray, List.set_cons_zero, List.set_cons_succ]
          go_simp
          exact hK.out _ _ (fun j => if j = 9 then true else ℓ j) ⟨x91, x92, x93, x94, x95, x96, x97, x98, .bool true, .int .i64 (d : Int), x101, x102, x103, x104, x105, x106, x107, x108, x109, x110, x111, x112, x113, x114, x115, x116, x117, x118, x119, x2, (by simp only [Act.put, List.setIfInBounds_toArray, List.set_cons_zero, List.set_cons_succ]), ⟨hr.gb, hr.f0, hr.f1, hr.f2, hr.f3, hr.f4, hr.f5, hr.f6, hr.f7, hr.f8, (fun _ => rfl), hr.f10, hr.f11, hr.f12, hr.f13, hr.f14, hr.f15, hr.f16, hr.f17, hr.f18, hr.f19, hr.f20, hr.f21, hr.f22, hr.f23, hr.f24, hr.f25, hr.f26, hr.f27, hr.f28, hr.f29⟩⟩ (if_pos rfl) (fun j hj => if_neg hj)
        · obtain rfl := Option.some.inj ho
          have g8 : ℓ 8 = true := hdep { on := 8, ground := Ground.guard } (by simp) rfl
          clear hdep ho
          have gb : Hid (Below V9.heap.size V9 w') := hr.gb
          revert hK
          obtain rfl := hr.f8 g8
          intro hK
          have kq := HCS.out _ gb.out
          have q0 := kq.1
          have q1 := kq.2.1
          have q2 := kq.2.2
          try simp only [Act.put, List.setIfInBounds_toArray, List.set_cons_zero, List.set_cons_succ]
          rw [if_pos (by rfl)]
          try simp only [Act.put, List.setIfInBounds_toArray, List.set_cons_zero, List.set_cons_succ]
          go_simp
          exact hK.out _ _ (fun j => if j = 10 then true else ℓ j) ⟨x91, x92, x93, x94, x95, x96, x97, x98, .bool true, x100, shp (n : Int) (M : Int) (L : Int), x102, x103, x104, x105, x106, x107, x108, x109, x110, x111, x112, x113, x114, x115, x116, x117, x118, x119, x2, (by simp only [Act.put, List.setIfInBounds_toArray, List.set_cons_zero, List.set_cons_succ]), ⟨hr.gb, hr.f0, hr.f1, hr.f2, hr.f3, hr.f4, hr.f5, hr.f6, hr.f7, hr.f8, hr.f9, (fun _ => rfl), hr.f11, hr.f12, hr.f13, hr.f14, hr.f15, hr.f16, hr.f17, hr.f18, hr.f19, hr.f20, hr.f21, hr.f22, hr.f23, hr.f24, hr.f25, hr.f26, hr.f27, hr.f28, hr.f29⟩⟩ (if_pos rfl) (fun j hj => if_neg hj)
        · obtain rfl := Option.some.inj ho
          have g8 : ℓ 8 = true := hdep { on := 8, ground := Ground.guard } (by simp) rfl
          have g10 : ℓ 10 = true := hdep { on := 10, ground := Ground.data } (by simp) rfl
          clear hdep ho
          have gb : Hid (Below V9.heap.size V9 w') := hr.gb
          revert hK
          obtain rfl := hr.f8 g8
          obtain rfl := hr.f10 g10
          intro hK
          try simp only [Act.put, List.setIfInBounds_toArray, List.set_cons_zero, List.set_cons_succ]
          rw [if_pos (by rfl)]
          try simp only [Act.put, List.setIfInBounds_toArray, List.set_cons_zero, List.set_cons_succ]
          go_simp
          refine Calls.mono (HWD.out _ gb.out) ?_
          rintro e w9 ⟨rfl, hb9⟩
          exact hK.out _ _ (fun j => if j = 11 then true else ℓ j) ⟨x91, x92, x93, x94, x95, x96, x97, x98, .bool true, x100, shp (n : Int) (M : Int) (L : Int), .int .i64 WW, x103, x104, x105, x106, x107, x108, x109, x110, x111, x112, x113, x114, x115, x116, x117, x118, x119, x2, (by simp only [Act.put, List.setIfInBounds_toArray, List.set_cons_zero, List.set_cons_succ]), ⟨(hr.gb.trans (hb9.mono hr.gb.size)), hr.f0, hr.f1, hr.f2, hr.f3, hr.f4, hr.f5, hr.f6, hr.f7, hr.f8, hr.f9, hr.f10, (fun _ => rfl), hr.f12, hr.f13, hr.f14, hr.f15, hr.f16, hr.f17, hr.f18, hr.f19, hr.f20, hr.f21, hr.f22, hr.f23, hr.f24, hr.f25, hr.f26, hr.f27, hr.f28, hr.f29⟩⟩ (if_pos rfl) (fun j hj => if_neg hj)
        · obtain rfl := Option.some.inj ho
          have g8 : ℓ 8 = true := hdep { on := 8, ground := Ground.guard } (by simp) rfl
          have g9 : ℓ 9 = true := hdep { on := 9, ground := Ground.data } (by simp) rfl
          have g11 : ℓ 11 = true := hdep { on := 11, ground := Ground.data } (by simp) rfl
          clear hdep ho
          have gb : Hid (Below V9.heap.size V9 w') := hr.gb
          revert hK
          obtain rfl := hr.f8 g8
          obtain rfl := hr.f9 g9
          obtain rfl := hr.f11 g11
          intro hK
          try simp only [Act.put, List.setIfInBounds_toArray, List.set_cons_zero, List.set_cons_succ]
          rw [if_pos (by rfl)]
          try simp only [Act.put, List.setIfInBounds_toArray, List.set_cons_zero, List.set_cons_succ]
          go_simp
          exact hK.out _ _ (fun j => if j = 12 then true else ℓ j) ⟨x91, x92, x93, x94, x95, x96, x97, x98, .bool true, .int .i64 (d : Int), x101, .int .i64 WW, .bool true, x104, x105, x106, x107, x108, x109, x110, x111, x112, x113, x114, x115, x116, x117, x118, x119, x2, (by simp only [Act.put, List.setIfInBounds_toArray, List.set_cons_zero, List.set_cons_succ]), ⟨hr.gb, hr.f0, hr.f1, hr.f2, hr.f3, hr.f4, hr.f5, hr.f6, hr.f7, hr.f8, hr.f9, hr.f10, hr.f11, (fun _ => rfl), hr.f13, hr.f14, hr.f15, hr.f16, hr.f17, hr.f18, hr.f19, hr.f20, hr.f21, hr.f22, hr.f23, hr.f24, hr.f25, hr.f26, hr.f27, hr.f28, hr.f29⟩⟩ (if_pos rfl) (fun j hj => if_neg hj)
        · obtain rfl := Option.some.inj ho
          have g8 : ℓ 8 = true := hdep { on := 8, ground := Ground.data } (by simp) rfl
          have g12 : ℓ 12 = true := hdep { on := 12, ground := Ground.data } (by simp) rfl
          clear hdep ho
          have gb : Hid (Below V9.heap.size V9 w') := hr.gb
          revert hK
          obtain rfl := hr.f8 g8
          obtain rfl := hr.f12 g12
          intro hK
          rw [if_pos (by rfl)]
          try simp only [Act.put, List.setIfInBounds_toArray, List.set_cons_zero, List.set_cons_succ]
          go_simp
          exact hK.out _ _ (fun j => if j = 13 then true else ℓ j) ⟨x91, x92, x93, x94, x95, x96, x97, x98, .bool true, x100, x101, x102, .bool true, .bool true, x105, x106, x107, x108, x109, x110, x111, x112, x113, x114, x115, x116, x117, x118, x119, x2, (by simp only [Act.put, List.setIfInBounds_toArray, List.set_cons_zero, List.set_cons_succ]), ⟨hr.gb, hr.f0, hr.f1, hr.f2, hr.f3, hr.f4, hr.f5, hr.f6, hr.f7, hr.f8, hr.f9, hr.f10, hr.f11, hr.f12, (fun _ => rfl), hr.f14, hr.f15, hr.f16, hr.f17, hr.f18, hr.f19, hr.f20, hr.f21, hr.f22, hr.f23, hr.f24, hr.f25, hr.f26, hr.f27, hr.f28, hr.f29⟩⟩ (if_pos rfl) (fun j hj => if_neg hj)
        · obtain rfl := Option.some.inj ho
          have g13 : ℓ 13 = true := hdep { on := 13, ground := Ground.data } (by simp) rfl
          clear hdep ho
          have gb : Hid (Below V9.heap.size V9 w') := hr.gb
          revert hK
          obtain rfl := hr.f13 g13
          intro hK
          rw [if_pos (by rfl)]
          try simp only [Act.put, List.setIfInBounds_toArray, List.set_cons_zero, List.set_cons_succ]
          go_simp
          exact hK.out _ _ (fun j => if j = 14 then true else ℓ j) ⟨x91, x92, x93, x94, x95, x96, x97, x98, x99, x100, x101, x102, x103, .bool true, .bool true, x106, x107, x108, x109, x110, x111, x112, x113, x114, x115, x116, x117, x118, x119, x2, (by simp only [Act.put, List.setIfInBounds_toArray, List.set_cons_zero, List.set_cons_succ]), ⟨hr.gb, hr.f0, hr.f1, hr.f2, hr.f3, hr.f4, hr.f5, hr.f6, hr.f7, hr.f8, hr.f9, hr.f10, hr.f11, hr.f12, hr.f13, (fun _ => rfl), hr.f15, hr.f16, hr.f17, hr.f18, hr.f19, hr.f20, hr.f21, hr.f22, hr.f23, hr.f24, hr.f25, hr.f26, hr.f27, hr.f28, hr.f29⟩⟩ (if_pos rfl) (fun j hj => if_neg hj)
        · obtain rfl := Option.some.inj ho
          have g14 : ℓ 14 = true := hdep { on := 14, ground := Ground.guard } (by simp) rfl
          clear hdep ho
          have gb : Hid (Below V9.heap.size V9 w') := hr.gb
          revert hK
          obtain rfl := hr.f14 g14
          intro hK
          try simp only [Act.put, List.setIfInBounds_toArray, List.set_cons_zero, List.set_cons_succ]
          rw [if_pos (by rfl)]
          try simp only [Act.put, List.setIfInBounds_toArray, List.set_cons_zero, List.set_cons_succ]
          go_simp
          exact hK.out _ _ (fun j => if j = 15 then true else ℓ j) ⟨x91, x92, x93, x94, x95, x96, x97, x98, x99, x100, x101, x102, x103, x104, .bool true, .int .i64 (d : Int), x107, x108, x109, x110, x111, x112, x113, x114, x115, x116, x117, x118, x119, x2, (by simp only [Act.put, List.setIfInBounds_toArray, List.set_cons_zero, List.set_cons_succ]), ⟨hr.gb, hr.f0, hr.f1, hr.f2, hr.f3, hr.f4, hr.f5, hr.f6, hr.f7, hr.f8, hr.f9, hr.f10, hr.f11, hr.f12, hr.f13, hr.f14, (fun _ => rfl), hr.f16, hr.f17, hr.f18, hr.f19, hr.f20, hr.f21, hr.f22, hr.f23, hr.f24, hr.f25, hr.f26, hr.f27, hr.f28, hr.f29⟩⟩ (if_pos rfl) (fun j hj => if_neg hj)
        · obtain rfl := Option.some.inj ho
          have g14 : ℓ 14 = true := hdep { on := 14, ground := Ground.guard } (by simp) rfl
          clear hdep ho
          have gb : Hid (Below V9.heap.size V9 w') := hr.gb
          revert hK
          obtain rfl := hr.f14 g14
          intro hK
          try simp only [Act.put, List.setIfInBounds_toArray, List.set_cons_zero, List.set_cons_succ]
          rw [if_pos (by rfl)]
          try simp only [Act.put, List.setIfInBounds_toArray, List.set_cons_zero, List.set_cons_succ]
          go_simp
          exact hK.out _ _ (fun j => if j = 16 then true else ℓ j) ⟨x91, x92, x93, x94, x95, x96, x97, x98, x99, x100, x101, x102, x103, x104, .bool true, x106, .int .i64 (Bk0 : Int), x108, x109, x110, x111, x112, x113, x114, x115, x116, x117, x118, x119, x2, (by simp only [Act.put, List.setIfInBounds_toArray, List.set_cons_zero, List.set_cons_succ]), ⟨hr.gb, hr.f0, hr.f1, hr.f2, hr.f3, hr.f4, hr.f5, hr.f6, hr.f7, hr.f8, hr.f9, hr.f10, hr.f11, hr.f12, hr.f13, hr.f14, hr.f15, (fun _ => rfl), hr.f17, hr.f18, hr.f19, hr.f20, hr.f21, hr.f22, hr.f23, hr.f24, hr.f25, hr.f26, hr.f27, hr.f28, hr.f29⟩⟩ (if_pos rfl) (fun j hj => if_neg hj)
        · obtain rfl := Option.some.inj ho
          have g14 : ℓ 14 = true := hdep { on := 14, ground := Ground.guard } (by simp) rfl
          have g15 : ℓ 15 = true := hdep { on := 15, ground := Ground.data } (by simp) rfl
          have g16 : ℓ 16 = true := hdep { on := 16, ground := Ground.data } (by simp) rfl
          clear hdep ho
          have gb : Hid (Below V9.heap.size V9 w') := hr.gb
          revert hK
          obtain rfl := hr.f14 g14
          obtain rfl := hr.f15 g15
          obtain rfl := hr.f16 g16
          intro hK
          try simp only [Act.put, List.setIfInBounds_toArray, List.set_cons_zero, List.set_cons_succ]
          rw [if_pos (by rfl)]
          try simp only [Act.put, List.setIfInBounds_toArray, List.set_cons_zero, List.set_cons_succ]
          go_simp
          exact hK.out _ _ (fun j => if j = 17 then true else ℓ j) ⟨x91, x92, x93, x94, x95, x96, x97, x98, x99, x100, x101, x102, x103, x104, .bool true, .int .i64 (d : Int), .int .i64 (Bk0 : Int), .int .i64 ((d : Int) + (Bk0 : Int)), x109, x110, x111, x112, x113, x114, x115, x116, x117, x118, x119, x2, (by simp only [Act.put, List.setIfInBounds_toArray, List.set_cons_zero, List.set_cons_succ]), ⟨hr.gb, hr.f0, hr.f1, hr.f2, hr.f3, hr.f4, hr.f5, hr.f6, hr.f7, hr.f8, hr.f9, hr.f10, hr.f11, hr.f12, hr.f13, hr.f14, hr.f15, hr.f16, (fun _ => rfl), hr.f18, hr.f19, hr.f20, hr.f21, hr.f22, hr.f23, hr.f24, hr.f25, hr.f26, hr.f27, hr.f28, hr.f29⟩⟩ (if_pos rfl) (fun j hj => if_neg hj)
        · obtain rfl := Option.some.inj ho
          have g14 : ℓ 14 = true := hdep { on := 14, ground := Ground.guard } (by simp) rfl
          clear hdep ho
          have gb : Hid (Below V9.heap.size V9 w') := hr.gb
          revert hK
          obtain rfl := hr.f14 g14
          intro hK
          try simp only [Act.put, List.setIfInBounds_toArray, List.set_cons_zero, List.set_cons_succ]
          rw [if_pos (by rfl)]
          try simp only [Act.put, List.setIfInBounds_toArray, List.set_cons_zero, List.set_cons_succ]
          go_simp
          exact hK.out _ _ (fun j => if j = 18 then true else ℓ j) ⟨x91, x92, x93, x94, x95, x96, x97, x98, x99, x100, x101, x102, x103, x104, .bool true, x106, x107, x108, .int .i64 (W0 : Int), x110, x111, x112, x113, x114, x115, x116, x117, x118, x119, x2, (by simp only [Act.put, List.setIfInBounds_toArray, List.set_cons_zero, List.set_cons_succ]), ⟨hr.gb, hr.f0, hr.f1, hr.f2, hr.f3, hr.f4, hr.f5, hr.f6, hr.f7, hr.f8, hr.f9, hr.f10, hr.f11, hr.f12, hr.f13, hr.f14, hr.f15, hr.f16, hr.f17, (fun _ => rfl), hr.f19, hr.f20, hr.f21, hr.f22, hr.f23, hr.f24, hr.f25, hr.f26, hr.f27, hr.f28, hr.f29⟩⟩ (if_pos rfl) (fun j hj => if_neg hj)
        · obtain rfl := Option.some.inj ho
          have g14 : ℓ 14 = true := hdep { on := 14, ground := Ground.guard } (by simp) rfl
          have g17 : ℓ 17 = true := hdep { on := 17, ground := Ground.data } (by simp) rfl
          have g18 : ℓ 18 = true := hdep { on := 18, ground := Ground.data } (by simp) rfl
          clear hdep ho
          have gb : Hid (Below V9.heap.size V9 w') := hr.gb
          revert hK
          obtain rfl := hr.f14 g14
          obtain rfl := hr.f17 g17
          obtain rfl := hr.f18 g18
          intro hK
          try simp only [Act.put, List.setIfInBounds_toArray, List.set_cons_zero, List.set_cons_succ]
          rw [if_pos (by rfl)]
          try simp only [Act.put, List.setIfInBounds_toArray, List.set_cons_zero, List.set_cons_succ]
          go_simp
          exact hK.out _ _ (fun j => if j = 19 then true else ℓ j) ⟨x91, x92, x93, x94, x95, x96, x97, x98, x99, x100, x101, x102, x103, x104, .bool true, x106, x107, .int .i64 ((d : Int) + (Bk0 : Int)), .int .i64 (W0 : Int), .bool true, x111, x112, x113, x114, x115, x116, x117, x118, x119, x2, (by simp only [Act.put, List.setIfInBounds_toArray, List.set_cons_zero, List.set_cons_succ]), ⟨hr.gb, hr.f0, hr.f1, hr.f2, hr.f3, hr.f4, hr.f5, hr.f6, hr.f7, hr.f8, hr.f9, hr.f10, hr.f11, hr.f12, hr.f13, hr.f14, hr.f15, hr.f16, hr.f17, hr.f18, (fun _ => rfl), hr.f20, hr.f21, hr.f22, hr.f23, hr.f24, hr.f25, hr.f26, hr.f27, hr.f28, hr.f29⟩⟩ (if_pos rfl) (fun j hj => if_neg hj)
        · obtain rfl := Option.some.inj ho
          have g14 : ℓ 14 = true := hdep { on := 14, ground := Ground.data } (by simp) rfl
          have g19 : ℓ 19 = true := hdep { on := 19, ground := Ground.data } (by simp) rfl
          clear hdep ho
          have gb : Hid (Below V9.heap.size V9 w') := hr.gb
          revert hK
          obtain rfl := hr.f14 g14
          obtain rfl := hr.f19 g19
          intro hK
          rw [if_pos (by rfl)]
          try simp only [Act.put, List.setIfInBounds_toArray, List.set_cons_zero, List.set_cons_succ]
          go_simp
          exact hK.out _ _ (fun j => if j = 20 then true else ℓ j) ⟨x91, x92, x93, x94, x95, x96, x97, x98, x99, x100, x101, x102, x103, x104, .bool true, x106, x107, x108, x109, .bool true, .bool true, x112, x113, x114, x115, x116, x117, x118, x119, x2, (by simp only [Act.put, List.setIfInBounds_toArray, List.set_cons_zero, List.set_cons_succ]), ⟨hr.gb, hr.f0, hr.f1, hr.f2, hr.f3, hr.f4, hr.f5, hr.f6, hr.f7, hr.f8, hr.f9, hr.f10, hr.f11, hr.f12, hr.f13, hr.f14, hr.f15, hr.f16, hr.f17, hr.f18, hr.f19, (fun _ => rfl), hr.f21, hr.f22, hr.f23, hr.f24, hr.f25, hr.f26, hr.f27, hr.f28, hr.f29⟩⟩ (if_pos rfl) (fun j hj => if_neg hj)
        · obtain rfl := Option.some.inj ho
          have g20 : ℓ 20 = true := hdep { on := 20, ground := Ground.data } (by simp) rfl
          clear hdep ho
          have gb : Hid (Below V9.heap.size V9 w') := hr.gb
          revert hK
          obtain rfl := hr.f20 g20
          intro hK
          rw [if_pos (by rfl)]
          try simp only [Act.put, List.setIfInBounds_toArray, List.set_cons_zero, List.set_cons_succ]
          go_simp
          exact hK.out _ _ (fun j => if j = 21 then true else ℓ j) ⟨x91, x92, x93, x94, x95, x96, x97, x98, x99, x100, x101, x102, x103, x104, x105, x106, x107, x108, x109, x110, .bool true, .bool true, x113, x114, x115, x116, x117, x118, x119, x2, (by simp only [Act.put, List.setIfInBounds_toArray, List.set_cons_zero, List.set_cons_succ]), ⟨hr.gb, hr.f0, hr.f1, hr.f2, hr.f3, hr.f4, hr.f5, hr.f6, hr.f7, hr.f8, hr.f9, hr.f10, hr.f11, hr.f12, hr.f13, hr.f14, hr.f15, hr.f16, hr.f17, hr.f18, hr.f19, hr.f20, (fun _ => rfl), hr.f22, hr.f23, hr.f24, hr.f25, hr.f26, hr.f27, hr.f28, hr.f29⟩⟩ (if_pos rfl) (fun j hj => if_neg hj)
        · obtain rfl := Option.some.inj ho
          have g21 : ℓ 21 = true := hdep { on := 21, ground := Ground.guard } (by simp) rfl
          clear hdep ho
          have gb : Hid (Below V9.heap.size V9 w') := hr.gb
          revert hK
          obtain rfl := hr.f21 g21
          intro hK
          have kq := HCC.out _ gb.out
          have q0 := kq.1
          have q1 := kq.2.1
          have q2 := kq.2.2.1
          have q3 := kq.2.2.2
          try simp only [Act.put, List.setIfInBounds_toArray, List.set_cons_zero, List.set_cons_succ]
          rw [if_pos (by rfl)]
          try simp only [Act.put, List.setIfInBounds_toArray, List.set_cons_zero, List.set_cons_succ]
          go_simp
          exact hK.out _ _ (fun j => if j = 22 then true else ℓ j) ⟨x91, x92, x93, x94, x95, x96, x97, x98, x99, x100, x101, x102, x103, x104, x105, x106, x107, x108, x109, x110, x111, .bool true, cch (n : Int) (M : Int) (L : Int) (.slice ca n cc), x114, x115, x116, x117, x118, x119, x2, (by simp only [Act.put, List.setIfInBounds_toArray, List.set_cons_zero, List.set_cons_succ]), ⟨hr.gb, hr.f0, hr.f1, hr.f2, hr.f3, hr.f4, hr.f5, hr.f6, hr.f7, hr.f8, hr.f9, hr.f10, hr.f11, hr.f12, hr.f13, hr.f14, hr.f15, hr.f16, hr.f17, hr.f18, hr.f19, hr.f20, hr.f21, (fun _ => rfl), hr.f23, hr.f24, hr.f25, hr.f26, hr.f27, hr.f28, hr.f29⟩⟩ (if_pos rfl) (fun j hj => if_neg hj)
        · obtain rfl := Option.some.inj ho
          have g21 : ℓ 21 = true := hdep { on := 21, ground := Ground.guard } (by simp) rfl
          have g22 : ℓ 22 = true := hdep { on := 22, ground := Ground.data } (by simp) rfl
          clear hdep ho
          have gb : Hid (Below V9.heap.size V9 w') := hr.gb
          revert hK
          obtain rfl := hr.f21 g21
          obtain rfl := hr.f22 g22
          intro hK
          try simp only [Act.put, List.setIfInBounds_toArray, List.set_cons_zero, List.set_cons_succ]
          rw [if_pos (by rfl)]
          try simp only [Act.put, List.setIfInBounds_toArray, List.set_cons_zero, List.set_cons_succ]
          go_simp
          refine Calls.mono (HLT.out _ gb.out) ?_
          rintro e w9 ⟨a8, c8, rfl, hb9⟩
          exact hK.out _ _ (fun j => if j = 23 then true else ℓ j) ⟨x91, x92, x93, x94, x95, x96, x97, x98, x99, x100, x101, x102, x103, x104, x105, x106, x107, x108, x109, x110, x111, .bool true, cch (n : Int) (M : Int) (L : Int) (.slice ca n cc), .slice a8 TT c8, x115, x116, x117, x118, x119, x2, (by simp only [Act.put, List.setIfInBounds_toArray, List.set_cons_zero, List.set_cons_succ]), ⟨(hr.gb.trans (hb9.mono hr.gb.size)), hr.f0, hr.f1, hr.f2, hr.f3, hr.f4, hr.f5, hr.f6, hr.f7, hr.f8, hr.f9, hr.f10, hr.f11, hr.f12, hr.f13, hr.f14, hr.f15, hr.f16, hr.f17, hr.f18, hr.f19, hr.f20, hr.f21, hr.f22, (fun _ => ⟨_, _, rfl⟩), hr.f24, hr.f25, hr.f26, hr.f27, hr.f28, hr.f29⟩⟩ (if_pos rfl) (fun j hj => if_neg hj)
        · obtain rfl := Option.some.inj ho
          have g21 : ℓ 21 = true := hdep { on := 21, ground := Ground.guard } (by simp) rfl
          have g23 : ℓ 23 = true := hdep { on := 23, ground := Ground.data } (by simp) rfl
          clear hdep ho
          have gb : Hid (Below V9.heap.size V9 w') := hr.gb
          revert hK
          obtain rfl := hr.f21 g21
          obtain ⟨Ad23, Cd23, rfl⟩ := hr.f23 g23
          intro hK
          try simp only [Act.put, List.setIfInBounds_toArray, List.set_cons_zero, List.set_cons_succ]
          rw [if_pos (by rfl)]
          try simp only [Act.put, List.setIfInBounds_toArray, List.set_cons_zero, List.set_cons_succ]
          go_simp
          exact hK.out _ _ (fun j => if j = 24 then true else ℓ j) ⟨x91, x92, x93, x94, x95, x96, x97, x98, x99, x100, x101, x102, x103, x104, x105, x106, x107, x108, x109, x110, x111, .bool true, x113, .slice Ad23 TT Cd23, .int .i64 (TT : Int), x116, x117, x118, x119, x2, (by simp only [Act.put, List.setIfInBounds_toArray, List.set_cons_zero, List.set_cons_succ]), ⟨hr.gb, hr.f0, hr.f1, hr.f2, hr.f3, hr.f4, hr.f5, hr.f6, hr.f7, hr.f8, hr.f9, hr.f10, hr.f11, hr.f12, hr.f13, hr.f14, hr.f15, hr.f16, hr.f17, hr.f18, hr.f19, hr.f20, hr.f21, hr.f22, hr.f23, (fun _ => rfl), hr.f25, hr.f26, hr.f27, hr.f28, hr.f29⟩⟩ (if_pos rfl) (fun j hj => if_neg hj)
        · obtain rfl := Option.some.inj ho
          have g21 : ℓ 21 = true := hdep { on := 21, ground := Ground.guard } (by simp) rfl
          clear hdep ho
          have gb : Hid (Below V9.heap.size V9 w') := hr.gb
          revert hK
          obtain rfl := hr.f21 g21
          intro hK
          have kq := HCS.out _ gb.out
          have q0 := kq.1
          have q1 := kq.2.1
          have q2 := kq.2.2
          try simp only [Act.put, List.setIfInBounds_toArray, List.set_cons_zero, List.set_cons_succ]
          rw [if_pos (by rfl)]
          try simp only [Act.put, List.setIfInBounds_toArray, List.set_cons_zero, List.set_cons_succ]
          go_simp
          exact hK.out _ _ (fun j => if j = 25 then true else ℓ j) ⟨x91, x92, x93, x94, x95, x96, x97, x98, x99, x100, x101, x102, x103, x104, x105, x106, x107, x108, x109, x110, x111, .bool true, x113, x114, x115, shp (n : Int) (M : Int) (L : Int), x117, x118, x119, x2, (by simp only [Act.put, List.setIfInBounds_toArray, List.set_cons_zero, List.set_cons_succ]), ⟨hr.gb, hr.f0, hr.f1, hr.f2, hr.f3, hr.f4, hr.f5, hr.f6, hr.f7, hr.f8, hr.f9, hr.f10, hr.f11, hr.f12, hr.f13, hr.f14, hr.f15, hr.f16, hr.f17, hr.f18, hr.f19, hr.f20, hr.f21, hr.f22, hr.f23, hr.f24, (fun _ => rfl), hr.f26, hr.f27, hr.f28, hr.f29⟩⟩ (if_pos rfl) (fun j hj => if_neg hj)
        · obtain rfl := Option.some.inj ho
          have g21 : ℓ 21 = true := hdep { on := 21, ground := Ground.guard } (by simp) rfl
          have g25 : ℓ 25 = true := hdep { on := 25, ground := Ground.data } (by simp) rfl
          clear hdep ho
          have gb : Hid (Below V9.heap.size V9 w') := hr.gb
          revert hK
          obtain rfl := hr.f21 g21
          obtain rfl := hr.f25 g25
          intro hK
          try simp only [Act.put, List.setIfInBounds_toArray, List.set_cons_zero, List.set_cons_succ]
          rw [if_pos (by rfl)]
          try simp only [Act.put, List.setIfInBounds_toArray, List.set_cons_zero, List.set_cons_succ]
          go_simp
          refine Calls.mono (HWD.out _ gb.out) ?_
          rintro e w9 ⟨rfl, hb9⟩
          exact hK.out _ _ (fun j => if j = 26 then true else ℓ j) ⟨x91, x92, x93, x94, x95, x96, x97, x98, x99, x100, x101, x102, x103, x104, x105, x106, x107, x108, x109, x110, x111, .bool true, x113, x114, x115, shp (n : Int) (M : Int) (L : Int), .int .i64 WW, x118, x119, x2, (by simp only [Act.put, List.setIfInBounds_toArray, List.set_cons_zero, List.set_cons_succ]), ⟨(hr.gb.trans (hb9.mono hr.gb.size)), hr.f0, hr.f1, hr.f2, hr.f3, hr.f4, hr.f5, hr.f6, hr.f7, hr.f8, hr.f9, hr.f10, hr.f11, hr.f12, hr.f13, hr.f14, hr.f15, hr.f16, hr.f17, hr.f18, hr.f19, hr.f20, hr.f21, hr.f22, hr.f23, hr.f24, hr.f25, (fun _ => rfl), hr.f27, hr.f28, hr.f29⟩⟩ (if_pos rfl) (fun j hj => if_neg hj)
        · obtain rfl := Option.some.inj ho
          have g21 : ℓ 21 = true := hdep { on := 21, ground := Ground.guard } (by simp) rfl
          have g24 : ℓ 24 = true := hdep { on := 24, ground := Ground.data } (by simp) rfl
          have g26 : ℓ 26 = true := hdep { on := 26, ground := Ground.data } (by simp) rfl
          clear hdep ho
          have gb : Hid (Below V9.heap.size V9 w') := hr.gb
          revert hK
          obtain rfl := hr.f21 g21
          obtain rfl := hr.f24 g24
          obtain rfl := hr.f26 g26
          intro hK
          try simp only [Act.put, List.setIfInBounds_toArray, List.set_cons_zero, List.set_cons_succ]
          rw [if_pos (by rfl)]
          try simp only [Act.put, List.setIfInBounds_toArray, List.set_cons_zero, List.set_cons_succ]
          go_simp
          exact hK.out _ _ (fun j => if j = 27 then true else ℓ j) ⟨x91, x92, x93, x94, x95, x96, x97, x98, x99, x100, x101, x102, x103, x104, x105, x106, x107, x108, x109, x110, x111, .bool true, x113, x114, .int .i64 (TT : Int), x116, .int .i64 WW, .bool true, x119, x2, (by simp only [Act.put, List.setIfInBounds_toArray, List.set_cons_zero, List.set_cons_succ]), ⟨hr.gb, hr.f0, hr.f1, hr.f2, hr.f3, hr.f4, hr.f5, hr.f6, hr.f7, hr.f8, hr.f9, hr.f10, hr.f11, hr.f12, hr.f13, hr.f14, hr.f15, hr.f16, hr.f17, hr.f18, hr.f19, hr.f20, hr.f21, hr.f22, hr.f23, hr.f24, hr.f25, hr.f26, (fun _ => rfl), hr.f28, hr.f29⟩⟩ (if_pos rfl) (fun j hj => if_neg hj)
        · obtain rfl := Option.some.inj ho
          have g21 : ℓ 21 = true := hdep { on := 21, ground := Ground.data } (by simp) rfl
          have g27 : ℓ 27 = true := hdep { on := 27, ground := Ground.data } (by simp) rfl
          clear hdep ho
          have gb : Hid (Below V9.heap.size V9 w') := hr.gb
          revert hK
          obtain rfl := hr.f21 g21
          obtain rfl := hr.f27 g27
          intro hK
          rw [if_pos (by rfl)]
          try simp only [Act.put, List.setIfInBounds_toArray, List.set_cons_zero, List.set_cons_succ]
          go_simp
          exact hK.out _ _ (fun j => if j = 28 then true else ℓ j) ⟨x91, x92, x93, x94, x95, x96, x97, x98, x99, x100, x101, x102, x103, x104, x105, x106, x107, x108, x109, x110, x111, .bool true, x113, x114, x115, x116, x117, .bool true, .bool true, x2, (by simp only [Act.put, List.setIfInBounds_toArray, List.set_cons_zero, List.set_cons_succ]), ⟨hr.gb, hr.f0, hr.f1, hr.f2, hr.f3, hr.f4, hr.f5, hr.f6, hr.f7, hr.f8, hr.f9, hr.f10, hr.f11, hr.f12, hr.f13, hr.f14, hr.f15, hr.f16, hr.f17, hr.f18, hr.f19, hr.f20, hr.f21, hr.f22, hr.f23, hr.f24, hr.f25, hr.f26, hr.f27, (fun _ => rfl), hr.f29⟩⟩ (if_pos rfl) (fun j hj => if_neg hj)
        · obtain rfl := Option.some.inj ho
          have g28 : ℓ 28 = true := hdep { on := 28, ground := Ground.data } (by simp) rfl
          clear hdep ho
          have gb : Hid (Below V9.heap.size V9 w') := hr.gb
          revert hK
          obtain rfl := hr.f28 g28
          intro hK
          rw [if_pos (by rfl)]
          try simp only [Act.put, List.setIfInBounds_toArray, List.set_cons_zero, List.set_cons_succ]
          go_simp
          exact hK.out _ _ (fun j => if j = 29 then true else ℓ j) ⟨x91, x92, x93, x94, x95, x96, x97, x98, x99, x100, x101, x102, x103, x104, x105, x106, x107, x108, x109, x110, x111, x112, x113, x114, x115, x116, x117, x118, .bool true, .bool true, (by simp only [Act.put, List.setIfInBounds_toArray, List.set_cons_zero, List.set_cons_succ]), ⟨hr.gb, hr.f0, hr.f1, hr.f2, hr.f3, hr.f4, hr.f5, hr.f6, hr.f7, hr.f8, hr.f9, hr.f10, hr.f11, hr.f12, hr.f13, hr.f14, hr.f15, hr.f16, hr.f17, hr.f18, hr.f19, hr.f20, hr.f21, hr.f22, hr.f23, hr.f24, hr.f25, hr.f26, hr.f27, hr.f28, (fun _ => rfl)⟩⟩ (if_pos rfl) (fun j hj => if_neg hj)
      · rintro a' w' ℓ ℓ' hℓ hI
        rw [← show ℓ = ℓ' from funext hℓ]
        exact hI
    have hkn' : (k : Int) < (N : Int) := by omega
    obtain ⟨ca, cc, lo0, hi0, hfd⟩ := HR.out
    have HFD : Hid (FD w2 wr P5 n M L us k ca cc lo0 hi0) := hfd
    obtain ⟨ub, uo, rfl, hub, hcx, hcq⟩ := HS2.out.at k (by rw [HUL.out]; exact hkn)
    obtain ⟨f1, f2, f3, f4, f5⟩ := use_facts HSH.out (us := us) (k := k) (fun j hj => HA.out j (by omega))
    have hp := shapeOk_parts HSH.out
    have hbs : bks n M L us (k + 1) = bks n M L us k + (if usedBack M (runC n M L us k (hhA n L us k)) (ttA n L us k) (us.getD k wd).2 = true then 1 else 0) := rfl
    have hws : wrs us (k + 1) = wrs us k + (if (us.getD k wd).2 = true then 1 else 0) := rfl
    obtain ⟨h, HHV⟩ : ∃ h, Hid (usedHit (runC n M L us k (hhA n L us k)) (ttA n L us k) = h) := ⟨_, rfl⟩
    obtain ⟨b, HBV⟩ : ∃ b, Hid (usedBack M (runC n M L us k (hhA n L us k)) (ttA n L us k) (us.getD k wd).2 = b) := ⟨_, rfl⟩
    obtain ⟨D, HDV⟩ : ∃ D, Hid (runC n M L us (k + 1) = D) := ⟨_, rfl⟩
    have hIU : ∀ X, Below wr.heap.size wr X → Calls Try.prog 9 #[cch (n : Int) (M : Int) (L : Int) (.slice ca n cc), .int .i64 ((us.getD k wd).1.toNat : Int), .bool (us.getD k wd).2] X fun e w' => ∃ a' cap', e = .returned (UT n M L h b a' cap') ∧ Below X.heap.size X w' ∧ ORows w' X.heap.size w'.heap.size a' n D := fun X hX => by
      have := impl_use n M L (us.getD k wd).1.toNat (us.getD k wd).2 ca cc (runC n M L us k) X (hfd.rows.seg.below hX) f3 f1 (hhA n L us k) (ttA n L us k) rfl rfl
      rw [HHV.out, HBV.out] at this
      refine this.mono fun e w' hh => ?_
      obtain ⟨a', cap', e1, e2, e3⟩ := hh
      exact ⟨a', cap', e1, e2, by rw [← HDV.out]; exact e3⟩
    rw [f2] at hIU
    rw [HBV.out] at hbs
    have HOKD : Hid (CacheOkP (n : Int) (M : Int) (L : Int) n D) := by rw [← HDV.out]; exact f4
    have HHOD : Hid (HoldP (n : Int) (M : Int) (L : Int) n D (us.getD k wd).1) := by rw [← HDV.out]; exact f5
    have HTD : Hid (tot D n ≤ 64 ∧ n ≤ 16) := by
      have h1 := ok_tot HOKD.out
      have : n * M ≤ 16 * 4 := Nat.mul_le_mul (by omega) (by omega)
      exact ⟨by omega, by omega⟩
    have hWk : W0 ≤ 150 := by rw [HWB.out.1]; have := wrs_le us k; omega
    have hBk : Bk0 ≤ 150 := by
      have := dirty_le n M L us (by omega) k
      have h2 := wrs_le us k
      rw [HWB.out.2]; omega
    clear f1 f2 f3 f4 f5 hp HHV HBV
    generalize us.getD k wd = xq at hcx hcq hIU hbs hws HHOD
    obtain ⟨A, q⟩ := xq
    simp only at hcx hcq hIU hbs hws HHOD
    have HUS : Hid (∀ X, Below wr.heap.size wr X → _) := hIU
    have HNX : Hid (wrs us (k + 1) = W0 + (if q = true then 1 else 0) ∧ bks n M L us (k + 1) = Bk0 + (if b = true then 1 else 0)) := ⟨by rw [HWB.out.1]; exact hws, by rw [HWB.out.2]; exact hbs⟩
    have HCA : Hid (∀ X, Below wr.heap.size wr X → X.cell? ⟨ub, uo + k * 2, none⟩ = some (.int .i64 A) ∧ X.cell? ⟨ub, uo + k * 2 + 1, none⟩ = some (.bool q)) := fun X hX => by
      have h2 : Below w2.heap.size w2 X := hfd.bel.trans (hX.mono hfd.bel.size)
      exact ⟨(h2.cell (p := ⟨ub, uo + k * 2, none⟩) hub).trans hcx, (h2.cell (p := ⟨ub, uo + k * 2 + 1, none⟩) hub).trans hcq⟩
    have HC5 : Hid (∀ X, Below wr.heap.size wr X → X.cell? ⟨P5, 0, none⟩ = some (.int .i64 n) ∧ X.cell? ⟨P5, 1, none⟩ = some (.int .i64 M) ∧ X.cell? ⟨P5, 2, none⟩ = some (.int .i64 L) ∧ X.cell? ⟨P5, 3, none⟩ = some (.slice ca n cc)) := fun X hX => by
      have kk := hfd.box.below hX
      exact ⟨kk.cell 0 _ rfl, kk.cell 1 _ rfl, kk.cell 2 _ rfl, kk.cell 3 _ rfl⟩
    clear hIU hcx hcq hub hbs hws hfd HWB HR HA
    go_wp2
    refine wp_region_inv (by kernel_rfl) (by kernel_rfl) (fun AC ℓ a' w' => ∃ (x47 x48 x49 x50 x51 x52 x53 x54 x55 x56 x57 x58 x46 x59 x60 x61 x9 x10 x11 : Value), a' = (((((((((((((((((((AC.put (some 47) x47).put (some 48) x48).put (some 49) x49).put (some 50) x50).put (some 51) x51).put (some 52) x52).put (some 53) x53).put (some 54) x54).put (some 55) x55).put (some 56) x56).put (some 57) x57).put (some 58) x58).put (some 46) x46).put (some 59) x59).put (some 60) x60).put (some 61) x61).put (some 9) x9).put (some 10) x10).put (some 11) x11) ∧ RU wr (cch (n : Int) (M : Int) (L : Int) (.slice ca n cc)) (.slice (some ⟨ub, uo, none⟩) N uc) (.int .i64 (k : Int)) (.pointer (some ⟨ub, uo + k * 2, none⟩)) (.pointer (some ⟨ub, uo + k * 2 + 1, none⟩)) (.int .i64 A) (.bool q) n M L h b D w' (ℓ 0) (ℓ 1) (ℓ 2) (ℓ 3) (ℓ 4) (ℓ 5) (ℓ 6) (ℓ 7) (ℓ 8) (ℓ 9) (ℓ 10) (ℓ 11) (ℓ 12) (ℓ 13) (ℓ 14) (ℓ 15) (ℓ 16) (ℓ 17) (ℓ 18) (ℓ 19) x47 x48 x49 x50 x51 x52 x53 x54 x55 x56 x57 x58 x46 x59 x60 x61 x9 x10 x11) ?_ ?_ ?_ ?_
    · exact ⟨u47, u48, u49, u50, u51, u52, u53, u54, u55, u56, u57, u58, u46, u59, u60, u61, u9, u10, u11, (by simp only [Act.put, List.setIfInBounds_toArray, List.set_cons_zero, List.set_cons_succ]), ⟨(Below.refl _ _).drew, (fun z => by cases z), (fun z => by cases z), (fun z => by cases z), (fun z => by cases z), (fun z => by cases z), (fun z => by cases z), (fun z => by cases z), (fun z => by cases z), (fun z => by cases z), (fun z => by cases z), (fun z => by cases z), (fun z => by cases z), (fun z => by cases z), (fun z => by cases z), (fun z => by cases z), (fun z => by cases z), (fun z => by cases z), (fun z => by cases z), (fun z => by cases z), (fun z => by cases z)⟩⟩
    rotate_left
    · intro ℓ a' w' i o hI ho hi hL hdep K hK
      obtain ⟨x47, x48, x49, x50, x51, x52, x53, x54, x55, x56, x57, x58, x46, x59, x60, x61, x9, x10, x11, rfl, hr⟩ := hI
      have hi7 : i < 20 := hi
      have hcs : i = 0 ∨ i = 1 ∨ i = 2 ∨ i = 3 ∨ i = 4 ∨ i = 5 ∨ i = 6 ∨ i = 7 ∨ i = 8 ∨ i = 9 ∨ i = 10 ∨ i = 11 ∨ i = 12 ∨ i = 13 ∨ i = 14 ∨ i = 15 ∨ i = 16 ∨ i = 17 ∨ i = 18 ∨ i = 19 := by omega
      clear hi hi7
      rcases hcs with rfl | rfl | rfl | rfl | rfl | rfl | rfl | rfl | rfl | rfl | rfl | rfl | rfl | rfl | rfl | rfl | rfl | rfl | rfl | rfl
      · obtain rfl := Option.some.inj ho
        clear hdep ho
        have kq := (HC5.out _ hr.gb)
        have q0 := kq.1
        have q1 := kq.2.1
        have q2 := kq.2.2.1
        have q3 := kq.2.2.2
        rw [if_pos (by rfl)]
        try simp only [Act.put, List.setIfInBounds_toArray, List.set_cons_zero, List.set_cons_succ]
        go_simp
        exact hK.out _ _ (fun j => if j = 0 then true else ℓ j) ⟨cch (n : Int) (M : Int) (L : Int) (.slice ca n cc), x48, x49, x50, x51, x52, x53, x54, x55, x56, x57, x58, x46, x59, x60, x61, x9, x10, x11, (by simp only [Act.put, List.setIfInBounds_toArray, List.set_cons_zero, List.set_cons_succ]), ⟨hr.gb, (fun _ => rfl), hr.f1, hr.f2, hr.f3, hr.f4, hr.f5, hr.f6, hr.f7, hr.f8, hr.f9, hr.f10, hr.f11, hr.f12, hr.f13, hr.f14, hr.f15, hr.f16, hr.f17, hr.f18, hr.f19⟩⟩ (if_pos rfl) (fun j hj => if_neg hj)
      · obtain rfl := Option.some.inj ho
        clear hdep ho
        rw [if_pos (by rfl)]
        try simp only [Act.put, List.setIfInBounds_toArray, List.set_cons_zero, List.set_cons_succ]
        go_simp
        exact hK.out _ _ (fun j => if j = 1 then true else ℓ j) ⟨x47, .slice (some ⟨ub, uo, none⟩) N uc, x49, x50, x51, x52, x53, x54, x55, x56, x57, x58, x46, x59, x60, x61, x9, x10, x11, (by simp only [Act.put, List.setIfInBounds_toArray, List.set_cons_zero, List.set_cons_succ]), ⟨hr.gb, hr.f0, (fun _ => rfl), hr.f2, hr.f3, hr.f4, hr.f5, hr.f6, hr.f7, hr.f8, hr.f9, hr.f10, hr.f11, hr.f12, hr.f13, hr.f14, hr.f15, hr.f16, hr.f17, hr.f18, hr.f19⟩⟩ (if_pos rfl) (fun j hj => if_neg hj)
      · obtain rfl := Option.some.inj ho
        clear hdep ho
        rw [if_pos (by rfl)]
        try simp only [Act.put, List.setIfInBounds_toArray, List.set_cons_zero, List.set_cons_succ]
        go_simp
        exact hK.out _ _ (fun j => if j = 2 then true else ℓ j) ⟨x47, x48, .int .i64 (k : Int), x50, x51, x52, x53, x54, x55, x56, x57, x58, x46, x59, x60, x61, x9, x10, x11, (by simp only [Act.put, List.setIfInBounds_toArray, List.set_cons_zero, List.set_cons_succ]), ⟨hr.gb, hr.f0, hr.f1, (fun _ => rfl), hr.f3, hr.f4, hr.f5, hr.f6, hr.f7, hr.f8, hr.f9, hr.f10, hr.f11, hr.f12, hr.f13, hr.f14, hr.f15, hr.f16, hr.f17, hr.f18, hr.f19⟩⟩ (if_pos rfl) (fun j hj => if_neg hj)
      · obtain rfl := Option.some.inj ho
        have g1 : ℓ 1 = true := hdep { on := 1, ground := Ground.data } (by simp) rfl
        have g2 : ℓ 2 = true := hdep { on := 2, ground := Ground.data } (by simp) rfl
        clear hdep ho
        obtain rfl := hr.f1 g1
        obtain rfl := hr.f2 g2
        rw [if_pos (by rfl)]
        try simp only [Act.put, List.setIfInBounds_toArray, List.set_cons_zero, List.set_cons_succ]
        go_simp
        exact hK.out _ _ (fun j => if j = 3 then true else ℓ j) ⟨x47, .slice (some ⟨ub, uo, none⟩) N uc, .int .i64 (k : Int), .pointer (some ⟨ub, uo + k * 2, none⟩), x51, x52, x53, x54, x55, x56, x57, x58, x46, x59, x60, x61, x9, x10, x11, (by simp only [Act.put, List.setIfInBounds_toArray, List.set_cons_zero, List.set_cons_succ]), ⟨hr.gb, hr.f0, hr.f1, hr.f2, (fun _ => rfl), hr.f4, hr.f5, hr.f6, hr.f7, hr.f8, hr.f9, hr.f10, hr.f11, hr.f12, hr.f13, hr.f14, hr.f15, hr.f16, hr.f17, hr.f18, hr.f19⟩⟩ (if_pos rfl) (fun j hj => if_neg hj)
      · obtain rfl := Option.some.inj ho
        have g3 : ℓ 3 = true := hdep { on := 3, ground := Ground.data } (by simp) rfl
        clear hdep ho
        obtain rfl := hr.f3 g3
        rw [if_pos (by rfl)]
        try simp only [Act.put, List.setIfInBounds_toArray, List.set_cons_zero, List.set_cons_succ]
        go_simp
        exact hK.out _ _ (fun j => if j = 4 then true else ℓ j) ⟨x47, x48, x49, .pointer (some ⟨ub, uo + k * 2, none⟩), .pointer (some ⟨ub, uo + k * 2, none⟩), x52, x53, x54, x55, x56, x57, x58, x46, x59, x60, x61, x9, x10, x11, (by simp only [Act.put, List.setIfInBounds_toArray, List.set_cons_zero, List.set_cons_succ]), ⟨hr.gb, hr.f0, hr.f1, hr.f2, hr.f3, (fun _ => rfl), hr.f5, hr.f6, hr.f7, hr.f8, hr.f9, hr.f10, hr.f11, hr.f12, hr.f13, hr.f14, hr.f15, hr.f16, hr.f17, hr.f18, hr.f19⟩⟩ (if_pos rfl) (fun j hj => if_neg hj)
      · obtain rfl := Option.some.inj ho
        have g4 : ℓ 4 = true := hdep { on := 4, ground := Ground.data } (by simp) rfl
        clear hdep ho
        obtain rfl := hr.f4 g4
        have q0 := (HCA.out _ hr.gb).1
        rw [if_pos (by rfl)]
        try simp only [Act.put, List.setIfInBounds_toArray, List.set_cons_zero, List.set_cons_succ]
        go_simp
        exact hK.out _ _ (fun j => if j = 5 then true else ℓ j) ⟨x47, x48, x49, x50, .pointer (some ⟨ub, uo + k * 2, none⟩), .int .i64 A, x53, x54, x55, x56, x57, x58, x46, x59, x60, x61, x9, x10, x11, (by simp only [Act.put, List.setIfInBounds_toArray, List.set_cons_zero, List.set_cons_succ]), ⟨hr.gb, hr.f0, hr.f1, hr.f2, hr.f3, hr.f4, (fun _ => rfl), hr.f6, hr.f7, hr.f8, hr.f9, hr.f10, hr.f11, hr.f12, hr.f13, hr.f14, hr.f15, hr.f16, hr.f17, hr.f18, hr.f19⟩⟩ (if_pos rfl) (fun j hj => if_neg hj)
      · obtain rfl := Option.some.inj ho
        clear hdep ho
        rw [if_pos (by rfl)]
        try simp only [Act.put, List.setIfInBounds_toArray, List.set_cons_zero, List.set_cons_succ]
        go_simp
        exact hK.out _ _ (fun j => if j = 6 then true else ℓ j) ⟨x47, x48, x49, x50, x51, x52, .slice (some ⟨ub, uo, none⟩) N uc, x54, x55, x56, x57, x58, x46, x59, x60, x61, x9, x10, x11, (by simp only [Act.put, List.setIfInBounds_toArray, List.set_cons_zero, List.set_cons_succ]), ⟨hr.gb, hr.f0, hr.f1, hr.f2, hr.f3, hr.f4, hr.f5, (fun _ => rfl), hr.f7, hr.f8, hr.f9, hr.f10, hr.f11, hr.f12, hr.f13, hr.f14, hr.f15, hr.f16, hr.f17, hr.f18, hr.f19⟩⟩ (if_pos rfl) (fun j hj => if_neg hj)
      · obtain rfl := Option.some.inj ho
        clear hdep ho
        rw [if_pos (by rfl)]
        try simp only [Act.put, List.setIfInBounds_toArray, List.set_cons_zero, List.set_cons_succ]
        go_simp
        exact hK.out _ _ (fun j => if j = 7 then true else ℓ j) ⟨x47, x48, x49, x50, x51, x52, x53, .int .i64 (k : Int), x55, x56, x57, x58, x46, x59, x60, x61, x9, x10, x11, (by simp only [Act.put, List.setIfInBounds_toArray, List.set_cons_zero, List.set_cons_succ]), ⟨hr.gb, hr.f0, hr.f1, hr.f2, hr.f3, hr.f4, hr.f5, hr.f6, (fun _ => rfl), hr.f8, hr.f9, hr.f10, hr.f11, hr.f12, hr.f13, hr.f14, hr.f15, hr.f16, hr.f17, hr.f18, hr.f19⟩⟩ (if_pos rfl) (fun j hj => if_neg hj)
      · obtain rfl := Option.some.inj ho
        have g6 : ℓ 6 = true := hdep { on := 6, ground := Ground.data } (by simp) rfl
        have g7 : ℓ 7 = true := hdep { on := 7, ground := Ground.data } (by simp) rfl
        clear hdep ho
        obtain rfl := hr.f6 g6
        obtain rfl := hr.f7 g7
        rw [if_pos (by rfl)]
        try simp only [Act.put, List.setIfInBounds_toArray, List.set_cons_zero, List.set_cons_succ]
        go_simp
        exact hK.out _ _ (fun j => if j = 8 then true else ℓ j) ⟨x47, x48, x49, x50, x51, x52, .slice (some ⟨ub, uo, none⟩) N uc, .int .i64 (k : Int), .pointer (some ⟨ub, uo + k * 2, none⟩), x56, x57, x58, x46, x59, x60, x61, x9, x10, x11, (by simp only [Act.put, List.setIfInBounds_toArray, List.set_cons_zero, List.set_cons_succ]), ⟨hr.gb, hr.f0, hr.f1, hr.f2, hr.f3, hr.f4, hr.f5, hr.f6, hr.f7, (fun _ => rfl), hr.f9, hr.f10, hr.f11, hr.f12, hr.f13, hr.f14, hr.f15, hr.f16, hr.f17, hr.f18, hr.f19⟩⟩ (if_pos rfl) (fun j hj => if_neg hj)
      · obtain rfl := Option.some.inj ho
        have g8 : ℓ 8 = true := hdep { on := 8, ground := Ground.data } (by simp) rfl
        clear hdep ho
        obtain rfl := hr.f8 g8
        rw [if_pos (by rfl)]
        try simp only [Act.put, List.setIfInBounds_toArray, List.set_cons_zero, List.set_cons_succ]
        go_simp
        exact hK.out _ _ (fun j => if j = 9 then true else ℓ j) ⟨x47, x48, x49, x50, x51, x52, x53, x54, .pointer (some ⟨ub, uo + k * 2, none⟩), .pointer (some ⟨ub, uo + k * 2 + 1, none⟩), x57, x58, x46, x59, x60, x61, x9, x10, x11, (by simp only [Act.put, List.setIfInBounds_toArray, List.set_cons_zero, List.set_cons_succ]), ⟨hr.gb, hr.f0, hr.f1, hr.f2, hr.f3, hr.f4, hr.f5, hr.f6, hr.f7, hr.f8, (fun _ => rfl), hr.f10, hr.f11, hr.f12, hr.f13, hr.f14, hr.f15, hr.f16, hr.f17, hr.f18, hr.f19⟩⟩ (if_pos rfl) (fun j hj => if_neg hj)
      · obtain rfl := Option.some.inj ho
        have g9 : ℓ 9 = true := hdep { on := 9, ground := Ground.data } (by simp) rfl
        clear hdep ho
        obtain rfl := hr.f9 g9
        have q0 := (HCA.out _ hr.gb).2
        rw [if_pos (by rfl)]
        try simp only [Act.put, List.setIfInBounds_toArray, List.set_cons_zero, List.set_cons_succ]
        go_simp
        exact hK.out _ _ (fun j => if j = 10 then true else ℓ j) ⟨x47, x48, x49, x50, x51, x52, x53, x54, x55, .pointer (some ⟨ub, uo + k * 2 + 1, none⟩), .bool q, x58, x46, x59, x60, x61, x9, x10, x11, (by simp only [Act.put, List.setIfInBounds_toArray, List.set_cons_zero, List.set_cons_succ]), ⟨hr.gb, hr.f0, hr.f1, hr.f2, hr.f3, hr.f4, hr.f5, hr.f6, hr.f7, hr.f8, hr.f9, (fun _ => rfl), hr.f11, hr.f12, hr.f13, hr.f14, hr.f15, hr.f16, hr.f17, hr.f18, hr.f19⟩⟩ (if_pos rfl) (fun j hj => if_neg hj)
      · obtain rfl := Option.some.inj ho
        have g0 : ℓ 0 = true := hdep { on := 0, ground := Ground.data } (by simp) rfl
        have g5 : ℓ 5 = true := hdep { on := 5, ground := Ground.data } (by simp) rfl
        have g10 : ℓ 10 = true := hdep { on := 10, ground := Ground.data } (by simp) rfl
        clear hdep ho
        obtain rfl := hr.f0 g0
        obtain rfl := hr.f5 g5
        obtain rfl := hr.f10 g10
        have hl12 : ℓ 12 = false := by
          cases h7 : ℓ 12
          · rfl
          · have := (hr.f12 h7).1; rw [this] at hL; cases hL
        have hl13 : ℓ 13 = false := by
          cases h7 : ℓ 13
          · rfl
          · have := (hr.f13 h7).1; rw [this] at hL; cases hL
        have hl17 : ℓ 17 = false := by
          cases h7 : ℓ 17
          · rfl
          · have := (hr.f13 (hr.f17 h7).2).1; rw [this] at hL; cases hL
        rw [if_pos (by rfl)]
        try simp only [Act.put, List.setIfInBounds_toArray, List.set_cons_zero, List.set_cons_succ]
        go_simp
        refine Calls.mono (HUS.out _ hr.gb) ?_
        rintro e w9 ⟨a', cap', rfl, hb9, ho9⟩
        have hr9 := hr.below hb9
        have hsz := hr.gb.size
        exact hK.out _ _ (fun j => if j = 11 then true else ℓ j) ⟨cch (n : Int) (M : Int) (L : Int) (.slice ca n cc), x48, x49, x50, x51, .int .i64 A, x53, x54, x55, x56, .bool q, UT n M L h b a' cap', x46, x59, x60, x61, x9, x10, x11, (by simp only [Act.put, List.setIfInBounds_toArray, List.set_cons_zero, List.set_cons_succ]), ⟨hr9.gb, hr9.f0, hr9.f1, hr9.f2, hr9.f3, hr9.f4, hr9.f5, hr9.f6, hr9.f7, hr9.f8, hr9.f9, hr9.f10, (fun _ => ⟨a', cap', w'.heap.size, w9.heap.size, rfl, hsz, Nat.le_refl _, ho9, fun z P y => by
          obtain ⟨Q, e1, e2, e3, e4⟩ := hr.f16 z
          have := (e3 hl17).lt
          rw [e1] at y
          injection y with y; injection y with y; injection y with y
          omega⟩), (fun z => by rw [hl12] at z; cases z), (fun z => by rw [hl13] at z; cases z), hr9.f14, hr9.f15, (fun z => by
          obtain ⟨Q, e1, e2, e3, e4⟩ := hr9.f16 z
          exact ⟨Q, e1, e2, e3, fun y => by rw [hl17] at y; cases y⟩), hr9.f17, hr9.f18, hr9.f19⟩⟩ (if_pos rfl) (fun j hj => if_neg hj)
      · obtain rfl := Option.some.inj ho
        have g11 : ℓ 11 = true := hdep { on := 11, ground := Ground.data } (by simp) rfl
        clear hdep ho
        revert hK
        obtain ⟨a', cap', lo, hi, rfl, hlo, hhi, hor, hap⟩ := hr.f11 g11
        intro hK
        rw [if_pos (by rfl)]
        try simp only [Act.put, List.setIfInBounds_toArray, List.set_cons_zero, List.set_cons_succ]
        go_simp
        exact hK.out _ _ (fun j => if j = 12 then true else ℓ j) ⟨x47, x48, x49, x50, x51, x52, x53, x54, x55, x56, x57, UT n M L h b a' cap', UT n M L h b a' cap', x59, x60, x61, x9, x10, x11, (by simp only [Act.put, List.setIfInBounds_toArray, List.set_cons_zero, List.set_cons_succ]), ⟨hr.gb, hr.f0, hr.f1, hr.f2, hr.f3, hr.f4, hr.f5, hr.f6, hr.f7, hr.f8, hr.f9, hr.f10, hr.f11, (fun _ => ⟨g11, rfl⟩), hr.f13, hr.f14, hr.f15, hr.f16, hr.f17, hr.f18, hr.f19⟩⟩ (if_pos rfl) (fun j hj => if_neg hj)
      · obtain rfl := Option.some.inj ho
        have g12 : ℓ 12 = true := hdep { on := 12, ground := Ground.data } (by simp) rfl
        clear hdep ho
        revert hK
        obtain ⟨h5, rfl⟩ := hr.f12 g12
        obtain ⟨a', cap', lo, hi, rfl, hlo, hhi, hor, hap⟩ := hr.f11 h5
        intro hK
        rw [if_pos (by rfl)]
        try simp only [Act.put, List.setIfInBounds_toArray, List.set_cons_zero, List.set_cons_succ]
        go_simp
        exact hK.out _ _ (fun j => if j = 13 then true else ℓ j) ⟨x47, x48, x49, x50, x51, x52, x53, x54, x55, x56, x57, UT n M L h b a' cap', UT n M L h b a' cap', cch (n : Int) (M : Int) (L : Int) (.slice a' n cap'), x60, x61, x9, x10, x11, (by simp only [Act.put, List.setIfInBounds_toArray, List.set_cons_zero, List.set_cons_succ]), ⟨hr.gb, hr.f0, hr.f1, hr.f2, hr.f3, hr.f4, hr.f5, hr.f6, hr.f7, hr.f8, hr.f9, hr.f10, hr.f11, hr.f12, (fun _ => ⟨h5, fun a2 c2 y => by obtain ⟨e1, e2⟩ := UT.inj y; rw [e1, e2]⟩), hr.f14, hr.f15, hr.f16, (fun z => ⟨(hr.f17 z).1, rfl⟩), hr.f18, hr.f19⟩⟩ (if_pos rfl) (fun j hj => if_neg hj)
      · obtain rfl := Option.some.inj ho
        have g12 : ℓ 12 = true := hdep { on := 12, ground := Ground.data } (by simp) rfl
        clear hdep ho
        revert hK
        obtain ⟨h5, rfl⟩ := hr.f12 g12
        obtain ⟨a', cap', lo, hi, rfl, hlo, hhi, hor, hap⟩ := hr.f11 h5
        intro hK
        rw [if_pos (by rfl)]
        try simp only [Act.put, List.setIfInBounds_toArray, List.set_cons_zero, List.set_cons_succ]
        go_simp
        exact hK.out _ _ (fun j => if j = 14 then true else ℓ j) ⟨x47, x48, x49, x50, x51, x52, x53, x54, x55, x56, x57, UT n M L h b a' cap', UT n M L h b a' cap', x59, .bool h, x61, x9, x10, x11, (by simp only [Act.put, List.setIfInBounds_toArray, List.set_cons_zero, List.set_cons_succ]), ⟨hr.gb, hr.f0, hr.f1, hr.f2, hr.f3, hr.f4, hr.f5, hr.f6, hr.f7, hr.f8, hr.f9, hr.f10, hr.f11, hr.f12, hr.f13, (fun _ => rfl), hr.f15, hr.f16, hr.f17, hr.f18, hr.f19⟩⟩ (if_pos rfl) (fun j hj => if_neg hj)
      · obtain rfl := Option.some.inj ho
        have g12 : ℓ 12 = true := hdep { on := 12, ground := Ground.data } (by simp) rfl
        clear hdep ho
        revert hK
        obtain ⟨h5, rfl⟩ := hr.f12 g12
        obtain ⟨a', cap', lo, hi, rfl, hlo, hhi, hor, hap⟩ := hr.f11 h5
        intro hK
        rw [if_pos (by rfl)]
        try simp only [Act.put, List.setIfInBounds_toArray, List.set_cons_zero, List.set_cons_succ]
        go_simp
        exact hK.out _ _ (fun j => if j = 15 then true else ℓ j) ⟨x47, x48, x49, x50, x51, x52, x53, x54, x55, x56, x57, UT n M L h b a' cap', UT n M L h b a' cap', x59, x60, .bool b, x9, x10, x11, (by simp only [Act.put, List.setIfInBounds_toArray, List.set_cons_zero, List.set_cons_succ]), ⟨hr.gb, hr.f0, hr.f1, hr.f2, hr.f3, hr.f4, hr.f5, hr.f6, hr.f7, hr.f8, hr.f9, hr.f10, hr.f11, hr.f12, hr.f13, hr.f14, (fun _ => rfl), hr.f16, hr.f17, hr.f18, hr.f19⟩⟩ (if_pos rfl) (fun j hj => if_neg hj)
      · obtain rfl := Option.some.inj ho
        clear hdep ho
        have hl17 : ℓ 17 = false := by
          cases h7 : ℓ 17
          · rfl
          · have := (hr.f17 h7).1; rw [this] at hL; cases hL
        rw [if_pos (by rfl)]
        try simp only [Act.put, List.setIfInBounds_toArray, List.set_cons_zero, List.set_cons_succ]
        go_simp
        have hal : Below w'.heap.size w' (w'.alloc (.cells #[.int .i64 0, .int .i64 0, .int .i64 0, .slice none 0 0] 34)) := (Below.refl _ _).alloc (Nat.le_refl _) _
        have hr9 := hr.below hal
        have hsz := hr.gb.size
        exact hK.out _ _ (fun j => if j = 16 then true else ℓ j) ⟨x47, x48, x49, x50, x51, x52, x53, x54, x55, x56, x57, x58, x46, x59, x60, x61, .pointer (some ⟨w'.heap.size, 0, none⟩), x10, x11, (by simp only [Act.put, List.setIfInBounds_toArray, List.set_cons_zero, List.set_cons_succ]), ⟨hr9.gb, hr9.f0, hr9.f1, hr9.f2, hr9.f3, hr9.f4, hr9.f5, hr9.f6, hr9.f7, hr9.f8, hr9.f9, hr9.f10, (fun z => by
          obtain ⟨a', cap', lo, hi, e1, e2, e3, e4, e5⟩ := hr.f11 z
          exact ⟨a', cap', lo, hi, e1, e2, Nat.le_trans e3 hal.size, e4.below hal, fun _ P y => by injection y with y; injection y with y; injection y with y; omega⟩), hr9.f12, hr9.f13, hr9.f14, hr9.f15, (fun _ => ⟨_, rfl, hsz, fun _ => Bk.new _ _ _ _ rfl, fun z => by rw [hl17] at z; cases z⟩), (fun z => by rw [hl17] at z; cases z), hr9.f18, hr9.f19⟩⟩ (if_pos rfl) (fun j hj => if_neg hj)
      · obtain rfl := Option.some.inj ho
        have g13 : ℓ 13 = true := hdep { on := 13, ground := Ground.data } (by simp) rfl
        have g16 : ℓ 16 = true := hdep { on := 16, ground := Ground.data } (by simp) rfl
        clear hdep ho
        revert hK
        obtain ⟨h5, h77⟩ := hr.f13 g13
        obtain ⟨a', cap', lo, hi, rfl, hlo, hhi, hor, hap⟩ := hr.f11 h5
        obtain rfl := h77 a' cap' rfl
        obtain ⟨Q, rfl, e2, e3, e4⟩ := hr.f16 g16
        intro hK
        have kk := e3 hL
        have q0 := kk.cell 0 _ rfl
        have q1 := kk.cell 1 _ rfl
        have q2 := kk.cell 2 _ rfl
        have q3 := kk.cell 3 _ rfl
        have qf := kk.free
        have hQ := hap g16 Q rfl
        have hkn : Bk ((((w'.setCell ⟨Q, 0, none⟩ (.int .i64 n)).setCell ⟨Q, 1, none⟩ (.int .i64 M)).setCell ⟨Q, 2, none⟩ (.int .i64 L)).setCell ⟨Q, 3, none⟩ (.slice a' n cap')) Q #[.int .i64 n, .int .i64 M, .int .i64 L, .slice a' n cap'] := (((kk.set 0 (.int .i64 n) (by simp) (cs' := #[.int .i64 n, .int .i64 0, .int .i64 0, .slice none 0 0]) rfl).set 1 (.int .i64 M) (by simp) (cs' := #[.int .i64 n, .int .i64 M, .int .i64 0, .slice none 0 0]) rfl).set 2 (.int .i64 L) (by simp) (cs' := #[.int .i64 n, .int .i64 M, .int .i64 L, .slice none 0 0]) rfl).set 3 (.slice a' n cap') (by simp) rfl
        have hbt : Betw Q (Q + 1) w' ((((w'.setCell ⟨Q, 0, none⟩ (.int .i64 n)).setCell ⟨Q, 1, none⟩ (.int .i64 M)).setCell ⟨Q, 2, none⟩ (.int .i64 L)).setCell ⟨Q, 3, none⟩ (.slice a' n cap')) := betw_four (Betw.refl _ _ w') Q (Nat.le_refl _) (by omega) _ _ _ _
        have hho : hi ≤ ((((w'.setCell ⟨Q, 0, none⟩ (.int .i64 n)).setCell ⟨Q, 1, none⟩ (.int .i64 M)).setCell ⟨Q, 2, none⟩ (.int .i64 L)).setCell ⟨Q, 3, none⟩ (.slice a' n cap')).heap.size := Nat.le_trans hhi hbt.size
        rw [if_pos (by rfl)]
        try simp only [Act.put, List.setIfInBounds_toArray, List.set_cons_zero, List.set_cons_succ]
        go_simp
        exact hK.out _ _ (fun j => if j = 17 then true else ℓ j) ⟨x47, x48, x49, x50, x51, x52, x53, x54, x55, x56, x57, UT n M L h b a' cap', x46, cch (n : Int) (M : Int) (L : Int) (.slice a' n cap'), x60, x61, .pointer (some ⟨Q, 0, none⟩), x10, x11, (by simp only [Act.put, List.setIfInBounds_toArray, List.set_cons_zero, List.set_cons_succ]), ⟨(below_four hr.gb Q e2 _ _ _ _), hr.f0, hr.f1, hr.f2, hr.f3, hr.f4, hr.f5, hr.f6, hr.f7, hr.f8, hr.f9, hr.f10, (fun _ => ⟨a', cap', lo, hi, rfl, hlo, hho, hor.betw hbt (by omega), hap⟩), hr.f12, hr.f13, hr.f14, hr.f15, (fun _ => ⟨Q, rfl, e2, (fun z => by cases z), fun _ a2 c2 y => by obtain ⟨y1, y2⟩ := UT.inj y; rw [← y1, ← y2]; exact hkn⟩), (fun _ => ⟨g16, g13⟩), hr.f18, hr.f19⟩⟩ (if_pos rfl) (fun j hj => if_neg hj)
      · obtain rfl := Option.some.inj ho
        have g14 : ℓ 14 = true := hdep { on := 14, ground := Ground.data } (by simp) rfl
        clear hdep ho
        obtain rfl := hr.f14 g14
        rw [if_pos (by rfl)]
        try simp only [Act.put, List.setIfInBounds_toArray, List.set_cons_zero, List.set_cons_succ]
        go_simp
        exact hK.out _ _ (fun j => if j = 18 then true else ℓ j) ⟨x47, x48, x49, x50, x51, x52, x53, x54, x55, x56, x57, x58, x46, x59, .bool h, x61, x9, .bool h, x11, (by simp only [Act.put, List.setIfInBounds_toArray, List.set_cons_zero, List.set_cons_succ]), ⟨hr.gb, hr.f0, hr.f1, hr.f2, hr.f3, hr.f4, hr.f5, hr.f6, hr.f7, hr.f8, hr.f9, hr.f10, hr.f11, hr.f12, hr.f13, hr.f14, hr.f15, hr.f16, hr.f17, (fun _ => rfl), hr.f19⟩⟩ (if_pos rfl) (fun j hj => if_neg hj)
      · obtain rfl := Option.some.inj ho
        have g15 : ℓ 15 = true := hdep { on := 15, ground := Ground.data } (by simp) rfl
        clear hdep ho
        obtain rfl := hr.f15 g15
        rw [if_pos (by rfl)]
        try simp only [Act.put, List.setIfInBounds_toArray, List.set_cons_zero, List.set_cons_succ]
        go_simp
        exact hK.out _ _ (fun j => if j = 19 then true else ℓ j) ⟨x47, x48, x49, x50, x51, x52, x53, x54, x55, x56, x57, x58, x46, x59, x60, .bool b, x9, x10, .bool b, (by simp only [Act.put, List.setIfInBounds_toArray, List.set_cons_zero, List.set_cons_succ]), ⟨hr.gb, hr.f0, hr.f1, hr.f2, hr.f3, hr.f4, hr.f5, hr.f6, hr.f7, hr.f8, hr.f9, hr.f10, hr.f11, hr.f12, hr.f13, hr.f14, hr.f15, hr.f16, hr.f17, hr.f18, (fun _ => rfl)⟩⟩ (if_pos rfl) (fun j hj => if_neg hj)
    · rintro a' w' ℓ ℓ' hℓ hI
      rw [← show ℓ = ℓ' from funext hℓ]
      exact hI
    · intro ℓ a' w' hI hall
      obtain ⟨x47, x48, x49, x50, x51, x52, x53, x54, x55, x56, x57, x58, x46, x59, x60, x61, x9, x10, x11, rfl, hr⟩ := hI
      have hall' : ∀ i, i < 20 → ℓ i = true := hall
      obtain ⟨a', cap', lo, hi, rfl, hlo, hhi, hor, hap⟩ := hr.f11 (hall' 11 (by omega))
      obtain ⟨Q, rfl, hQ, _, hkQ⟩ := hr.f16 (hall' 16 (by omega))
      have KQ : Hid (Bk w' Q #[.int .i64 n, .int .i64 M, .int .i64 L, .slice a' n cap']) := hkQ (hall' 17 (by omega)) a' cap' rfl
      obtain rfl := (hr.f13 (hall' 13 (by omega))).2 a' cap' rfl
      obtain rfl := (hr.f12 (hall' 12 (by omega))).2
      obtain rfl := hr.f0 (hall' 0 (by omega))
      obtain rfl := hr.f1 (hall' 1 (by omega))
      obtain rfl := hr.f2 (hall' 2 (by omega))
      obtain rfl := hr.f3 (hall' 3 (by omega))
      obtain rfl := hr.f4 (hall' 4 (by omega))
      obtain rfl := hr.f5 (hall' 5 (by omega))
      obtain rfl := hr.f6 (hall' 6 (by omega))
      obtain rfl := hr.f7 (hall' 7 (by omega))
      obtain rfl := hr.f8 (hall' 8 (by omega))
      obtain rfl := hr.f9 (hall' 9 (by omega))
      obtain rfl := hr.f10 (hall' 10 (by omega))
      obtain rfl := hr.f14 (hall' 14 (by omega))
      obtain rfl := hr.f15 (hall' 15 (by omega))
      obtain rfl := hr.f18 (hall' 18 (by omega))
      obtain rfl := hr.f19 (hall' 19 (by omega))
      have HGB : Hid (Below wr.heap.size wr w') := hr.gb
      have HON : Hid (ORows w' lo hi a' n D ∧ wr.heap.size ≤ lo ∧ hi ≤ w'.heap.size) := ⟨hor, hlo, hhi⟩
      clear hr hall hall' hkQ hor hhi hlo hap hQ
      simp only [Act.put, List.setIfInBounds_toArray, List.set_cons_zero, List.set_cons_succ]
      have HCK : Hid (∀ X : Gr w', Calls Try.prog 10 #[cch (n : Int) (M : Int) (L : Int) (.slice a' n cap')] X.w fun e w'' => e = .returned (.bool true) ∧ Below X.w.heap.size X.w w'') := fun X => impl_cachek (n : Int) M L a' cap' n D X.w (HON.out.1.seg.below X.h) (by have := HTD.out.2; omega) (by have := HTD.out.1; omega) true ⟨fun _ => HOKD.out, fun _ => rfl⟩
      have HHO : Hid (∀ X : Gr w', Calls Try.prog 11 #[cch (n : Int) (M : Int) (L : Int) (.slice a' n cap'), .int .i64 A] X.w fun e w'' => e = .returned (.bool true) ∧ Below X.w.heap.size X.w w'') := fun X => impl_hold (n : Int) M L A a' cap' n D X.w (HON.out.1.seg.below X.h) (by have := HTD.out.2; omega) (by have := HTD.out.1; omega) true ⟨fun _ => HHOD.out, fun _ => rfl⟩
      have e0 := KQ.out.cell 0 _ rfl
      have e1 := KQ.out.cell 1 _ rfl
      have e2 := KQ.out.cell 2 _ rfl
      have e3 := KQ.out.cell 3 _ rfl
      have e4 := (HCA.out _ HGB.out).1
      have E0 := fun X => gr_cell (W0 := w') e0 X
      have E1 := fun X => gr_cell (W0 := w') e1 X
      have E2 := fun X => gr_cell (W0 := w') e2 X
      have E3 := fun X => gr_cell (W0 := w') e3 X
      have E4 := fun X => gr_cell (W0 := w') e4 X
      clear e0 e1 e2 e3 e4
      have hgr := gr_some w'
      go_wp2
      refine region_alike (by kernel_rfl) (by kernel_rfl) ?_
      repeat (go_big_quiet_step (first | (go_at_call 10; exact gr_call (HCK.out _)) | (go_at_call 11; exact gr_call (HHO.out _))))
      refine wpQuiet_nil ?_
      intro _ hw'
      obtain ⟨X1, rfl⟩ := hw'
      have HX1 : Hid (Below w'.heap.size w' X1.w) := X1.h
      generalize X1.w = X9 at HX1 ⊢
      clear hgr E0 E1 E2 E3 E4 HCK HHO
      have HXB : Hid (Below wr.heap.size wr X9) := HGB.out.trans (HX1.out.mono HGB.out.size)
      have KQ9 : Hid (Bk X9 Q #[.int .i64 n, .int .i64 M, .int .i64 L, .slice a' n cap']) := KQ.out.below HX1.out
      have HNF : Hid (FD w2 ((((X9.setCell ⟨P5, 0, none⟩ (.int .i64 n)).setCell ⟨P5, 1, none⟩ (.int .i64 M)).setCell ⟨P5, 2, none⟩ (.int .i64 L)).setCell ⟨P5, 3, none⟩ (.slice a' n cap')) P5 n M L us (k + 1) a' cap' lo hi) := HFD.out.next HXB.out (by rw [HDV.out]; exact HON.out.1.below HX1.out) HON.out.2.1 (Nat.le_trans HON.out.2.2 HX1.out.size)
      have e0 := KQ9.out.cell 0 _ rfl
      have e1 := KQ9.out.cell 1 _ rfl
      have e2 := KQ9.out.cell 2 _ rfl
      have e3 := KQ9.out.cell 3 _ rfl
      have e4 := (HCA.out _ HXB.out).2
      have b5 := HFD.out.box.below HXB.out
      have e5 := b5.cell 0 _ rfl
      have e6 := b5.cell 1 _ rfl
      have e7 := b5.cell 2 _ rfl
      have e8 := b5.cell 3 _ rfl
      have ef := b5.free
      clear b5 HFD HON KQ KQ9 HGB HX1 HXB HCA HC5 HUS HDV HOKD HHOD HTD HUL
      cases q <;> cases b
      all_goals
        simp only [reduceIte, Bool.false_eq_true, if_false, Nat.add_zero] at HNX
        go_wp2
        clear e0 e1 e2 e3 e4 e5 e6 e7 e8 ef
        go_roundw
        case rel => exact ⟨k + 1, _, _, by omega, (by first | rfl | go_num), (by first | rfl | go_num), by go_num, ⟨HNX.out.1.symm, HNX.out.2.symm⟩, _, _, _, _, HNF.out⟩
        case measure => simp [intOf]; omega
end Go.Proofs.Ytmbpmhmehiiiaaa
