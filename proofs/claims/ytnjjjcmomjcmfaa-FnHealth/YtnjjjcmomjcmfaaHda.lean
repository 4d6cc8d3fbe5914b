
/-
  Any policy as it is drawn, and a drawn run of faults: whatever the bytes, a policy and a list of at most 1001 faults, in memory of its own. Conditions: the cursor stands over bytes; the bytes are at most 1048576.
-/
import Derived.Test.YtnjjjcmomjcmfaaRows
import Derived.Test.YtnjjjcmomjcmfaaHdr
namespace Go.Proofs.Ytnjjjcmomjcmfaa
open Go.ChangeShapes Go.WideShapes Go.ChangeAt Go.RowKit Go.Deep
set_option linter.unusedVariables false

set_option maxHeartbeats 1000000 in
theorem draw_anyp (w : World) (B : Nat) (a : Option Addr) (zs : List Int) (cap : Nat) (hc : Cur w B a zs cap) :
    Calls Try.prog 35 #[.pointer (some ⟨B, 0, none⟩)] w fun e w' => ∃ k m : Int, e = .returned (pol k m) ∧ Cur w' B a zs cap ∧ Turn B w w' := by
  have H0 : Hid (CT w (w.alloc (.cells (prow 0 0) 25)) B a zs cap) := (CT.start hc).alloc _
  have K0 : Hid (Bk (w.alloc (.cells (prow 0 0) 25)) w.heap.size (prow 0 0)) := Bk.new _ _ _ _ rfl
  have hlo := hc.lt
  clear hc
  go_enter Try.func35, Try.ntmps35
  go_wp2_with fail
  refine (draw_policy _ _ _ _ _ H0.out.cur).mono ?_
  rintro e w1 ⟨k, m, rfl, hc1, ht1⟩
  have H1 : Hid (CT w (w1.alloc (.cells (prow k m) 25)) B a zs cap) := (H0.out.step hc1 ht1).alloc _
  have K1 : Hid (Bk (w1.alloc (.cells (prow k m) 25)) w.heap.size (prow 0 0)) := (K0.out.turn ht1 (by omega)).alloc _
  have P1 : Hid (Bk (w1.alloc (.cells (prow k m) 25)) w1.heap.size (prow k m)) := Bk.new _ _ _ _ rfl
  have hz1 : w.heap.size < w1.heap.size := (K0.out.turn ht1 (by omega)).lt
  clear H0 K0 hc1 ht1
  go_wp2_with fail
  refine (draw_below _ _ _ _ _ _ H1.out.cur (by omega) (by omega)).mono ?_
  rintro e w2 ⟨x, rfl, hx0, hx1, hc2, ht2⟩
  have H2 : Hid (CT w w2 B a zs cap) := H1.out.step hc2 ht2
  have K2 : Hid (Bk w2 w.heap.size (prow 0 0)) := K1.out.turn ht2 (by omega)
  have P2 : Hid (Bk w2 w1.heap.size (prow k m)) := P1.out.turn ht2 (by omega)
  have hz2 : w1.heap.size < w2.heap.size := P2.out.lt
  clear H1 K1 P1 hc2 ht2
  cases hx : (x == 0)
  · cases hy : (x == 1)
    · have H : Hid (CT w w2 B a zs cap) := H2
      have K : Hid (Bk w2 w.heap.size (prow 0 0)) := K2
      have P : Hid (Bk w2 w1.heap.size (prow k m)) := P2
      clear H2 K2 P2
      have p0 := K.out.cell 0 _ rfl
      have p1 := K.out.cell 1 _ rfl
      have pf := K.out.free
      have u0 := P.out.cell 0 _ rfl
      have u1 := P.out.cell 1 _ rfl
      have H9 : Hid (CT w ((w2.setCell ⟨w.heap.size, 0, none⟩ (.int .i64 k)).setCell ⟨w.heap.size, 1, none⟩ (.int .i64 m)) B a zs cap) := (H.out.set _ 0 _ (Nat.le_refl _)).set _ 1 _ (Nat.le_refl _)
      have K9 : Hid (Bk ((w2.setCell ⟨w.heap.size, 0, none⟩ (.int .i64 k)).setCell ⟨w.heap.size, 1, none⟩ (.int .i64 m)) w.heap.size (prow k m)) := (K.out.set 0 (.int .i64 k) (by simp) (cs' := prow k 0) rfl).set 1 _ (by simp) rfl
      go_wp2
      clear p0 p1 pf u0 u1 H K P
      revert H9 K9
      generalize ((w2.setCell ⟨w.heap.size, 0, none⟩ (.int .i64 k)).setCell ⟨w.heap.size, 1, none⟩ (.int .i64 m)) = Wf
      intro H9 K9
      have q0 := K9.out.cell 0 _ rfl
      have q1 := K9.out.cell 1 _ rfl
      exact bodyPost_ret (v := pol k m) (by simp [results, Try.results35, go_sem, q0, q1]) rfl ⟨k, m, rfl, H9.out.cur, H9.out.turn⟩
    · have HO : Hid (Own .i64 (w2.alloc (.cells #[.int .i64 (-1), .int .i64 1, .int .i64 101] 3)) w2.heap.size [-1, 1, 101]) := own_lit .i64 w2 3 [-1, 1, 101]
      have hzB : B < w2.heap.size := H2.out.cur.lt
      have H2a : Hid (CT w (w2.alloc (.cells #[.int .i64 (-1), .int .i64 1, .int .i64 101] 3)) B a zs cap) := H2.out.alloc _
      have K2a : Hid (Bk (w2.alloc (.cells #[.int .i64 (-1), .int .i64 1, .int .i64 101] 3)) w.heap.size (prow 0 0)) := K2.out.alloc _
      have P2a : Hid (Bk (w2.alloc (.cells #[.int .i64 (-1), .int .i64 1, .int .i64 101] 3)) w1.heap.size (prow k m)) := P2.out.alloc _
      clear H2 K2 P2
      go_wp2_with fail
      refine (draw_pick _ _ _ _ _ _ [-1, 1, 101] H2a.out.cur HO.out (by omega) (by simp) (by simp)).mono ?_
      rintro e w3 ⟨y, rfl, hy, hc3, ht3⟩
      have H3 : Hid (CT w w3 B a zs cap) := H2a.out.step hc3 ht3
      have K3 : Hid (Bk w3 w.heap.size (prow 0 0)) := K2a.out.turn ht3 (by omega)
      have P3 : Hid (Bk w3 w1.heap.size (prow k m)) := P2a.out.turn ht3 (by omega)
      clear H2a K2a P2a hc3 ht3 hy HO
      have H : Hid (CT w (w3.setCell ⟨w1.heap.size, 1, none⟩ (.int .i64 y)) B a zs cap) := H3.out.set _ 1 _ (by omega)
      have K : Hid (Bk (w3.setCell ⟨w1.heap.size, 1, none⟩ (.int .i64 y)) w.heap.size (prow 0 0)) := K3.out.other _ 1 _ (by omega)
      have P : Hid (Bk (w3.setCell ⟨w1.heap.size, 1, none⟩ (.int .i64 y)) w1.heap.size (prow k y)) := P3.out.set 1 _ (by simp) rfl
      have z0 := P3.out.cell 1 _ rfl
      have zf := P3.out.free
      clear H3 K3 P3
      have p0 := K.out.cell 0 _ rfl
      have p1 := K.out.cell 1 _ rfl
      have pf := K.out.free
      have u0 := P.out.cell 0 _ rfl
      have u1 := P.out.cell 1 _ rfl
      have H9 : Hid (CT w (((w3.setCell ⟨w1.heap.size, 1, none⟩ (.int .i64 y)).setCell ⟨w.heap.size, 0, none⟩ (.int .i64 k)).setCell ⟨w.heap.size, 1, none⟩ (.int .i64 y)) B a zs cap) := (H.out.set _ 0 _ (Nat.le_refl _)).set _ 1 _ (Nat.le_refl _)
      have K9 : Hid (Bk (((w3.setCell ⟨w1.heap.size, 1, none⟩ (.int .i64 y)).setCell ⟨w.heap.size, 0, none⟩ (.int .i64 k)).setCell ⟨w.heap.size, 1, none⟩ (.int .i64 y)) w.heap.size (prow k y)) := (K.out.set 0 (.int .i64 k) (by simp) (cs' := prow k 0) rfl).set 1 _ (by simp) rfl
      go_wp2
      clear p0 p1 pf u0 u1 z0 zf H K P
      revert H9 K9
      generalize (((w3.setCell ⟨w1.heap.size, 1, none⟩ (.int .i64 y)).setCell ⟨w.heap.size, 0, none⟩ (.int .i64 k)).setCell ⟨w.heap.size, 1, none⟩ (.int .i64 y)) = Wf
      intro H9 K9
      have q0 := K9.out.cell 0 _ rfl
      have q1 := K9.out.cell 1 _ rfl
      exact bodyPost_ret (v := pol k y) (by simp [results, Try.results35, go_sem, q0, q1]) rfl ⟨k, y, rfl, H9.out.cur, H9.out.turn⟩
  · have HO : Hid (Own .i64 (w2.alloc (.cells #[.int .i64 (-1), .int .i64 3] 3)) w2.heap.size [-1, 3]) := own_lit .i64 w2 3 [-1, 3]
    have hzB : B < w2.heap.size := H2.out.cur.lt
    have H2a : Hid (CT w (w2.alloc (.cells #[.int .i64 (-1), .int .i64 3] 3)) B a zs cap) := H2.out.alloc _
    have K2a : Hid (Bk (w2.alloc (.cells #[.int .i64 (-1), .int .i64 3] 3)) w.heap.size (prow 0 0)) := K2.out.alloc _
    have P2a : Hid (Bk (w2.alloc (.cells #[.int .i64 (-1), .int .i64 3] 3)) w1.heap.size (prow k m)) := P2.out.alloc _
    clear H2 K2 P2
    go_wp2_with fail
    refine (draw_pick _ _ _ _ _ _ [-1, 3] H2a.out.cur HO.out (by omega) (by simp) (by simp)).mono ?_
    rintro e w3 ⟨y, rfl, hy, hc3, ht3⟩
    have H3 : Hid (CT w w3 B a zs cap) := H2a.out.step hc3 ht3
    have K3 : Hid (Bk w3 w.heap.size (prow 0 0)) := K2a.out.turn ht3 (by omega)
    have P3 : Hid (Bk w3 w1.heap.size (prow k m)) := P2a.out.turn ht3 (by omega)
    clear H2a K2a P2a hc3 ht3 hy HO
    have H : Hid (CT w (w3.setCell ⟨w1.heap.size, 0, none⟩ (.int .i64 y)) B a zs cap) := H3.out.set _ 0 _ (by omega)
    have K : Hid (Bk (w3.setCell ⟨w1.heap.size, 0, none⟩ (.int .i64 y)) w.heap.size (prow 0 0)) := K3.out.other _ 0 _ (by omega)
    have P : Hid (Bk (w3.setCell ⟨w1.heap.size, 0, none⟩ (.int .i64 y)) w1.heap.size (prow y m)) := P3.out.set 0 _ (by simp) rfl
    have z0 := P3.out.cell 0 _ rfl
    have zf := P3.out.free
    clear H3 K3 P3
    have p0 := K.out.cell 0 _ rfl
    have p1 := K.out.cell 1 _ rfl
    have pf := K.out.free
    have u0 := P.out.cell 0 _ rfl
    have u1 := P.out.cell 1 _ rfl
    have H9 : Hid (CT w (((w3.setCell ⟨w1.heap.size, 0, none⟩ (.int .i64 y)).setCell ⟨w.heap.size, 0, none⟩ (.int .i64 y)).setCell ⟨w.heap.size, 1, none⟩ (.int .i64 m)) B a zs cap) := (H.out.set _ 0 _ (Nat.le_refl _)).set _ 1 _ (Nat.le_refl _)
    have K9 : Hid (Bk (((w3.setCell ⟨w1.heap.size, 0, none⟩ (.int .i64 y)).setCell ⟨w.heap.size, 0, none⟩ (.int .i64 y)).setCell ⟨w.heap.size, 1, none⟩ (.int .i64 m)) w.heap.size (prow y m)) := (K.out.set 0 (.int .i64 y) (by simp) (cs' := prow y 0) rfl).set 1 _ (by simp) rfl
    go_wp2
    clear p0 p1 pf u0 u1 z0 zf H K P
    revert H9 K9
    generalize (((w3.setCell ⟨w1.heap.size, 0, none⟩ (.int .i64 y)).setCell ⟨w.heap.size, 0, none⟩ (.int .i64 y)).setCell ⟨w.heap.size, 1, none⟩ (.int .i64 m)) = Wf
    intro H9 K9
    have q0 := K9.out.cell 0 _ rfl
    have q1 := K9.out.cell 1 _ rfl
    exact bodyPost_ret (v := pol y m) (by simp [results, Try.results35, go_sem, q0, q1]) rfl ⟨y, m, rfl, H9.out.cur, H9.out.turn⟩
/-- What is known in the loop of a drawn run. -/
structure DH (w wr : World) (B P base : Nat) (a : Option Addr) (zs : List Int) (cap : Nat) (k m : Int) (v : Value) (ys : List Int) : Prop where
  bel : Below w.heap.size w wr
  cur : Cur wr B a zs cap
  rz : Bk wr w.heap.size (prow 0 0)
  pk : Bk wr P (prow k m)
  own : OwnL wr base v ys
  lB : B < base
  lP : P < base
  lw : w.heap.size < P
  nB : P ≠ B
  wB : w.heap.size < B
  le : base ≤ wr.heap.size
theorem DH.low {w wr X : World} {B P base : Nat} {a : Option Addr} {zs : List Int} {cap : Nat} {k m : Int} {v v' : Value} {ys ys' : List Int} (h : DH w wr B P base a zs cap k m v ys) (ha : ∀ b off, a = some ⟨b, off, none⟩ → 0 < zs.length → b < w.heap.size) (hb : Below base wr X) (ho : OwnL X base v' ys') : DH w X B P base a zs cap k m v' ys' := by
  have h1 := h.lB
  have h2 := h.lP
  have h3 := h.lw
  exact ⟨h.bel.trans (hb.mono (by omega)), h.cur.belowC hb h1 (fun b off e h0 => by have := ha b off e h0; omega), h.rz.low hb (by omega), h.pk.low hb h2, ho, h1, h2, h3, h.nB, h.wB, Nat.le_trans h.le hb.size⟩
theorem own_turn {w X : World} {B base : Nat} {v : Value} {ys : List Int} (h : OwnL w base v ys) (ht : Turn B w X) (hB : B < base) : OwnL X base v ys :=
  OwnL.kept (row := some B) h ⟨ht.os, ht.tape, ht.output, ht.size, fun k hk hn => ht.block k hk (fun e => hn (by rw [e]))⟩ (fun g e c => by have := own_low h g e; injection c with c; omega)
theorem DH.turn {w wr X : World} {B P base : Nat} {a : Option Addr} {zs : List Int} {cap : Nat} {k m : Int} {v : Value} {ys : List Int} (h : DH w wr B P base a zs cap k m v ys) (hc : Cur X B a zs cap) (ht : Turn B wr X) : DH w X B P base a zs cap k m v ys := by
  have h1 := h.lB
  have h3 := h.wB
  exact ⟨h.bel.trans (ht.below (by omega) h.bel.size), hc, h.rz.turn ht (by omega), h.pk.turn ht h.nB, own_turn h.own ht h1, h1, h.lP, h.lw, h.nB, h.wB, Nat.le_trans h.le ht.size⟩
set_option maxRecDepth 20000 in
set_option maxHeartbeats 4000000 in
theorem draw_run (w : World) (a : Option Addr) (zs : List Int) (cap n0 : Nat) (hs : Seg .u8 w a zs) (hb8 : ∀ z ∈ zs, (Lit.int .u8 z).wf = true) (hn : n0 ≤ 1048576) (hl : zs.length = n0) :
    Calls Try.prog 27 #[.slice a n0 cap] w fun e w' => ∃ (k m : Int) (a' : Option Addr) (ys : List Int) (n' c' : Nat), e = .returned (.tuple #[pol k m, .slice a' n' c']) ∧ Below w.heap.size w w' ∧ OI w' w.heap.size w'.heap.size a' ys ∧ ys.length = n' ∧ n' ≤ 1001 := by
  have HN : Hid (Calls Try.prog 34 #[.slice a n0 cap] (w.alloc (.cells (prow 0 0) 25)) fun e w' => e = .returned (.pointer (some ⟨w.heap.size + 1, 0, none⟩)) ∧ Cur w' (w.heap.size + 1) a zs cap ∧ Below (w.heap.size + 1) (w.alloc (.cells (prow 0 0) 25)) w') := by
    have := draw_new (w.alloc (.cells (prow 0 0) 25)) a zs cap (hs.below ((Below.refl _ _).alloc (Nat.le_refl _) _)) hb8 (by omega)
    rw [hl] at this
    simp only [World.size_alloc] at this
    exact this
  have HA : Hid (∀ b off, a = some ⟨b, off, none⟩ → 0 < zs.length → b < w.heap.size) := seg_lt hs
  have HB0 : Hid (Below w.heap.size w (w.alloc (.cells (prow 0 0) 25))) := (Below.refl _ _).alloc (Nat.le_refl _) _
  have K0 : Hid (Bk (w.alloc (.cells (prow 0 0) 25)) w.heap.size (prow 0 0)) := Bk.new _ _ _ _ rfl
  clear hs hb8 hl
  go_enter Try.func27, Try.ntmps27
  go_wp2_with fail
  refine Calls.mono HN.out ?_
  rintro e w1 ⟨rfl, hc1, hb1⟩
  have HB1 : Hid (Below w.heap.size w w1) := HB0.out.trans (hb1.mono (by omega))
  have K1 : Hid (Bk w1 w.heap.size (prow 0 0)) := K0.out.low hb1 (by omega)
  have C1 : Hid (Cur w1 (w.heap.size + 1) a zs cap) := hc1
  have hz1 : w.heap.size + 1 < w1.heap.size := hc1.lt
  clear HN hc1 hb1 HB0 K0
  go_wp2_with fail
  refine (draw_anyp _ _ _ _ _ C1.out).mono ?_
  rintro e w2 ⟨k, m, rfl, hc2, ht2⟩
  have hal : Below w2.heap.size w2 ((w2.alloc (.cells (prow k m) 25)).alloc (.cells #[] 3)) := ((Below.refl _ _).alloc (Nat.le_refl _) _).alloc (by simp) _
  have hz2 := ht2.size
  have HB2 : Below w.heap.size w w2 := HB1.out.trans (ht2.below (by omega) HB1.out.size)
  have D0 : Hid (DH w ((w2.alloc (.cells (prow k m) 25)).alloc (.cells #[] 3)) (w.heap.size + 1) w2.heap.size (w2.heap.size + 1) a zs cap k m (.slice (some ⟨w2.heap.size + 1, 0, none⟩) 0 0) []) :=
    ⟨HB2.trans (hal.mono HB2.size), hc2.below hal, (K1.out.turn ht2 (by omega)).below hal, (Bk.new _ _ _ _ rfl).alloc _, OwnL.new _ _ (by simp), by omega, by omega, by omega, by omega, by omega, by simp⟩
  clear HB1 K1 C1 hc2 ht2 hal HB2
  go_wp2_with fail
  refine Calls.mono (size_30 a n0 cap _ hn) ?_
  rintro e w3 ⟨x3, rfl, hx1, hx2, h3⟩
  rw [h3]
  clear h3 w3
  go_wp2_with fail
  refine (draw_below _ _ _ _ _ _ D0.out.cur (by omega) (by omega)).mono ?_
  rintro e w4 ⟨x4, rfl, h40, h41, hc4, ht4⟩
  have D4 : Hid (DH w w4 (w.heap.size + 1) w2.heap.size (w2.heap.size + 1) a zs cap k m (.slice (some ⟨w2.heap.size + 1, 0, none⟩) 0 0) []) := D0.out.turn hc4 ht4
  clear D0 hc4 ht4
  go_wp2_with fail
  refine (draw_once _ _ _ _ _ _ D4.out.cur (by omega) (by omega)).mono ?_
  rintro e w5 ⟨x5, rfl, hc5, ht5⟩
  have D5 : Hid (DH w w5 (w.heap.size + 1) w2.heap.size (w2.heap.size + 1) a zs cap k m (.slice (some ⟨w2.heap.size + 1, 0, none⟩) 0 0) []) := D4.out.turn hc5 ht5
  clear D4 hc5 ht5
  have HD6 : Hid (∀ (w6 : World), DH w w6 (w.heap.size + 1) w2.heap.size (w2.heap.size + 1) a zs cap k m (.slice (some ⟨w2.heap.size + 1, 0, none⟩) 0 0) [] → True) := fun _ _ => trivial
  clear HD6
  obtain ⟨i3, hi1, hi2, hi3, hi4⟩ := info3'
  have HIN : Hid (Try.prog.info? 3 = some i3 ∧ i3.zero = some (.int .i64 0) ∧ i3.size = 1 ∧ i3.bytes = 8) := ⟨hi1, hi2, hi3, hi4⟩
  clear hi1 hi2 hi3 hi4
  obtain ⟨P, HP⟩ : ∃ P, Hid (w2.heap.size = P) := ⟨_, rfl⟩
  rw [HP.out] at D5 ⊢
  cases x5
  · obtain ⟨N, HN4⟩ : ∃ N : Nat, x4 = (N : Int) := ⟨x4.toNat, by omega⟩
    subst HN4
    have hN : N ≤ 1001 := by omega
    clear h40 h41 hx1 hx2
    generalize w5 = w6 at D5 ⊢
    go_wp2
    go_loopw [6, 8] (fun v i wr => ∃ j : Nat, j ≤ N ∧ i = .int .i64 j ∧ Hid (∃ ys : List Int, ys.length = j ∧ DH w wr (w.heap.size + 1) P (P + 1) a zs cap k m v ys)) (fun _ i _ => N - (intOf i).toNat)
    case atStart => exact ⟨0, by omega, rfl, [], rfl, D5.out⟩
    case round =>
      obtain ⟨j, hj, rfl, HR⟩ := hrel
      clear D5
      obtain ⟨ys, hyl, hdh⟩ := HR.out
      have HYL : Hid (ys.length = j) := hyl
      have HD : Hid (DH w wr (w.heap.size + 1) P (P + 1) a zs cap k m u6 ys) := hdh
      clear hyl hdh HR
      by_cases hjn : j < N
      rotate_left
      · obtain rfl : j = N := by omega
        have p0 := HD.out.pk.cell 0 _ rfl
        have p1 := HD.out.pk.cell 1 _ rfl
        have r0 := HD.out.rz.cell 0 _ rfl
        have r1 := HD.out.rz.cell 1 _ rfl
        have rf := HD.out.rz.free
        have hlw := HD.out.lw
        go_wp2
        have k2 : Bk ((wr.setCell ⟨w.heap.size, 0, none⟩ (.int .i64 k)).setCell ⟨w.heap.size, 1, none⟩ (.int .i64 m)) w.heap.size (prow k m) := (HD.out.rz.set 0 (.int .i64 k) (by simp) (cs' := prow k 0) rfl).set 1 _ (by simp) rfl
        have x2 : Below w.heap.size w ((wr.setCell ⟨w.heap.size, 0, none⟩ (.int .i64 k)).setCell ⟨w.heap.size, 1, none⟩ (.int .i64 m)) := Below.setCell (Below.setCell HD.out.bel (p := ⟨w.heap.size, 0, none⟩) (Nat.le_refl _) _) (p := ⟨w.heap.size, 1, none⟩) (Nat.le_refl _) _
        have o2 := ownsRow_betw HD.out.own (((Betw.refl w.heap.size (w.heap.size + 1) wr).setCell (p := ⟨w.heap.size, 0, none⟩) (Nat.le_refl _) (Nat.lt_succ_self _) (.int .i64 k)).setCell (p := ⟨w.heap.size, 1, none⟩) (Nat.le_refl _) (Nat.lt_succ_self _) (.int .i64 m)) (by omega)
        clear p0 p1 r0 r1 rf
        revert k2 x2 o2
        generalize ((wr.setCell ⟨w.heap.size, 0, none⟩ (.int .i64 k)).setCell ⟨w.heap.size, 1, none⟩ (.int .i64 m)) = Wf
        intro k2 x2 o2
        have q0 := k2.cell 0 _ rfl
        have q1 := k2.cell 1 _ rfl
        obtain ⟨a9, c9, e9, o9⟩ := OwnL.oi o2
        refine bodyPost_ret (v := .tuple #[pol k m, u6]) (by simp [results, Try.results27, go_sem, q0, q1]) rfl ?_
        exact ⟨k, m, a9, ys, j, c9, by rw [e9, HYL.out], x2, o9.wide (by omega) (Nat.le_refl _), HYL.out, hN⟩
      have hjn' : (j : Int) < (N : Int) := by omega
      go_wp2_with fail
      refine (draw_below _ _ _ _ _ _ HD.out.cur (by omega) (by omega)).mono ?_
      rintro e w7 ⟨x7, rfl, h70, h71, hc7, ht7⟩
      have HD7 : Hid (DH w w7 (w.heap.size + 1) P (P + 1) a zs cap k m u6 ys) := HD.out.turn hc7 ht7
      clear HD hc7 ht7 h70 h71
      have hown7 : (w7.alloc (.cells #[.int .i64 x7] 3)).ownsRow (P + 1) 3 1 u6 ys.length (ys.map (Value.int .i64)) := World.ownsRow.alloc HD7.out.own _
      have hal : Below w7.heap.size w7 (w7.alloc (.cells #[.int .i64 x7] 3)) := (Below.refl _ _).alloc (Nat.le_refl _) _
      have HBS : Hid (P + 1 ≤ (w7.alloc (.cells #[.int .i64 x7] 3)).heap.size) := Nat.le_trans HD7.out.le hal.size
      have HZ : Hid (∀ (gg cap1 : Nat) (w9 : World), w9.ownsRow (P + 1) 3 1 (.slice (some ⟨gg, 0, none⟩) (ys.length + 1) cap1) (ys.length + 1) (ys.map (Value.int .i64) ++ [.int .i64 x7]) → (w7.alloc (.cells #[.int .i64 x7] 3)).grownBy w9 u6.ownBlock → ∃ ys' : List Int, ys'.length = j + 1 ∧ DH w w9 (w.heap.size + 1) P (P + 1) a zs cap k m (.slice (some ⟨gg, 0, none⟩) (ys.length + 1) cap1) ys') := fun gg cap1 w9 h1 h2 => by
        refine ⟨ys ++ [x7], by simp [HYL.out], ?_⟩
        have hlow := own_low HD7.out.own
        have hle := HD7.out.le
        have hb9 : Below (P + 1) w7 w9 := Below.grown (hal.mono hle) h2 HBS.out hlow
        exact HD7.out.low HA.out hb9 (OwnL.snoc h1)
      have hsl : ys.length ≤ 1001 := by have := HYL.out; omega
      clear hal HD7
      go_wp2_with (at_builtin; (refine wpList_append_lies _ rfl (.tmp 28) (.tmp 31) 39 rfl (P + 1) 3 i3 (.int .i64 0) 1 8 Try.underlying39 HIN.out.1 HIN.out.2.1 HIN.out.2.2.1 HIN.out.2.2.2 rfl (by omega) _ _ _ rfl hown7 _ 1 1 [.int .i64 x7] rfl rfl (news_int _ _ _ (by simp)) (one_int _) (by omega) (by unfold maxLen; omega) (by omega) HBS.out _ rfl ?_; intro gg cap1 w9 hown1 hgrow hat hlt1; have HYY : Hid _ := HZ.out gg cap1 w9 hown1 hgrow; clear hown1 hgrow hat hlt1))
      go_roundw
      case rel => exact ⟨j + 1, by omega, by go_num, HYY⟩
      case measure => simp [intOf]; omega
  · go_wp2_with fail
    refine (draw_below _ _ _ _ _ _ D5.out.cur (by omega) (by omega)).mono ?_
    rintro e w6 ⟨x6, rfl, h60, h61, hc6, ht6⟩
    replace D5 : Hid (DH w w6 (w.heap.size + 1) P (P + 1) a zs cap k m (.slice (some ⟨P + 1, 0, none⟩) 0 0) []) := D5.out.turn hc6 ht6
    clear hc6 ht6
    obtain ⟨N, HN6⟩ : ∃ N : Nat, 1000 + x6 = (N : Int) := ⟨(1000 + x6).toNat, by omega⟩
    have hN : N ≤ 1001 := by omega
    have hwr : IntKind.i64.wrap (1000 + x6) = (N : Int) := by rw [IntKind.wrap_i64]; omega
    clear h40 h41 hx1 hx2 h60 h61
    go_wp2
    try rw [HN6]
    clear hwr HN6
    go_loopw [6, 8] (fun v i wr => ∃ j : Nat, j ≤ N ∧ i = .int .i64 j ∧ Hid (∃ ys : List Int, ys.length = j ∧ DH w wr (w.heap.size + 1) P (P + 1) a zs cap k m v ys)) (fun _ i _ => N - (intOf i).toNat)
    case atStart => exact ⟨0, by omega, rfl, [], rfl, D5.out⟩
    case round =>
      obtain ⟨j, hj, rfl, HR⟩ := hrel
      clear D5
      obtain ⟨ys, hyl, hdh⟩ := HR.out
      have HYL : Hid (ys.length = j) := hyl
      have HD : Hid (DH w wr (w.heap.size + 1) P (P + 1) a zs cap k m u6 ys) := hdh
      clear hyl hdh HR
      by_cases hjn : j < N
      rotate_left
      · obtain rfl : j = N := by omega
        have p0 := HD.out.pk.cell 0 _ rfl
        have p1 := HD.out.pk.cell 1 _ rfl
        have r0 := HD.out.rz.cell 0 _ rfl
        have r1 := HD.out.rz.cell 1 _ rfl
        have rf := HD.out.rz.free
        have hlw := HD.out.lw
        go_wp2
        have k2 : Bk ((wr.setCell ⟨w.heap.size, 0, none⟩ (.int .i64 k)).setCell ⟨w.heap.size, 1, none⟩ (.int .i64 m)) w.heap.size (prow k m) := (HD.out.rz.set 0 (.int .i64 k) (by simp) (cs' := prow k 0) rfl).set 1 _ (by simp) rfl
        have x2 : Below w.heap.size w ((wr.setCell ⟨w.heap.size, 0, none⟩ (.int .i64 k)).setCell ⟨w.heap.size, 1, none⟩ (.int .i64 m)) := Below.setCell (Below.setCell HD.out.bel (p := ⟨w.heap.size, 0, none⟩) (Nat.le_refl _) _) (p := ⟨w.heap.size, 1, none⟩) (Nat.le_refl _) _
        have o2 := ownsRow_betw HD.out.own (((Betw.refl w.heap.size (w.heap.size + 1) wr).setCell (p := ⟨w.heap.size, 0, none⟩) (Nat.le_refl _) (Nat.lt_succ_self _) (.int .i64 k)).setCell (p := ⟨w.heap.size, 1, none⟩) (Nat.le_refl _) (Nat.lt_succ_self _) (.int .i64 m)) (by omega)
        clear p0 p1 r0 r1 rf
        revert k2 x2 o2
        generalize ((wr.setCell ⟨w.heap.size, 0, none⟩ (.int .i64 k)).setCell ⟨w.heap.size, 1, none⟩ (.int .i64 m)) = Wf
        intro k2 x2 o2
        have q0 := k2.cell 0 _ rfl
        have q1 := k2.cell 1 _ rfl
        obtain ⟨a9, c9, e9, o9⟩ := OwnL.oi o2
        refine bodyPost_ret (v := .tuple #[pol k m, u6]) (by simp [results, Try.results27, go_sem, q0, q1]) rfl ?_
        exact ⟨k, m, a9, ys, j, c9, by rw [e9, HYL.out], x2, o9.wide (by omega) (Nat.le_refl _), HYL.out, hN⟩
      have hjn' : (j : Int) < (N : Int) := by omega
      go_wp2_with fail
      refine (draw_below _ _ _ _ _ _ HD.out.cur (by omega) (by omega)).mono ?_
      rintro e w7 ⟨x7, rfl, h70, h71, hc7, ht7⟩
      have HD7 : Hid (DH w w7 (w.heap.size + 1) P (P + 1) a zs cap k m u6 ys) := HD.out.turn hc7 ht7
      clear HD hc7 ht7 h70 h71
      have hown7 : (w7.alloc (.cells #[.int .i64 x7] 3)).ownsRow (P + 1) 3 1 u6 ys.length (ys.map (Value.int .i64)) := World.ownsRow.alloc HD7.out.own _
      have hal : Below w7.heap.size w7 (w7.alloc (.cells #[.int .i64 x7] 3)) := (Below.refl _ _).alloc (Nat.le_refl _) _
      have HBS : Hid (P + 1 ≤ (w7.alloc (.cells #[.int .i64 x7] 3)).heap.size) := Nat.le_trans HD7.out.le hal.size
      have HZ : Hid (∀ (gg cap1 : Nat) (w9 : World), w9.ownsRow (P + 1) 3 1 (.slice (some ⟨gg, 0, none⟩) (ys.length + 1) cap1) (ys.length + 1) (ys.map (Value.int .i64) ++ [.int .i64 x7]) → (w7.alloc (.cells #[.int .i64 x7] 3)).grownBy w9 u6.ownBlock → ∃ ys' : List Int, ys'.length = j + 1 ∧ DH w w9 (w.heap.size + 1) P (P + 1) a zs cap k m (.slice (some ⟨gg, 0, none⟩) (ys.length + 1) cap1) ys') := fun gg cap1 w9 h1 h2 => by
        refine ⟨ys ++ [x7], by simp [HYL.out], ?_⟩
        have hlow := own_low HD7.out.own
        have hle := HD7.out.le
        have hb9 : Below (P + 1) w7 w9 := Below.grown (hal.mono hle) h2 HBS.out hlow
        exact HD7.out.low HA.out hb9 (OwnL.snoc h1)
      have hsl : ys.length ≤ 1001 := by have := HYL.out; omega
      clear hal HD7
      go_wp2_with (at_builtin; (refine wpList_append_lies _ rfl (.tmp 28) (.tmp 31) 39 rfl (P + 1) 3 i3 (.int .i64 0) 1 8 Try.underlying39 HIN.out.1 HIN.out.2.1 HIN.out.2.2.1 HIN.out.2.2.2 rfl (by omega) _ _ _ rfl hown7 _ 1 1 [.int .i64 x7] rfl rfl (news_int _ _ _ (by simp)) (one_int _) (by omega) (by unfold maxLen; omega) (by omega) HBS.out _ rfl ?_; intro gg cap1 w9 hown1 hgrow hat hlt1; have HYY : Hid _ := HZ.out gg cap1 w9 hown1 hgrow; clear hown1 hgrow hat hlt1))
      go_roundw
      case rel => exact ⟨j + 1, by omega, by go_num, HYY⟩
      case measure => simp [intOf]; omega
end Go.Proofs.Ytnjjjcmomjcmfaa
