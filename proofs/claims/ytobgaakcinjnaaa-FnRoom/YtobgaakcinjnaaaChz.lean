
/-
  The program's Border: what the plain functions say, in memory of its own. Conditions: the words read as words, at most 1048576 of either.
-/
import Derived.Test.YtobgaakcinjnaaaProg
import Derived.Test.YtobgaakcinjnaaaChy
import Derived.Deep.Cut
namespace Go.Proofs.Ytobgaakcinjnaaa
open Go.ChangeShapes Go.WideShapes Go.ChangeAt Go.RowKit Go.Deep
set_option linter.unusedVariables false
theorem drew_size (w : World) : w.drew.heap.size = w.heap.size := rfl
theorem bel_al {w0 w : World} (h : Below w0.heap.size w0 w) (o : Obj) : Below w0.heap.size w0 (w.alloc o) := h.alloc h.size o
theorem bel_dr {w0 w : World} (h : Below w0.heap.size w0 w) : Below w0.heap.size w0 w.drew := h.drew
theorem Bk.dr {w : World} {b : Nat} {cs : Array Value} (h : Bk w b cs) : Bk w.drew b cs := h.below ((Below.refl _ _).drew)
set_option maxHeartbeats 1000000 in
theorem sside_x (k f t d h : Int) (a : Option Addr) (n c : Nat) (w : World) : Calls Try.prog 20 #[crw k f t d, oen h a n c] w fun e w' => e = .returned (ssd k f t d h a n c) ∧ w' = (((w.alloc (.cells (crow k f t d) 25)).alloc (.cells (orow h a n c) 28)).alloc (.cells (ssr k f t d h a n c) 52)) := by
  go_enter Try.func20, Try.ntmps20
  go_wp2
  exact bodyPost_ret (v := ssd k f t d h a n c) (by simp [results, Try.results20, go_sem]) rfl ⟨rfl, rfl⟩
set_option maxHeartbeats 1000000 in
theorem rside_x (k f t d : Int) (a : Option Addr) (n c : Nat) (w : World) : Calls Try.prog 28 #[crw k f t d, ien a n c] w fun e w' => e = .returned (rsd k f t d a n c) ∧ w' = (((w.alloc (.cells (crow k f t d) 25)).alloc (.cells (irow a n c) 30)).alloc (.cells (rsr k f t d a n c) 62)) := by
  go_enter Try.func28, Try.ntmps28
  go_wp2
  exact bodyPost_ret (v := rsd k f t d a n c) (by simp [results, Try.results28, go_sem]) rfl ⟨rfl, rfl⟩
set_option maxRecDepth 20000 in
set_option maxHeartbeats 4000000 in
theorem impl_border (k f t d h : Int) (a : Option Addr) (n c : Nat) (ar : Option Addr) (m cr : Nat) (zs rs : List Int) (h' : Int) (ys xs : List Int) (w : World) (hs : Seg .u32 w a zs) (hl : zs.length = n) (hn : n ≤ 1048576) (hsr : Seg .u32 w ar rs) (hlr : rs.length = m) (hm : m ≤ 1048576) (HR : Hid (borF k f t d h (n : Int) (m : Int) zs rs = (h', ys, xs))) :
    Calls Try.prog 14 #[crw k f t d, oen h a n c, ien ar m cr] w fun e w' => ∃ a1 c1 a2 c2, e = .returned (.tuple #[oen h' none 0 0, ien a1 ys.length c1, .slice a2 xs.length c2]) ∧ Below w.heap.size w w' ∧ OE2 w' w.heap.size a1 ys a2 xs := by
  obtain ⟨q, HQ⟩ : ∃ q, Hid (borOk k f t d h (n : Int) (m : Int) = q) := ⟨_, rfl⟩
  have HS : Hid (Seg .u32 w a zs) := hs
  have HSr : Hid (Seg .u32 w ar rs) := hsr
  have HL : Hid (zs.length = n) := hl
  have HLR : Hid (rs.length = m) := hlr
  clear hs hsr hl hlr
  obtain ⟨bs, HBS⟩ : ∃ b, Hid (behF k zs rs = b) := ⟨_, rfl⟩
  obtain ⟨bl, HBL⟩ : ∃ b, Hid (bs.length = b) := ⟨_, rfl⟩
  have HE0 : Hid (q = false → h' = 0 ∧ ys = [] ∧ xs = []) := fun e => by
    have g := HR.out
    unfold borF at g
    rw [HQ.out, e, if_neg (by decide)] at g
    injection g with g1 g2; injection g2 with g2 g3
    exact ⟨g1.symm, g2.symm, g3.symm⟩
  have HE1 : Hid (q = true → (if k = 1 then ((bl : Nat) : Int) else 0) = h' ∧ ys = bs ∧ xs = zs) := fun e => by
    have g := HR.out
    have g0 := HQ.out.trans e
    unfold borF at g
    rw [if_pos g0] at g
    have gk : outOk k f t d h (n : Int) = true := by
      unfold borOk at g0
      simp only [Bool.and_eq_true] at g0
      exact g0.1.1
    have gb := HBS.out
    have gl := HBL.out
    unfold behF at gb
    have gn := HL.out
    have gm := HLR.out
    rcases outOk_k gk with ⟨rfl, _⟩ | ⟨rfl, _⟩
    · rw [if_pos rfl] at g
      rw [if_neg (by decide)] at gb ⊢
      by_cases hn0 : (n : Int) = 0
      · rw [if_pos hn0] at g
        rw [if_neg (by omega)] at gb
        injection g with g1 g2; injection g2 with g2 g3
        have : zs = [] := List.eq_nil_of_length_eq_zero (by omega)
        exact ⟨g1, by rw [← g2, gb], by rw [← g3, this]⟩
      · rw [if_neg hn0] at g
        rw [if_pos (by omega)] at gb
        injection g with g1 g2; injection g2 with g2 g3
        exact ⟨g1, by rw [← g2, gb], g3.symm⟩
    · rw [if_neg (by decide)] at g
      rw [if_pos rfl] at gb ⊢
      injection g with g1 g2; injection g2 with g2 g3
      refine ⟨?_, by rw [← g2, gb], g3.symm⟩
      rw [← g1, ← gl, ← gb, List.length_append, gn, gm]
      omega
  clear HR
  obtain ⟨WW, HWW⟩ : ∃ W, Hid (W = (((((w.alloc (.cells (crow k f t d) 25)).alloc (.cells (orow h a n c) 28)).alloc (.cells (irow ar m cr) 30)).alloc (.cells (orow 0 none 0 0) 28)).alloc (.cells (irow none 0 0) 30))) := ⟨_, rfl⟩
  have HB : Hid (Below w.heap.size w WW) := by rw [HWW.out]; exact (((((Below.refl _ w).alloc (Nat.le_refl _) _).alloc (by simp) _).alloc (by simp; omega) _).alloc (by simp; omega) _).alloc (by simp; omega) _
  have HK : Hid (Bk WW w.heap.size (crow k f t d) ∧ Bk WW (w.heap.size + 1) (orow h a n c) ∧ Bk WW (w.heap.size + 1 + 1) (irow ar m cr) ∧ Bk WW (w.heap.size + 1 + 1 + 1) (orow 0 none 0 0) ∧ Bk WW (w.heap.size + 1 + 1 + 1 + 1) (irow none 0 0)) := by rw [HWW.out]; exact ⟨((((Bk.new w _ _ _ rfl).alloc _).alloc _).alloc _).alloc _, (((Bk.new _ _ _ _ (by simp)).alloc _).alloc _).alloc _, ((Bk.new _ _ _ _ (by simp)).alloc _).alloc _, (Bk.new _ _ _ _ (by simp)).alloc _, Bk.new _ _ _ _ (by simp)⟩
  have SF : Hid (∀ X, Calls Try.prog 20 #[crw k f t d, oen h a n c] X fun e w' => e = .returned (ssd k f t d h a n c) ∧ w' = (((X.alloc (.cells (crow k f t d) 25)).alloc (.cells (orow h a n c) 28)).alloc (.cells (ssr k f t d h a n c) 52))) := fun X => sside_x k f t d h a n c X
  have RF : Hid (∀ X, Calls Try.prog 28 #[crw k f t d, ien ar m cr] X fun e w' => e = .returned (rsd k f t d ar m cr) ∧ w' = (((X.alloc (.cells (crow k f t d) 25)).alloc (.cells (irow ar m cr) 30)).alloc (.cells (rsr k f t d ar m cr) 62))) := fun X => rside_x k f t d ar m cr X
  go_enter Try.func14, Try.ntmps14
  go_wp2_with fail
  rw [← HWW.out]
  go_cut [9, 10] from 12 (fun s1 s2 wc => ∃ b1 b2, s1 = Value.pointer (some ⟨b1, 0, none⟩) ∧ s2 = Value.pointer (some ⟨b2, 0, none⟩) ∧ Below WW.heap.size WW wc ∧ Bk wc b1 (ssr k f t d h a n c) ∧ Bk wc b2 (rsr k f t d ar m cr) ∧ WW.heap.size ≤ b1)
  case first =>
    have hb : Below WW.heap.size WW WW := Below.refl _ _
    have C0 : Hid (WW.cell? ⟨w.heap.size, 0, none⟩ = some (.int .i64 k)) := HK.out.1.cell 0 _ rfl
    have C1 : Hid (WW.cell? ⟨w.heap.size, 1, none⟩ = some (.int .i64 f)) := HK.out.1.cell 1 _ rfl
    have C2 : Hid (WW.cell? ⟨w.heap.size, 2, none⟩ = some (.int .i64 t)) := HK.out.1.cell 2 _ rfl
    have C3 : Hid (WW.cell? ⟨w.heap.size, 3, none⟩ = some (.int .i64 d)) := HK.out.1.cell 3 _ rfl
    have D0 : Hid (WW.cell? ⟨w.heap.size + 1, 0, none⟩ = some (.int .i64 h)) := HK.out.2.1.cell 0 _ rfl
    have D1 : Hid (WW.cell? ⟨w.heap.size + 1, 1, none⟩ = some (.slice a n c)) := HK.out.2.1.cell 1 _ rfl
    have I0 : Hid (WW.cell? ⟨w.heap.size + 1 + 1, 0, none⟩ = some (.slice ar m cr)) := HK.out.2.2.1.cell 0 _ rfl
    have c0 := C0.out
    have c1 := C1.out
    have c2 := C2.out
    have c3 := C3.out
    have d0 := D0.out
    have d1 := D1.out
    have i0 := I0.out
    go_region_held_law (fun w' => w'.cell? ⟨w.heap.size, 0, none⟩ = some (.int .i64 k) ∧ w'.cell? ⟨w.heap.size, 1, none⟩ = some (.int .i64 f) ∧ w'.cell? ⟨w.heap.size, 2, none⟩ = some (.int .i64 t) ∧ w'.cell? ⟨w.heap.size, 3, none⟩ = some (.int .i64 d) ∧ w'.cell? ⟨w.heap.size + 1, 0, none⟩ = some (.int .i64 h) ∧ w'.cell? ⟨w.heap.size + 1, 1, none⟩ = some (.slice a n c) ∧ w'.cell? ⟨w.heap.size + 1 + 1, 0, none⟩ = some (.slice ar m cr)) (first | with_reducible exact ⟨c0, c1, c2, c3, d0, d1, i0⟩ | exact ⟨(by repeat (first | with_reducible exact c0 | refine al_c _ ?_ | refine dr_c ?_)), (by repeat (first | with_reducible exact c1 | refine al_c _ ?_ | refine dr_c ?_)), (by repeat (first | with_reducible exact c2 | refine al_c _ ?_ | refine dr_c ?_)), (by repeat (first | with_reducible exact c3 | refine al_c _ ?_ | refine dr_c ?_)), (by repeat (first | with_reducible exact d0 | refine al_c _ ?_ | refine dr_c ?_)), (by repeat (first | with_reducible exact d1 | refine al_c _ ?_ | refine dr_c ?_)), (by repeat (first | with_reducible exact i0 | refine al_c _ ?_ | refine dr_c ?_))⟩)
      (first | (go_at_call 20; refine Calls.mono (SF.out _) ?_; rintro u w1 ⟨rfl, rfl⟩) | (go_at_call 28; refine Calls.mono (RF.out _) ?_; rintro u w2 ⟨rfl, rfl⟩))
    all_goals (clear c0 c1 c2 c3 d0 d1 i0; go_wp2_with fail; go_meet; exact ⟨_, _, rfl, rfl, (by repeat (first | exact Below.refl _ _ | refine bel_al ?_ _ | refine bel_dr ?_)), (by repeat (first | exact Bk.new _ _ _ _ rfl | (refine Bk.new _ _ _ _ ?_; simp; done) | refine Bk.alloc ?_ _ | refine Bk.dr ?_)), (by repeat (first | exact Bk.new _ _ _ _ rfl | (refine Bk.new _ _ _ _ ?_; simp; done) | refine Bk.alloc ?_ _ | refine Bk.dr ?_)), by omega⟩)
  case rest =>
    obtain ⟨b1, b2, rfl, rfl, hbc, k1, k2, hle⟩ := hcut
    have HB1 : Hid (Below w.heap.size w wc) := HB.out.trans (hbc.mono HB.out.size)
    have K1 : Hid (Bk wc b1 (ssr k f t d h a n c) ∧ Bk wc b2 (rsr k f t d ar m cr) ∧ Bk wc (w.heap.size + 1 + 1 + 1) (orow 0 none 0 0) ∧ Bk wc (w.heap.size + 1 + 1 + 1 + 1) (irow none 0 0)) := ⟨k1, k2, HK.out.2.2.2.1.below hbc, HK.out.2.2.2.2.below hbc⟩
    have hzW := HK.out.2.2.2.2.lt
    have hb1W := hle
    clear HB HK SF RF HWW k1 k2 hbc
    have c0 := K1.out.1.cell 0 _ rfl
    have c1 := K1.out.1.cell 1 _ rfl
    have c2 := K1.out.1.cell 2 _ rfl
    have c3 := K1.out.1.cell 3 _ rfl
    have c4 := K1.out.1.cell 4 _ rfl
    have c5 := K1.out.1.cell 5 _ rfl
    have e0 := K1.out.2.1.cell 0 _ rfl
    have e1 := K1.out.2.1.cell 1 _ rfl
    have e2 := K1.out.2.1.cell 2 _ rfl
    have e3 := K1.out.2.1.cell 3 _ rfl
    have e4 := K1.out.2.1.cell 4 _ rfl
    go_wp2_with fail
    refine (impl_meets k f t d h a n c ar m cr q _ HQ hn).mono ?_
    rintro y w3 ⟨rfl, hb3⟩
    have HB3 : Hid (Below w.heap.size w w3) := HB1.out.trans (hb3.mono HB1.out.size)
    have K3 : Hid (Bk w3 b1 (ssr k f t d h a n c) ∧ Bk w3 b2 (rsr k f t d ar m cr) ∧ Bk w3 (w.heap.size + 1 + 1 + 1) (orow 0 none 0 0) ∧ Bk w3 (w.heap.size + 1 + 1 + 1 + 1) (irow none 0 0)) := ⟨K1.out.1.below hb3, K1.out.2.1.below hb3, K1.out.2.2.1.below hb3, K1.out.2.2.2.below hb3⟩
    clear hb3 HB1 K1 HQ c0 c1 c2 c3 c4 c5 e0 e1 e2 e3 e4
    have hz3 := K3.out.2.2.2.lt
    cases q
    · obtain ⟨rfl, rfl, rfl⟩ : h' = 0 ∧ ys = [] ∧ xs = [] := HE0.out (by first | rfl | trivial)
      have k3 : Bk (w3.alloc (.cells #[] 33)) (w.heap.size + 1 + 1 + 1) (orow 0 none 0 0) := K3.out.2.2.1.alloc _
      have k4 : Bk (w3.alloc (.cells #[] 33)) (w.heap.size + 1 + 1 + 1 + 1) (irow none 0 0) := K3.out.2.2.2.alloc _
      have y0 : (w3.alloc (.cells #[] 33)).cell? ⟨w.heap.size + 1 + 1 + 1, 0, none⟩ = some (.int .i64 0) := k3.cell 0 _ rfl
      have y1 : (w3.alloc (.cells #[] 33)).cell? ⟨w.heap.size + 1 + 1 + 1, 1, none⟩ = some (.slice none 0 0) := k3.cell 1 _ rfl
      have yf := k3.free
      have z0 : (w3.alloc (.cells #[] 33)).cell? ⟨w.heap.size + 1 + 1 + 1 + 1, 0, none⟩ = some (.slice none 0 0) := k4.cell 0 _ rfl
      have zf := k4.free
      have t3 : Betw (w.heap.size + 1 + 1 + 1) (w.heap.size + 1 + 1 + 1 + 1) (w3.alloc (.cells #[] 33)) (((w3.alloc (.cells #[] 33)).setCell ⟨w.heap.size + 1 + 1 + 1, 0, none⟩ (.int .i64 0)).setCell ⟨w.heap.size + 1 + 1 + 1, 1, none⟩ (.slice none 0 0)) := ((Betw.refl (w.heap.size + 1 + 1 + 1) (w.heap.size + 1 + 1 + 1 + 1) _).setCell (p := ⟨w.heap.size + 1 + 1 + 1, 0, none⟩) (by simp) (by simp) _).setCell (p := ⟨w.heap.size + 1 + 1 + 1, 1, none⟩) (by simp) (by simp) _
      have t4 : Betw (w.heap.size + 1 + 1 + 1 + 1) (w.heap.size + 1 + 1 + 1 + 1 + 1) (((w3.alloc (.cells #[] 33)).setCell ⟨w.heap.size + 1 + 1 + 1, 0, none⟩ (.int .i64 0)).setCell ⟨w.heap.size + 1 + 1 + 1, 1, none⟩ (.slice none 0 0)) ((((w3.alloc (.cells #[] 33)).setCell ⟨w.heap.size + 1 + 1 + 1, 0, none⟩ (.int .i64 0)).setCell ⟨w.heap.size + 1 + 1 + 1, 1, none⟩ (.slice none 0 0)).setCell ⟨w.heap.size + 1 + 1 + 1 + 1, 0, none⟩ (.slice none 0 0)) := (Betw.refl (w.heap.size + 1 + 1 + 1 + 1) (w.heap.size + 1 + 1 + 1 + 1 + 1) _).setCell (p := ⟨w.heap.size + 1 + 1 + 1 + 1, 0, none⟩) (by simp) (by simp) _
      have k5 : Hid (Bk ((((w3.alloc (.cells #[] 33)).setCell ⟨w.heap.size + 1 + 1 + 1, 0, none⟩ (.int .i64 0)).setCell ⟨w.heap.size + 1 + 1 + 1, 1, none⟩ (.slice none 0 0)).setCell ⟨w.heap.size + 1 + 1 + 1 + 1, 0, none⟩ (.slice none 0 0)) (w.heap.size + 1 + 1 + 1) (orow 0 none 0 0)) := Bk.betw ((k3.set 0 (.int .i64 0) (by simp) (cs' := orow 0 none 0 0) rfl).set 1 _ (by simp) rfl) t4 (.inl (by omega))
      have k6 : Hid (Bk ((((w3.alloc (.cells #[] 33)).setCell ⟨w.heap.size + 1 + 1 + 1, 0, none⟩ (.int .i64 0)).setCell ⟨w.heap.size + 1 + 1 + 1, 1, none⟩ (.slice none 0 0)).setCell ⟨w.heap.size + 1 + 1 + 1 + 1, 0, none⟩ (.slice none 0 0)) (w.heap.size + 1 + 1 + 1 + 1) (irow none 0 0)) := (Bk.betw k4 t3 (.inr (by omega))).set 0 _ (by simp) rfl
      have xa : Below w.heap.size w (w3.alloc (.cells #[] 33)) := HB3.out.alloc HB3.out.size _
      have xb : Below w.heap.size w (((w3.alloc (.cells #[] 33)).setCell ⟨w.heap.size + 1 + 1 + 1, 0, none⟩ (.int .i64 0)).setCell ⟨w.heap.size + 1 + 1 + 1, 1, none⟩ (.slice none 0 0)) := xa.trans (t3.below (by omega) xa.size)
      have x2 : Hid (Below w.heap.size w ((((w3.alloc (.cells #[] 33)).setCell ⟨w.heap.size + 1 + 1 + 1, 0, none⟩ (.int .i64 0)).setCell ⟨w.heap.size + 1 + 1 + 1, 1, none⟩ (.slice none 0 0)).setCell ⟨w.heap.size + 1 + 1 + 1 + 1, 0, none⟩ (.slice none 0 0))) := xb.trans (t4.below (by omega) xb.size)
      clear k3 k4 t3 t4 xa xb HE0 HE1 HBS
      go_wp2
      clear y0 y1 yf z0 zf
      revert k5 k6 x2
      generalize ((((w3.alloc (.cells #[] 33)).setCell ⟨w.heap.size + 1 + 1 + 1, 0, none⟩ (.int .i64 0)).setCell ⟨w.heap.size + 1 + 1 + 1, 1, none⟩ (.slice none 0 0)).setCell ⟨w.heap.size + 1 + 1 + 1 + 1, 0, none⟩ (.slice none 0 0)) = Wf
      intro k5 k6 x2
      have p0 := k5.out.cell 0 _ rfl
      have p1 := k5.out.cell 1 _ rfl
      have p2 := k6.out.cell 0 _ rfl
      exact bodyPost_ret (v := .tuple #[oen 0 none 0 0, ien none 0 0, .slice (some ⟨w3.heap.size, 0, none⟩) 0 0]) (by simp [results, Try.results14, go_sem, p0, p1, p2]) rfl ⟨none, 0, _, 0, rfl, x2.out, OE2.empty _ _ _ _ x2.out.size⟩
    obtain ⟨g1, g2, g3⟩ := HE1.out (by first | rfl | trivial)
    have G : Hid (ys = bs ∧ xs = zs) := ⟨g2, g3⟩
    have HH : Hid ((if k = 1 then ((bl : Nat) : Int) else 0) = h') := g1
    clear g1 g2 g3 HE0 HE1
    have c0 := K3.out.1.cell 0 _ rfl
    have c1 := K3.out.1.cell 1 _ rfl
    have c2 := K3.out.1.cell 2 _ rfl
    have c3 := K3.out.1.cell 3 _ rfl
    have c4 := K3.out.1.cell 4 _ rfl
    have c5 := K3.out.1.cell 5 _ rfl
    have e0 := K3.out.2.1.cell 0 _ rfl
    have e1 := K3.out.2.1.cell 1 _ rfl
    have e2 := K3.out.2.1.cell 2 _ rfl
    have e3 := K3.out.2.1.cell 3 _ rfl
    have e4 := K3.out.2.1.cell 4 _ rfl
    go_wp2_with fail
    refine (impl_behind k f t d a n c ar m cr zs rs bs bl _ (HS.out.below HB3.out) HL.out hn (HSr.out.below HB3.out) HLR.out hm HBS HBL).mono ?_
    rintro y w4 ⟨g4, rfl, hb4, ho4⟩
    have HO4 : Hid (OE w4 w3.heap.size w4.heap.size (some ⟨g4, 0, none⟩) bs) := by
      obtain ⟨a', c', e', g⟩ := OwnU.oe ho4
      injection e' with e1 e2 e3
      subst e1
      exact g
    have HB4 : Hid (Below w.heap.size w w4) := HB3.out.trans (hb4.mono HB3.out.size)
    have K4 : Hid (Bk w4 b1 (ssr k f t d h a n c) ∧ Bk w4 (w.heap.size + 1 + 1 + 1) (orow 0 none 0 0) ∧ Bk w4 (w.heap.size + 1 + 1 + 1 + 1) (irow none 0 0)) := ⟨K3.out.1.below hb4, K3.out.2.2.1.below hb4, K3.out.2.2.2.below hb4⟩
    have hz4 := hb4.size
    have hzw3 := HB3.out.size
    clear hb4 ho4 HB3 K3 c0 c1 c2 c3 c4 c5 e0 e1 e2 e3 e4
    have HA : Hid (∀ X, Calls Try.prog 31 #[crw k f t d, .slice (some ⟨g4, 0, none⟩) bl bl] X fun e w' => e = .returned (.int .i64 h') ∧ Below X.heap.size X w') := fun X => impl_heldas k f t d _ bl bl h' X HH
    have CP : Hid (∀ X, Below w4.heap.size w4 X → Calls Try.prog 24 #[.slice a n c] X fun e w' => ∃ g, e = .returned (.slice (some ⟨g, 0, none⟩) n n) ∧ Below X.heap.size X w' ∧ OE w' w4.heap.size w'.heap.size (some ⟨g, 0, none⟩) zs) := fun X hX => by
      refine (impl_copied a n c zs X (HS.out.below (HB4.out.trans (hX.mono HB4.out.size))) HL.out hn).mono ?_
      rintro e w' ⟨g, h1, h2, h3⟩
      obtain ⟨a', c', e', g'⟩ := OwnU.oe h3
      injection e' with e1 e2 e3
      subst e1
      exact ⟨g, h1, h2, OE.wide g' hX.size (Nat.le_refl _)⟩
    clear HH HS HSr HBS
    have hb : Below w4.heap.size w4 w4 := Below.refl _ _
    have C0 : Hid (w4.cell? ⟨b1, 0, none⟩ = some (.int .i64 k)) := K4.out.1.cell 0 _ rfl
    have c0 := C0.out
    have C1 : Hid (w4.cell? ⟨b1, 1, none⟩ = some (.int .i64 f)) := K4.out.1.cell 1 _ rfl
    have c1 := C1.out
    have C2 : Hid (w4.cell? ⟨b1, 2, none⟩ = some (.int .i64 t)) := K4.out.1.cell 2 _ rfl
    have c2 := C2.out
    have C3 : Hid (w4.cell? ⟨b1, 3, none⟩ = some (.int .i64 d)) := K4.out.1.cell 3 _ rfl
    have c3 := C3.out
    have C5 : Hid (w4.cell? ⟨b1, 5, none⟩ = some (.slice a n c)) := K4.out.1.cell 5 _ rfl
    have c5 := C5.out
    have R0 : Hid (w4.cell? ⟨w.heap.size + 1 + 1 + 1, 0, none⟩ = some (.int .i64 0)) := K4.out.2.1.cell 0 _ rfl
    have R1 : Hid (w4.cell? ⟨w.heap.size + 1 + 1 + 1, 1, none⟩ = some (.slice none 0 0)) := K4.out.2.1.cell 1 _ rfl
    have S0 : Hid (w4.cell? ⟨w.heap.size + 1 + 1 + 1 + 1, 0, none⟩ = some (.slice none 0 0)) := K4.out.2.2.cell 0 _ rfl
    have r0 := R0.out
    have r1 := R1.out
    have s0 := S0.out
    have rf := K4.out.2.1.free
    have sf := K4.out.2.2.free
    go_wp2
    go_region_held_law (fun w' => w'.cell? ⟨b1, 0, none⟩ = some (.int .i64 k) ∧ w'.cell? ⟨b1, 1, none⟩ = some (.int .i64 f) ∧ w'.cell? ⟨b1, 2, none⟩ = some (.int .i64 t) ∧ w'.cell? ⟨b1, 3, none⟩ = some (.int .i64 d) ∧ w'.cell? ⟨b1, 5, none⟩ = some (.slice a n c)) (first | with_reducible exact ⟨c0, c1, c2, c3, c5⟩ | with_reducible exact ⟨dr_c c0, dr_c c1, dr_c c2, dr_c c3, dr_c c5⟩ | with_reducible exact ⟨st2 (by omega) c0, st2 (by omega) c1, st2 (by omega) c2, st2 (by omega) c3, st2 (by omega) c5⟩ | with_reducible exact ⟨st1 (by omega) c0, st1 (by omega) c1, st1 (by omega) c2, st1 (by omega) c3, st1 (by omega) c5⟩ | with_reducible exact ⟨st2 (by omega) (dr_c c0), st2 (by omega) (dr_c c1), st2 (by omega) (dr_c c2), st2 (by omega) (dr_c c3), st2 (by omega) (dr_c c5)⟩ | with_reducible exact ⟨st1 (by omega) (st2 (by omega) c0), st1 (by omega) (st2 (by omega) c1), st1 (by omega) (st2 (by omega) c2), st1 (by omega) (st2 (by omega) c3), st1 (by omega) (st2 (by omega) c5)⟩ | with_reducible exact ⟨st1 (by omega) (st2 (by omega) (dr_c c0)), st1 (by omega) (st2 (by omega) (dr_c c1)), st1 (by omega) (st2 (by omega) (dr_c c2)), st1 (by omega) (st2 (by omega) (dr_c c3)), st1 (by omega) (st2 (by omega) (dr_c c5))⟩)
      (first | (go_at_call 31; refine Calls.mono (HA.out _) ?_; rintro u w5 ⟨rfl, hbb⟩; (first | replace hb := hb.trans (hbb.mono hb.size) | replace hb := hb.drew.trans (hbb.mono hb.drew.size)); replace c0 := kept_c hb C0.out; replace c1 := kept_c hb C1.out; replace c2 := kept_c hb C2.out; replace c3 := kept_c hb C3.out; replace c5 := kept_c hb C5.out; replace r0 := kept_c hb R0.out; replace r1 := kept_c hb R1.out; replace s0 := kept_c hb S0.out; replace rf := Bk.free (show Bk w5 (w.heap.size + 1 + 1 + 1) _ from K4.out.2.1.below hb); replace sf := Bk.free (show Bk w5 (w.heap.size + 1 + 1 + 1 + 1) _ from K4.out.2.2.below hb); have hz5 := hb.size; have hy5 := hbb.size; (try replace HO6 : Hid (OE w5 _ _ _ _) := (by first | exact HO6.out.below hbb | exact HO6.out.below ((Below.refl _ _).drew.trans hbb))); have wl : Hid (w5 = w5) := rfl; clear hbb) | (go_at_call 24; refine Calls.mono (CP.out _ (by first | exact hb | exact hb.drew)) ?_; rintro u w6 ⟨g6, rfl, hbb, ho6⟩; (first | replace hb := hb.trans (hbb.mono hb.size) | replace hb := hb.drew.trans (hbb.mono hb.drew.size)); replace c0 := kept_c hb C0.out; replace c1 := kept_c hb C1.out; replace c2 := kept_c hb C2.out; replace c3 := kept_c hb C3.out; replace c5 := kept_c hb C5.out; replace r0 := kept_c hb R0.out; replace r1 := kept_c hb R1.out; replace s0 := kept_c hb S0.out; replace rf := Bk.free (show Bk w6 (w.heap.size + 1 + 1 + 1) _ from K4.out.2.1.below hb); replace sf := Bk.free (show Bk w6 (w.heap.size + 1 + 1 + 1 + 1) _ from K4.out.2.2.below hb); have hz6 := hb.size; have hy6 := hbb.size; have HO6 : Hid (OE w6 _ _ _ _) := ho6; clear hbb ho6))
    all_goals
      rename_i hhh
      try clear hhh
      simp only [drew_size] at *
      first
      | (have HBF : Hid (Below w.heap.size w w6) := HB4.out.trans (hb.mono HB4.out.size)
         have KO : Hid (Bk w6 (w.heap.size + 1 + 1 + 1) (orow 0 none 0 0)) := K4.out.2.1.below hb
         have KI : Hid (Bk w6 (w.heap.size + 1 + 1 + 1 + 1) (irow none 0 0)) := K4.out.2.2.below hb
         have OA : Hid (OE w6 w3.heap.size w4.heap.size (some ⟨g4, 0, none⟩) bs) := HO4.out.below hb
         have OB : Hid (OE w6 w4.heap.size w6.heap.size (some ⟨g6, 0, none⟩) zs) := HO6.out
         have k3 : Bk w6 (w.heap.size + 1 + 1 + 1) (orow 0 none 0 0) := KO.out
         have k4 : Bk w6 (w.heap.size + 1 + 1 + 1 + 1) (irow none 0 0) := KI.out
         have t3 : Betw (w.heap.size + 1 + 1 + 1) (w.heap.size + 1 + 1 + 1 + 1) w6 ((w6.setCell ⟨w.heap.size + 1 + 1 + 1, 0, none⟩ (.int .i64 h')).setCell ⟨w.heap.size + 1 + 1 + 1, 1, none⟩ (.slice none 0 0)) := ((Betw.refl (w.heap.size + 1 + 1 + 1) (w.heap.size + 1 + 1 + 1 + 1) _).setCell (p := ⟨w.heap.size + 1 + 1 + 1, 0, none⟩) (by simp) (by simp) _).setCell (p := ⟨w.heap.size + 1 + 1 + 1, 1, none⟩) (by simp) (by simp) _
         have t4 : Betw (w.heap.size + 1 + 1 + 1 + 1) (w.heap.size + 1 + 1 + 1 + 1 + 1) ((w6.setCell ⟨w.heap.size + 1 + 1 + 1, 0, none⟩ (.int .i64 h')).setCell ⟨w.heap.size + 1 + 1 + 1, 1, none⟩ (.slice none 0 0)) (((w6.setCell ⟨w.heap.size + 1 + 1 + 1, 0, none⟩ (.int .i64 h')).setCell ⟨w.heap.size + 1 + 1 + 1, 1, none⟩ (.slice none 0 0)).setCell ⟨w.heap.size + 1 + 1 + 1 + 1, 0, none⟩ (.slice (some ⟨g4, 0, none⟩) bl bl)) := (Betw.refl (w.heap.size + 1 + 1 + 1 + 1) (w.heap.size + 1 + 1 + 1 + 1 + 1) _).setCell (p := ⟨w.heap.size + 1 + 1 + 1 + 1, 0, none⟩) (by simp) (by simp) _
         have k5 : Hid (Bk (((w6.setCell ⟨w.heap.size + 1 + 1 + 1, 0, none⟩ (.int .i64 h')).setCell ⟨w.heap.size + 1 + 1 + 1, 1, none⟩ (.slice none 0 0)).setCell ⟨w.heap.size + 1 + 1 + 1 + 1, 0, none⟩ (.slice (some ⟨g4, 0, none⟩) bl bl)) (w.heap.size + 1 + 1 + 1) (orow h' none 0 0)) := Bk.betw ((k3.set 0 (.int .i64 h') (by simp) (cs' := orow h' none 0 0) rfl).set 1 _ (by simp) rfl) t4 (.inl (by omega))
         have k6 : Hid (Bk (((w6.setCell ⟨w.heap.size + 1 + 1 + 1, 0, none⟩ (.int .i64 h')).setCell ⟨w.heap.size + 1 + 1 + 1, 1, none⟩ (.slice none 0 0)).setCell ⟨w.heap.size + 1 + 1 + 1 + 1, 0, none⟩ (.slice (some ⟨g4, 0, none⟩) bl bl)) (w.heap.size + 1 + 1 + 1 + 1) #[(.slice (some ⟨g4, 0, none⟩) bl bl)]) := (Bk.betw k4 t3 (.inr (by omega))).set 0 _ (by simp) rfl
         have xb : Below w.heap.size w ((w6.setCell ⟨w.heap.size + 1 + 1 + 1, 0, none⟩ (.int .i64 h')).setCell ⟨w.heap.size + 1 + 1 + 1, 1, none⟩ (.slice none 0 0)) := HBF.out.trans (t3.below (by omega) HBF.out.size)
         have x2 : Hid (Below w.heap.size w (((w6.setCell ⟨w.heap.size + 1 + 1 + 1, 0, none⟩ (.int .i64 h')).setCell ⟨w.heap.size + 1 + 1 + 1, 1, none⟩ (.slice none 0 0)).setCell ⟨w.heap.size + 1 + 1 + 1 + 1, 0, none⟩ (.slice (some ⟨g4, 0, none⟩) bl bl))) := xb.trans (t4.below (by omega) xb.size)
         have oa : OE (((w6.setCell ⟨w.heap.size + 1 + 1 + 1, 0, none⟩ (.int .i64 h')).setCell ⟨w.heap.size + 1 + 1 + 1, 1, none⟩ (.slice none 0 0)).setCell ⟨w.heap.size + 1 + 1 + 1 + 1, 0, none⟩ (.slice (some ⟨g4, 0, none⟩) bl bl)) w3.heap.size w4.heap.size (some ⟨g4, 0, none⟩) bs := (OA.out.betw t3 (.inr (by omega))).betw t4 (.inr (by omega))
         have ob : OE (((w6.setCell ⟨w.heap.size + 1 + 1 + 1, 0, none⟩ (.int .i64 h')).setCell ⟨w.heap.size + 1 + 1 + 1, 1, none⟩ (.slice none 0 0)).setCell ⟨w.heap.size + 1 + 1 + 1 + 1, 0, none⟩ (.slice (some ⟨g4, 0, none⟩) bl bl)) w4.heap.size w6.heap.size (some ⟨g6, 0, none⟩) zs := (OB.out.betw t3 (.inr (by omega))).betw t4 (.inr (by omega))
         have hzx := Nat.le_trans t3.size t4.size
         have o2 : Hid (OE2 (((w6.setCell ⟨w.heap.size + 1 + 1 + 1, 0, none⟩ (.int .i64 h')).setCell ⟨w.heap.size + 1 + 1 + 1, 1, none⟩ (.slice none 0 0)).setCell ⟨w.heap.size + 1 + 1 + 1 + 1, 0, none⟩ (.slice (some ⟨g4, 0, none⟩) bl bl)) w.heap.size (some ⟨g4, 0, none⟩) bs (some ⟨g6, 0, none⟩) zs) := ⟨w3.heap.size, w4.heap.size, w4.heap.size, w6.heap.size, oa, ob, by omega, by omega, by omega, by omega, by omega, by omega, .inl (Nat.le_refl _)⟩
         clear t3 t4 k3 k4 xb oa ob hzx
         clear OA OB KO KI HBF HO4 HO6 K4 HB4 hb r0 r1 rf s0 sf c0 c1 c2 c3 c5 C0 C1 C2 C3 C5 R0 R1 S0
         generalize (((w6.setCell ⟨w.heap.size + 1 + 1 + 1, 0, none⟩ (.int .i64 h')).setCell ⟨w.heap.size + 1 + 1 + 1, 1, none⟩ (.slice none 0 0)).setCell ⟨w.heap.size + 1 + 1 + 1 + 1, 0, none⟩ (.slice (some ⟨g4, 0, none⟩) bl bl)) = Wf at k5 k6 x2 o2 ⊢
         go_wp2
         have p0 := k5.out.cell 0 _ rfl
         have p1 := k5.out.cell 1 _ rfl
         have p2 := k6.out.cell 0 _ rfl
         refine bodyPost_ret (v := .tuple #[oen h' none 0 0, .agg #[.slice (some ⟨g4, 0, none⟩) bl bl], .slice (some ⟨g6, 0, none⟩) n n]) (by simp [results, Try.results14, go_sem, p0, p1, p2]) rfl ?_
         rw [G.out.1, G.out.2, HBL.out, HL.out]
         exact ⟨_, _, _, _, rfl, x2.out, o2.out⟩)
      | (have HBF : Hid (Below w.heap.size w w5) := HB4.out.trans (hb.mono HB4.out.size)
         have KO : Hid (Bk w5 (w.heap.size + 1 + 1 + 1) (orow 0 none 0 0)) := K4.out.2.1.below hb
         have KI : Hid (Bk w5 (w.heap.size + 1 + 1 + 1 + 1) (irow none 0 0)) := K4.out.2.2.below hb
         have OA : Hid (OE w5 w3.heap.size w4.heap.size (some ⟨g4, 0, none⟩) bs) := HO4.out.below hb
         have OB : Hid (OE w5 w4.heap.size w6.heap.size (some ⟨g6, 0, none⟩) zs) := HO6.out
         have k3 : Bk w5 (w.heap.size + 1 + 1 + 1) (orow 0 none 0 0) := KO.out
         have k4 : Bk w5 (w.heap.size + 1 + 1 + 1 + 1) (irow none 0 0) := KI.out
         have t3 : Betw (w.heap.size + 1 + 1 + 1) (w.heap.size + 1 + 1 + 1 + 1) w5 ((w5.setCell ⟨w.heap.size + 1 + 1 + 1, 0, none⟩ (.int .i64 h')).setCell ⟨w.heap.size + 1 + 1 + 1, 1, none⟩ (.slice none 0 0)) := ((Betw.refl (w.heap.size + 1 + 1 + 1) (w.heap.size + 1 + 1 + 1 + 1) _).setCell (p := ⟨w.heap.size + 1 + 1 + 1, 0, none⟩) (by simp) (by simp) _).setCell (p := ⟨w.heap.size + 1 + 1 + 1, 1, none⟩) (by simp) (by simp) _
         have t4 : Betw (w.heap.size + 1 + 1 + 1 + 1) (w.heap.size + 1 + 1 + 1 + 1 + 1) ((w5.setCell ⟨w.heap.size + 1 + 1 + 1, 0, none⟩ (.int .i64 h')).setCell ⟨w.heap.size + 1 + 1 + 1, 1, none⟩ (.slice none 0 0)) (((w5.setCell ⟨w.heap.size + 1 + 1 + 1, 0, none⟩ (.int .i64 h')).setCell ⟨w.heap.size + 1 + 1 + 1, 1, none⟩ (.slice none 0 0)).setCell ⟨w.heap.size + 1 + 1 + 1 + 1, 0, none⟩ (.slice (some ⟨g4, 0, none⟩) bl bl)) := (Betw.refl (w.heap.size + 1 + 1 + 1 + 1) (w.heap.size + 1 + 1 + 1 + 1 + 1) _).setCell (p := ⟨w.heap.size + 1 + 1 + 1 + 1, 0, none⟩) (by simp) (by simp) _
         have k5 : Hid (Bk (((w5.setCell ⟨w.heap.size + 1 + 1 + 1, 0, none⟩ (.int .i64 h')).setCell ⟨w.heap.size + 1 + 1 + 1, 1, none⟩ (.slice none 0 0)).setCell ⟨w.heap.size + 1 + 1 + 1 + 1, 0, none⟩ (.slice (some ⟨g4, 0, none⟩) bl bl)) (w.heap.size + 1 + 1 + 1) (orow h' none 0 0)) := Bk.betw ((k3.set 0 (.int .i64 h') (by simp) (cs' := orow h' none 0 0) rfl).set 1 _ (by simp) rfl) t4 (.inl (by omega))
         have k6 : Hid (Bk (((w5.setCell ⟨w.heap.size + 1 + 1 + 1, 0, none⟩ (.int .i64 h')).setCell ⟨w.heap.size + 1 + 1 + 1, 1, none⟩ (.slice none 0 0)).setCell ⟨w.heap.size + 1 + 1 + 1 + 1, 0, none⟩ (.slice (some ⟨g4, 0, none⟩) bl bl)) (w.heap.size + 1 + 1 + 1 + 1) #[(.slice (some ⟨g4, 0, none⟩) bl bl)]) := (Bk.betw k4 t3 (.inr (by omega))).set 0 _ (by simp) rfl
         have xb : Below w.heap.size w ((w5.setCell ⟨w.heap.size + 1 + 1 + 1, 0, none⟩ (.int .i64 h')).setCell ⟨w.heap.size + 1 + 1 + 1, 1, none⟩ (.slice none 0 0)) := HBF.out.trans (t3.below (by omega) HBF.out.size)
         have x2 : Hid (Below w.heap.size w (((w5.setCell ⟨w.heap.size + 1 + 1 + 1, 0, none⟩ (.int .i64 h')).setCell ⟨w.heap.size + 1 + 1 + 1, 1, none⟩ (.slice none 0 0)).setCell ⟨w.heap.size + 1 + 1 + 1 + 1, 0, none⟩ (.slice (some ⟨g4, 0, none⟩) bl bl))) := xb.trans (t4.below (by omega) xb.size)
         have oa : OE (((w5.setCell ⟨w.heap.size + 1 + 1 + 1, 0, none⟩ (.int .i64 h')).setCell ⟨w.heap.size + 1 + 1 + 1, 1, none⟩ (.slice none 0 0)).setCell ⟨w.heap.size + 1 + 1 + 1 + 1, 0, none⟩ (.slice (some ⟨g4, 0, none⟩) bl bl)) w3.heap.size w4.heap.size (some ⟨g4, 0, none⟩) bs := (OA.out.betw t3 (.inr (by omega))).betw t4 (.inr (by omega))
         have ob : OE (((w5.setCell ⟨w.heap.size + 1 + 1 + 1, 0, none⟩ (.int .i64 h')).setCell ⟨w.heap.size + 1 + 1 + 1, 1, none⟩ (.slice none 0 0)).setCell ⟨w.heap.size + 1 + 1 + 1 + 1, 0, none⟩ (.slice (some ⟨g4, 0, none⟩) bl bl)) w4.heap.size w6.heap.size (some ⟨g6, 0, none⟩) zs := (OB.out.betw t3 (.inr (by omega))).betw t4 (.inr (by omega))
         have hzx := Nat.le_trans t3.size t4.size
         have o2 : Hid (OE2 (((w5.setCell ⟨w.heap.size + 1 + 1 + 1, 0, none⟩ (.int .i64 h')).setCell ⟨w.heap.size + 1 + 1 + 1, 1, none⟩ (.slice none 0 0)).setCell ⟨w.heap.size + 1 + 1 + 1 + 1, 0, none⟩ (.slice (some ⟨g4, 0, none⟩) bl bl)) w.heap.size (some ⟨g4, 0, none⟩) bs (some ⟨g6, 0, none⟩) zs) := ⟨w3.heap.size, w4.heap.size, w4.heap.size, w6.heap.size, oa, ob, by omega, by omega, by omega, by omega, by omega, by omega, .inl (Nat.le_refl _)⟩
         clear t3 t4 k3 k4 xb oa ob hzx
         clear OA OB KO KI HBF HO4 HO6 K4 HB4 hb r0 r1 rf s0 sf c0 c1 c2 c3 c5 C0 C1 C2 C3 C5 R0 R1 S0
         generalize (((w5.setCell ⟨w.heap.size + 1 + 1 + 1, 0, none⟩ (.int .i64 h')).setCell ⟨w.heap.size + 1 + 1 + 1, 1, none⟩ (.slice none 0 0)).setCell ⟨w.heap.size + 1 + 1 + 1 + 1, 0, none⟩ (.slice (some ⟨g4, 0, none⟩) bl bl)) = Wf at k5 k6 x2 o2 ⊢
         go_wp2
         have p0 := k5.out.cell 0 _ rfl
         have p1 := k5.out.cell 1 _ rfl
         have p2 := k6.out.cell 0 _ rfl
         refine bodyPost_ret (v := .tuple #[oen h' none 0 0, .agg #[.slice (some ⟨g4, 0, none⟩) bl bl], .slice (some ⟨g6, 0, none⟩) n n]) (by simp [results, Try.results14, go_sem, p0, p1, p2]) rfl ?_
         rw [G.out.1, G.out.2, HBL.out, HL.out]
         exact ⟨_, _, _, _, rfl, x2.out, o2.out⟩)
end Go.Proofs.Ytobgaakcinjnaaa
