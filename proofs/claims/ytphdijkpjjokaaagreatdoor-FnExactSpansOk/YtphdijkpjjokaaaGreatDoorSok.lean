
/-
  Lists of spans held against each other, and whether a list is the spans of the cycles between two: the program's and the specification's. Conditions: the lists lie in memory; lengths are at most 1048576.
-/
import Derived.Test.YtphdijkpjjokaaaGreatDoorBas
import Derived.Test.YtphdijkpjjokaaaGreatDoorTsp
namespace Go.Proofs.YtphdijkpjjokaaaGreatDoor
open Go.ChangeShapes Go.WideShapes Go.ChangeAt Go.RowKit Go.Deep Go.Joins
set_option linter.unusedVariables false

theorem ext_sa {xs ys : List saT} (hl : xs.length = ys.length) (h : ∀ i, i < xs.length → xs.getD i sa0 = ys.getD i sa0) : xs = ys := by
  refine List.ext_getElem hl fun i h1 h2 => ?_
  have := h i h1
  simpa [List.getD, h1, h2] using this
set_option maxRecDepth 20000 in
set_option maxHeartbeats 4000000 in
theorem eq_sa (a b : Option Addr) (ca cb : Nat) (xs ys : List saT) (q : Bool) (w : World) (ha : GSeg 4 w a xs.length (saX xs)) (hb : GSeg 4 w b ys.length (saX ys)) (hx : xs.length ≤ 1048576) (hy : ys.length ≤ 1048576) (hq : decide (xs = ys) = q) :
    Calls Tryz.prog 50 #[.slice a xs.length ca, .slice b ys.length cb] w fun e w' => e = .returned (.bool q) ∧ Below w.heap.size w w' := by
  have HS : Hid ((GSeg 4 w a xs.length (saX xs)) ∧ (GSeg 4 w b ys.length (saX ys))) := And.intro ha hb
  have HQ : Hid (decide (xs = ys) = q) := hq
  clear ha hb hq
  by_cases hl : xs.length = ys.length
  rotate_left
  · have hlb : ((xs.length : Int) != (ys.length : Int)) = true := by simp; omega
    have HT : Hid (q = false) := by show _ = _; rw [← HQ.out]; exact decide_eq_false (fun e => hl (by rw [e]))
    clear hl
    go_enter Tryz.func50, Tryz.ntmps50
    go_wp2
    go_ret
    exact ⟨by rw [HT.out]; rfl, Below.refl _ _⟩
  have HL : Hid (xs.length = ys.length) := hl
  obtain ⟨n, hn⟩ : ∃ n, n = xs.length := ⟨_, rfl⟩
  rw [← hl, ← hn]
  rw [← hn] at hx
  have hlb : ((n : Int) != (n : Int)) = false := by simp
  clear hl hy
  go_enter Tryz.func50, Tryz.ntmps50
  go_wp2
  go_loopw [13] (fun i wr => ∃ k : Nat, k ≤ n ∧ i = .int .i64 k ∧ Hid (Below w.heap.size w wr ∧ ∀ j, j < k → xs.getD j sa0 = ys.getD j sa0)) (fun i _ => n - (intOf i).toNat)
  case atStart => exact ⟨0, by omega, rfl, Below.refl _ _, fun j hj => by omega⟩
  case round =>
    obtain ⟨k, hk, rfl, HR⟩ := hrel
    by_cases hkn : k < n
    rotate_left
    · obtain rfl : k = n := by omega
      have hkk : ¬ ((k : Int) < (k : Int)) := by omega
      have HT : Hid (q = true) := by show _ = _; rw [← HQ.out]; exact decide_eq_true (ext_sa HL.out (by rw [← hn]; exact HR.out.2))
      go_wp2
      go_ret
      exact ⟨by rw [HT.out]; rfl, HR.out.1⟩
    have hkn' : (k : Int) < (n : Int) := by omega
    have HBW : Hid (Below w.heap.size w wr) := HR.out.1
    obtain ⟨b1, o1, rfl, hbl1, p1⟩ := HS.out.1.at k (by omega)
    obtain ⟨b2, o2, rfl, hbl2, p2⟩ := HS.out.2.at k (by have := HL.out; omega)
    replace p1 := p1.of (w' := wr) (fun j => HBW.out.cell (p := ⟨b1, j, none⟩) hbl1)
    replace p2 := p2.of (w' := wr) (fun j => HBW.out.cell (p := ⟨b2, j, none⟩) hbl2)
    simp only [saX] at p1 p2
    obtain ⟨x, HX⟩ : ∃ x, Hid (xs.getD k sa0 = x) := ⟨_, rfl⟩
    obtain ⟨y, HY⟩ : ∃ y, Hid (ys.getD k sa0 = y) := ⟨_, rfl⟩
    rw [HX.out] at p1
    rw [HY.out] at p2
    obtain ⟨c0, c1, c2, c3⟩ := sa_cells p1
    obtain ⟨d0, d1, d2, d3⟩ := sa_cells p2
    clear hbl1 hbl2 p1 p2
    by_cases hxy : x = y
    · subst hxy
      have HN : Hid (∀ j, j < k + 1 → xs.getD j sa0 = ys.getD j sa0) := fun j hj => by
        by_cases e : j = k
        · subst e; rw [HX.out, HY.out]
        · exact HR.out.2 j (by omega)
      clear HR HX HY
      obtain ⟨x1, x2, x3, x4⟩ := x
      simp only at c0 c1 c2 c3 d0 d1 d2 d3
      replace c0 := fun X => gr_cell c0 X
      replace c1 := fun X => gr_cell c1 X
      replace c2 := fun X => gr_cell c2 X
      replace c3 := fun X => gr_cell c3 X
      replace d0 := fun X => gr_cell d0 X
      replace d1 := fun X => gr_cell d1 X
      replace d2 := fun X => gr_cell d2 X
      replace d3 := fun X => gr_cell d3 X
      go_wp2
      have hgr := gr_some wr
      refine region_alike (by kernel_rfl) (by kernel_rfl) ?_
      repeat (go_big_quiet_step (fail))
      refine wpQuiet_nil ?_
      intro _ hw'
      obtain ⟨X1, rfl⟩ := hw'
      have hb2 := X1.h
      generalize X1.w = W1 at hb2 ⊢
      have HB1 : Hid (Below w.heap.size w W1) := HBW.out.trans (hb2.mono HBW.out.size)
      clear hb2 c0 c1 c2 c3 d0 d1 d2 d3
      go_wp2
      go_roundw
      case rel => exact ⟨k + 1, by omega, by go_num, HB1.out, HN.out⟩
      case measure => simp [intOf]; omega
    · have HT : Hid (q = false) := by show _ = _; rw [← HQ.out]; exact decide_eq_false (fun e => hxy (by rw [← HX.out, ← HY.out, e]))
      clear HR
      obtain ⟨x1, x2, x3, x4⟩ := x
      obtain ⟨y1, y2, y3, y4⟩ := y
      simp only at c0 c1 c2 c3 d0 d1 d2 d3
      have hne : x1 ≠ y1 ∨ (x1 = y1 ∧ x2 ≠ y2) ∨ (x1 = y1 ∧ x2 = y2 ∧ x3 ≠ y3) ∨ (x1 = y1 ∧ x2 = y2 ∧ x3 = y3 ∧ x4 ≠ y4) := by simp only [Prod.mk.injEq] at hxy; omega
      clear hxy HX HY
      replace c0 := fun X => gr_cell c0 X
      replace c1 := fun X => gr_cell c1 X
      replace c2 := fun X => gr_cell c2 X
      replace c3 := fun X => gr_cell c3 X
      replace d0 := fun X => gr_cell d0 X
      replace d1 := fun X => gr_cell d1 X
      replace d2 := fun X => gr_cell d2 X
      replace d3 := fun X => gr_cell d3 X
      rcases hne with hd | ⟨rfl, hd⟩ | ⟨rfl, rfl, hd⟩ | ⟨rfl, rfl, rfl, hd⟩
      · have hdd := decide_eq_false hd
        go_wp2
        have hgr := gr_some wr
        refine region_alike (by kernel_rfl) (by kernel_rfl) ?_
        repeat (go_big_quiet_step (fail))
        refine wpQuiet_nil ?_
        intro _ hw'
        obtain ⟨X1, rfl⟩ := hw'
        have hb2 := X1.h
        generalize X1.w = W1 at hb2 ⊢
        have HB1 : Hid (Below w.heap.size w W1) := HBW.out.trans (hb2.mono HBW.out.size)
        clear hb2 c0 c1 c2 c3 d0 d1 d2 d3
        go_wp2
        go_ret
        exact ⟨by rw [HT.out]; rfl, HB1.out⟩
      · have hdd := decide_eq_false hd
        go_wp2
        have hgr := gr_some wr
        refine region_alike (by kernel_rfl) (by kernel_rfl) ?_
        repeat (go_big_quiet_step (fail))
        refine wpQuiet_nil ?_
        intro _ hw'
        obtain ⟨X1, rfl⟩ := hw'
        have hb2 := X1.h
        generalize X1.w = W1 at hb2 ⊢
        have HB1 : Hid (Below w.heap.size w W1) := HBW.out.trans (hb2.mono HBW.out.size)
        clear hb2 c0 c1 c2 c3 d0 d1 d2 d3
        go_wp2
        go_ret
        exact ⟨by rw [HT.out]; rfl, HB1.out⟩
      · have hdd := decide_eq_false hd
        go_wp2
        have hgr := gr_some wr
        refine region_alike (by kernel_rfl) (by kernel_rfl) ?_
        repeat (go_big_quiet_step (fail))
        refine wpQuiet_nil ?_
        intro _ hw'
        obtain ⟨X1, rfl⟩ := hw'
        have hb2 := X1.h
        generalize X1.w = W1 at hb2 ⊢
        have HB1 : Hid (Below w.heap.size w W1) := HBW.out.trans (hb2.mono HBW.out.size)
        clear hb2 c0 c1 c2 c3 d0 d1 d2 d3
        go_wp2
        go_ret
        exact ⟨by rw [HT.out]; rfl, HB1.out⟩
      · have hdd := decide_eq_false hd
        go_wp2
        have hgr := gr_some wr
        refine region_alike (by kernel_rfl) (by kernel_rfl) ?_
        repeat (go_big_quiet_step (fail))
        refine wpQuiet_nil ?_
        intro _ hw'
        obtain ⟨X1, rfl⟩ := hw'
        have hb2 := X1.h
        generalize X1.w = W1 at hb2 ⊢
        have HB1 : Hid (Below w.heap.size w W1) := HBW.out.trans (hb2.mono HBW.out.size)
        clear hb2 c0 c1 c2 c3 d0 d1 d2 d3
        go_wp2
        go_ret
        exact ⟨by rw [HT.out]; rfl, HB1.out⟩
/-- Whether a list is the spans, and not empty. -/
noncomputable def sokV (t : Tb) (f u : Int) (xs : List saT) : Bool := decide (xs.length ≠ 0 ∧ xs = spAll t f u)
set_option maxRecDepth 20000 in
set_option maxHeartbeats 8000000 in
theorem impl_sok (t : Tb) (a : Ad) (f u : Int) (b : Option Addr) (cb : Nat) (xs : List saT) (w : World) (hm : TM 0 w t a) (hw : TW t a) (hs : TS a) (he : TabE w) (hcp : a.pn ≤ a.pc) (hcs : a.sn ≤ a.sc) (hb : GSeg 4 w b xs.length (saX xs)) (hx : xs.length ≤ 1048576) :
    Calls Tryz.prog 18 #[tbV t a, .int .i64 f, .int .i64 u, .slice b xs.length cb] w fun e w' => e = .returned (.bool (sokV t f u xs)) ∧ Below w.heap.size w w' := by
  have HB0 : Hid (Below w.heap.size w (w.alloc (.cells (tbA t a) 41))) := (Below.refl _ _).alloc (Nat.le_refl _) _
  have HX0 : Hid (TBx (w.alloc (.cells (tbA t a) 41)) w.heap.size t a) := TBx.new w t a _ rfl
  have HSI : Hid (∀ X, Below w.heap.size w X → Calls Tryz.prog 9 #[tbV t a, .int .i64 f, .int .i64 u] X fun e w' => ∃ A c, e = .returned (.slice A (spAll t f u).length c) ∧ Below X.heap.size X w' ∧ OS w' X.heap.size w'.heap.size A (spAll t f u).length (saX (spAll t f u))) := fun X hX => impl_spans' t a f u X (hm.below hX) hw hs (he.below hX) hcp hcs
  have HXS : Hid (∀ X, Below w.heap.size w X → GSeg 4 X b xs.length (saX xs)) := fun X hX => hb.below hX
  have hzl : (spAll t f u).length ≤ 5000 := spAll_len t f u
  unfold sokV
  generalize spAll t f u = zs at HSI hzl ⊢
  obtain ⟨q, HQ⟩ : ∃ q : Bool, Hid (decide (xs.length ≠ 0 ∧ xs = zs) = q) := ⟨_, rfl⟩
  rw [HQ.out]
  clear hm hw hs he hcp hcs hb
  by_cases h0 : xs.length = 0
  · have HT : Hid (q = false) := by show _ = _; rw [← HQ.out]; exact decide_eq_false (fun h => h.1 h0)
    have hle : decide ((0 : Int) < (xs.length : Int)) = false := decide_eq_false (by omega)
    have hle2 : ¬ ((0 : Int) < (xs.length : Int)) := by omega
    generalize xs.length = n at hle hle2
    clear h0
    go_enter Tryz.func18, Tryz.ntmps18
    go_wp2
    go_ret
    exact ⟨by rw [HT.out]; rfl, HB0.out⟩
  have HEQ : Hid (∀ (A : Option Addr) (c : Nat) X, GSeg 4 X b xs.length (saX xs) → GSeg 4 X A zs.length (saX zs) → Calls Tryz.prog 50 #[.slice b xs.length cb, .slice A zs.length c] X fun e w' => e = .returned (.bool q) ∧ Below X.heap.size X w') := fun A c X h1 h2 => eq_sa b A cb c xs zs q X h1 h2 hx (by omega) (by rw [← HQ.out]; simp [h0])
  have hle2 : ((0 : Int) < (xs.length : Int)) := by omega
  obtain ⟨n, hn⟩ : ∃ n, xs.length = n := ⟨_, rfl⟩
  rw [hn] at HXS HEQ hle2 ⊢
  clear h0 hn HQ
  go_enter Tryz.func18, Tryz.ntmps18
  go_wp2_with (first | (refine wpList_load_rowG rfl 41 (.tmp 4) rfl w.heap.size rfl 41 (tbA t a) (0, 0) _ HX0.out Tryz.underlying41 rfl (by kernel_rfl) ?_) | (refine wpList_load_row rfl 41 (.tmp 4) rfl w.heap.size rfl 41 (tbA t a) (0, 0) _ HX0.out Tryz.underlying41 rfl (by kernel_rfl) ?_) | fail)
  refine Calls.mono (HSI.out _ HB0.out) ?_
  rintro e w1 ⟨A, c, rfl, hb1, hA⟩
  have HB1 : Hid (Below w.heap.size w w1) := HB0.out.trans (hb1.mono HB0.out.size)
  have HA : Hid (GSeg 4 w1 A zs.length (saX zs)) := hA.2
  clear hb1 hA HB0 HX0 HSI
  go_wp2_with fail
  refine Calls.mono (HEQ.out A c _ (HXS.out _ HB1.out) HA.out) ?_
  rintro e w2 ⟨rfl, hb2⟩
  have HB2 : Hid (Below w.heap.size w w2) := HB1.out.trans (hb2.mono HB1.out.size)
  clear hb2 HB1 HA HEQ HXS
  cases q
  · go_wp2
    go_ret
    exact ⟨rfl, HB2.out⟩
  · go_wp2
    go_ret
    exact ⟨rfl, HB2.out⟩
set_option maxRecDepth 20000 in
set_option maxHeartbeats 8000000 in
theorem spec_sok (t : Tb) (a : Ad) (f u : Int) (b : Option Addr) (cb : Nat) (xs : List saT) (w : World) (hm : TM 0 w t a) (hw : TW t a) (hs : TS a) (hb : GSeg 4 w b xs.length (saX xs)) (hx : xs.length ≤ 1048576) :
    Calls Tryz.prog 16 #[tbV t a, .int .i64 f, .int .i64 u, .slice b xs.length cb] w fun e w' => e = .returned (.bool (sokV t f u xs)) ∧ Below w.heap.size w w' := by
  have HB0 : Hid (Below w.heap.size w (w.alloc (.cells (tbA t a) 41))) := (Below.refl _ _).alloc (Nat.le_refl _) _
  have HX0 : Hid (TBx (w.alloc (.cells (tbA t a) 41)) w.heap.size t a) := TBx.new w t a _ rfl
  have HSI : Hid (∀ X, Below w.heap.size w X → Calls Tryz.prog 7 #[tbV t a, .int .i64 f, .int .i64 u] X fun e w' => ∃ A c, e = .returned (.slice A (spAll t f u).length c) ∧ Below X.heap.size X w' ∧ OS w' X.heap.size w'.heap.size A (spAll t f u).length (saX (spAll t f u))) := fun X hX => spec_spans' t a f u X (hm.below hX) hw hs
  have HXS : Hid (∀ X, Below w.heap.size w X → GSeg 4 X b xs.length (saX xs)) := fun X hX => hb.below hX
  have hzl : (spAll t f u).length ≤ 5000 := spAll_len t f u
  unfold sokV
  generalize spAll t f u = zs at HSI hzl ⊢
  obtain ⟨q, HQ⟩ : ∃ q : Bool, Hid (decide (xs.length ≠ 0 ∧ xs = zs) = q) := ⟨_, rfl⟩
  rw [HQ.out]
  clear hm hw hs hb
  go_enter Tryz.func16, Tryz.ntmps16
  go_wp2_with (first | (refine wpList_load_row rfl 41 (.tmp 4) rfl w.heap.size rfl 41 (tbA t a) (0, 0) _ HX0.out Tryz.underlying41 rfl (by kernel_rfl) ?_) | fail)
  refine Calls.mono (HSI.out _ HB0.out) ?_
  rintro e w1 ⟨A, cA, rfl, hb1, hA⟩
  have HB1 : Hid (Below w.heap.size w w1) := HB0.out.trans (hb1.mono HB0.out.size)
  have HA : Hid (GSeg 4 w1 A zs.length (saX zs)) := hA.2
  have HXB : Hid (GSeg 4 w1 b xs.length (saX xs)) := HXS.out _ HB1.out
  clear hb1 hA HB0 HX0 HSI HXS
  by_cases h0 : zs.length = 0
  · have HT : Hid (q = false) := by show _ = _; rw [← HQ.out]; exact decide_eq_false (fun h => h.1 (by rw [h.2]; exact h0))
    rw [h0]
    have hle : (((0 : Nat) : Int) == 0) = true := rfl
    go_wp2
    go_ret
    exact ⟨by rw [HT.out]; rfl, HB1.out⟩
  have hle : ((zs.length : Int) == 0) = false := by simpa using h0
  by_cases hl : zs.length = xs.length
  rotate_left
  · have HT : Hid (q = false) := by show _ = _; rw [← HQ.out]; exact decide_eq_false (fun h => hl (by rw [h.2]))
    have hlb : ((zs.length : Int) != (xs.length : Int)) = true := by simp; omega
    generalize zs.length = n at *
    generalize xs.length = m at *
    clear hl h0
    go_wp2
    go_ret
    exact ⟨by rw [HT.out]; rfl, HB1.out⟩
  have HL : Hid (xs.length = zs.length) := hl.symm
  have HS : Hid (GSeg 4 w1 A xs.length (saX zs) ∧ GSeg 4 w1 b zs.length (saX xs)) := ⟨by rw [← hl]; exact HA.out, by rw [hl]; exact HXB.out⟩
  obtain ⟨n, hn⟩ : ∃ n, n = zs.length := ⟨_, rfl⟩
  have HNX : Hid (n = xs.length) := hn.trans hl
  rw [← hl, ← hn]
  rw [← hn] at hle hzl
  rw [← hl, ← hn] at HS
  have hlb : ((n : Int) != (n : Int)) = false := by simp
  have HNZ : Hid (n = zs.length) := hn
  have HN0 : Hid (n ≠ 0) := by rw [hn]; exact h0
  clear hl h0 hn HL HA HXB
  go_wp2
  go_loopw [10] (fun i wr => ∃ k : Nat, k ≤ n ∧ i = .int .i64 k ∧ Hid (Below w1.heap.size w1 wr ∧ ∀ j, j < k → zs.getD j sa0 = xs.getD j sa0)) (fun i _ => n - (intOf i).toNat)
  case atStart => exact ⟨0, by omega, rfl, Below.refl _ _, fun j hj => by omega⟩
  case round =>
    obtain ⟨k, hk, rfl, HR⟩ := hrel
    by_cases hkn : k < n
    rotate_left
    · obtain rfl : k = n := by omega
      have hkk : ¬ ((k : Int) < (k : Int)) := by omega
      have HT : Hid (q = true) := by
        show _ = _
        rw [← HQ.out]
        refine decide_eq_true ⟨by rw [← HNX.out]; exact HN0.out, (ext_sa (HNZ.out.symm.trans HNX.out) (by rw [← HNZ.out]; exact HR.out.2)).symm⟩
      go_wp2
      go_ret
      exact ⟨by rw [HT.out]; rfl, HB1.out.trans (HR.out.1.mono HB1.out.size)⟩
    have hkn' : (k : Int) < (n : Int) := by omega
    have HBW : Hid (Below w1.heap.size w1 wr) := HR.out.1
    obtain ⟨b1, o1, rfl, hbl1, p1⟩ := HS.out.1.at k (by omega)
    obtain ⟨b2, o2, rfl, hbl2, p2⟩ := HS.out.2.at k (by omega)
    replace p1 := p1.of (w' := wr) (fun j => HBW.out.cell (p := ⟨b1, j, none⟩) hbl1)
    replace p2 := p2.of (w' := wr) (fun j => HBW.out.cell (p := ⟨b2, j, none⟩) hbl2)
    simp only [saX] at p1 p2
    obtain ⟨x, HX⟩ : ∃ x, Hid (zs.getD k sa0 = x) := ⟨_, rfl⟩
    obtain ⟨y, HY⟩ : ∃ y, Hid (xs.getD k sa0 = y) := ⟨_, rfl⟩
    rw [HX.out] at p1
    rw [HY.out] at p2
    obtain ⟨c0, c1, c2, c3⟩ := sa_cells p1
    obtain ⟨d0, d1, d2, d3⟩ := sa_cells p2
    clear hbl1 hbl2 p1 p2
    by_cases hxy : x = y
    · subst hxy
      have HN : Hid (∀ j, j < k + 1 → zs.getD j sa0 = xs.getD j sa0) := fun j hj => by
        by_cases e : j = k
        · subst e; rw [HX.out, HY.out]
        · exact HR.out.2 j (by omega)
      clear HR HX HY
      obtain ⟨x1, x2, x3, x4⟩ := x
      simp only at c0 c1 c2 c3 d0 d1 d2 d3
      replace c0 := fun X => gr_cell c0 X
      replace c1 := fun X => gr_cell c1 X
      replace c2 := fun X => gr_cell c2 X
      replace c3 := fun X => gr_cell c3 X
      replace d0 := fun X => gr_cell d0 X
      replace d1 := fun X => gr_cell d1 X
      replace d2 := fun X => gr_cell d2 X
      replace d3 := fun X => gr_cell d3 X
      go_wp2
      have hgr := gr_some wr
      refine region_alike (by kernel_rfl) (by kernel_rfl) ?_
      repeat (go_big_quiet_step (fail))
      refine wpQuiet_nil ?_
      intro _ hw'
      obtain ⟨X1, rfl⟩ := hw'
      have hb2 := X1.h
      generalize X1.w = W1 at hb2 ⊢
      have HB1 : Hid (Below w1.heap.size w1 W1) := HBW.out.trans (hb2.mono HBW.out.size)
      clear hb2 c0 c1 c2 c3 d0 d1 d2 d3
      go_wp2
      go_roundw
      case rel => exact ⟨k + 1, by omega, by go_num, HB1.out, HN.out⟩
      case measure => simp [intOf]; omega
    · have HT : Hid (q = false) := by show _ = _; rw [← HQ.out]; exact decide_eq_false (fun e => hxy (by rw [← HX.out, ← HY.out, e.2]))
      clear HR
      obtain ⟨x1, x2, x3, x4⟩ := x
      obtain ⟨y1, y2, y3, y4⟩ := y
      simp only at c0 c1 c2 c3 d0 d1 d2 d3
      have hne : x1 ≠ y1 ∨ (x1 = y1 ∧ x2 ≠ y2) ∨ (x1 = y1 ∧ x2 = y2 ∧ x3 ≠ y3) ∨ (x1 = y1 ∧ x2 = y2 ∧ x3 = y3 ∧ x4 ≠ y4) := by simp only [Prod.mk.injEq] at hxy; omega
      clear hxy HX HY
      have HB0 : Hid (Below w.heap.size w w1) := HB1.out
      replace c0 := fun X => gr_cell c0 X
      replace c1 := fun X => gr_cell c1 X
      replace c2 := fun X => gr_cell c2 X
      replace c3 := fun X => gr_cell c3 X
      replace d0 := fun X => gr_cell d0 X
      replace d1 := fun X => gr_cell d1 X
      replace d2 := fun X => gr_cell d2 X
      replace d3 := fun X => gr_cell d3 X
      rcases hne with hd | ⟨rfl, hd⟩ | ⟨rfl, rfl, hd⟩ | ⟨rfl, rfl, rfl, hd⟩
      · have hdd := decide_eq_false hd
        go_wp2
        have hgr := gr_some wr
        refine region_alike (by kernel_rfl) (by kernel_rfl) ?_
        repeat (go_big_quiet_step (fail))
        refine wpQuiet_nil ?_
        intro _ hw'
        obtain ⟨X1, rfl⟩ := hw'
        have hb2 := X1.h
        generalize X1.w = W1 at hb2 ⊢
        have HB1 : Hid (Below w1.heap.size w1 W1) := HBW.out.trans (hb2.mono HBW.out.size)
        clear hb2 c0 c1 c2 c3 d0 d1 d2 d3
        go_wp2
        go_ret
        exact ⟨by rw [HT.out]; rfl, HB0.out.trans (HB1.out.mono HB0.out.size)⟩
      · have hdd := decide_eq_false hd
        go_wp2
        have hgr := gr_some wr
        refine region_alike (by kernel_rfl) (by kernel_rfl) ?_
        repeat (go_big_quiet_step (fail))
        refine wpQuiet_nil ?_
        intro _ hw'
        obtain ⟨X1, rfl⟩ := hw'
        have hb2 := X1.h
        generalize X1.w = W1 at hb2 ⊢
        have HB1 : Hid (Below w1.heap.size w1 W1) := HBW.out.trans (hb2.mono HBW.out.size)
        clear hb2 c0 c1 c2 c3 d0 d1 d2 d3
        go_wp2
        go_ret
        exact ⟨by rw [HT.out]; rfl, HB0.out.trans (HB1.out.mono HB0.out.size)⟩
      · have hdd := decide_eq_false hd
        go_wp2
        have hgr := gr_some wr
        refine region_alike (by kernel_rfl) (by kernel_rfl) ?_
        repeat (go_big_quiet_step (fail))
        refine wpQuiet_nil ?_
        intro _ hw'
        obtain ⟨X1, rfl⟩ := hw'
        have hb2 := X1.h
        generalize X1.w = W1 at hb2 ⊢
        have HB1 : Hid (Below w1.heap.size w1 W1) := HBW.out.trans (hb2.mono HBW.out.size)
        clear hb2 c0 c1 c2 c3 d0 d1 d2 d3
        go_wp2
        go_ret
        exact ⟨by rw [HT.out]; rfl, HB0.out.trans (HB1.out.mono HB0.out.size)⟩
      · have hdd := decide_eq_false hd
        go_wp2
        have hgr := gr_some wr
        refine region_alike (by kernel_rfl) (by kernel_rfl) ?_
        repeat (go_big_quiet_step (fail))
        refine wpQuiet_nil ?_
        intro _ hw'
        obtain ⟨X1, rfl⟩ := hw'
        have hb2 := X1.h
        generalize X1.w = W1 at hb2 ⊢
        have HB1 : Hid (Below w1.heap.size w1 W1) := HBW.out.trans (hb2.mono HBW.out.size)
        clear hb2 c0 c1 c2 c3 d0 d1 d2 d3
        go_wp2
        go_ret
        exact ⟨by rw [HT.out]; rfl, HB0.out.trans (HB1.out.mono HB0.out.size)⟩
end Go.Proofs.YtphdijkpjjokaaaGreatDoor
