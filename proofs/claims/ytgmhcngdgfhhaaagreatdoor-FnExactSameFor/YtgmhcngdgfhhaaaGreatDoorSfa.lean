
/-
  Lists held against each other: bytes, rows of bytes, commands; the program's and the specification's. Conditions: the lists lie in memory; lengths are at most 1048576.
-/
import Derived.Test.YtgmhcngdgfhhaaaGreatDoorBas
import Derived.Test.YtgmhcngdgfhhaaaGreatDoorCms
import Derived.Test.YtgmhcngdgfhhaaaGreatDoorBys
import Derived.Laws.BytesArg
namespace Go.Proofs.YtgmhcngdgfhhaaaGreatDoor
open Go.ChangeShapes Go.WideShapes Go.ChangeAt Go.RowKit Go.Deep Go.Joins
set_option linter.unusedVariables false

theorem ext_getD {xs ys : List Int} (hl : xs.length = ys.length) (h : ∀ i, i < xs.length → xs.getD i 0 = ys.getD i 0) : xs = ys := by
  refine List.ext_getElem hl fun i h1 h2 => ?_
  have := h i h1
  simpa [List.getD, h1, h2] using this
theorem seg_to {k : IntKind} {w w' : World} {a : Option Addr} {zs : List Int} (h : Seg k w a zs) (hb : Below w.heap.size w w') : Seg k w' a zs := h.below hb
theorem ext_cm {xs ys : List cmT} (hl : xs.length = ys.length) (h : ∀ i, i < xs.length → xs.getD i cm0 = ys.getD i cm0) : xs = ys := by
  refine List.ext_getElem hl fun i h1 h2 => ?_
  have := h i h1
  simpa [List.getD, h1, h2] using this
set_option maxRecDepth 20000 in
set_option maxHeartbeats 4000000 in
theorem eq_b (a b : Option Addr) (ca cb : Nat) (xs ys : List Int) (q : Bool) (w : World) (ha : Seg .u8 w a xs) (hb : Seg .u8 w b ys) (hx : xs.length ≤ 1048576) (hy : ys.length ≤ 1048576) (hq : decide (xs = ys) = q) :
    Calls Tryz.prog 65 #[.slice a xs.length ca, .slice b ys.length cb] w fun e w' => e = .returned (.bool q) ∧ Below w.heap.size w w' := by
  have HS : Hid ((Seg .u8 w a xs) ∧ (Seg .u8 w b ys)) := And.intro ha hb
  have HQ : Hid (decide (xs = ys) = q) := hq
  clear ha hb hq
  by_cases hl : xs.length = ys.length
  rotate_left
  · have hlb : ((xs.length : Int) != (ys.length : Int)) = true := by simp; omega
    have HT : Hid (q = false) := by show _ = _; rw [← HQ.out]; exact decide_eq_false (fun e => hl (by rw [e]))
    clear hl
    go_enter Tryz.func65, Tryz.ntmps65
    go_wp2
    go_ret
    exact ⟨by rw [HT.out]; rfl, Below.refl _ _⟩
  have HL : Hid (xs.length = ys.length) := hl
  obtain ⟨n, hn⟩ : ∃ n, n = xs.length := ⟨_, rfl⟩
  rw [← hl, ← hn]
  rw [← hn] at hx
  have hlb : ((n : Int) != (n : Int)) = false := by simp
  clear hl hy
  go_enter Tryz.func65, Tryz.ntmps65
  go_wp2
  go_loopw [13] (fun i wr => ∃ k : Nat, k ≤ n ∧ i = .int .i64 k ∧ Hid (Below w.heap.size w wr ∧ ∀ j, j < k → xs.getD j 0 = ys.getD j 0)) (fun i _ => n - (intOf i).toNat)
  case atStart => exact ⟨0, by omega, rfl, Below.refl _ _, fun j hj => by omega⟩
  case round =>
    obtain ⟨k, hk, rfl, HR⟩ := hrel
    by_cases hkn : k < n
    rotate_left
    · obtain rfl : k = n := by omega
      have hkk : ¬ ((k : Int) < (k : Int)) := by omega
      have HT : Hid (q = true) := by show _ = _; rw [← HQ.out]; exact decide_eq_true (ext_getD HL.out (by rw [← hn]; exact HR.out.2))
      go_wp2
      go_ret
      exact ⟨by rw [HT.out]; rfl, HR.out.1⟩
    have hkn' : (k : Int) < (n : Int) := by omega
    have HBW : Hid (Below w.heap.size w wr) := HR.out.1
    obtain ⟨b1, o1, rfl, hbl1, c1⟩ := HS.out.1.at k (by omega)
    obtain ⟨b2, o2, rfl, hbl2, c2⟩ := HS.out.2.at k (by have := HL.out; omega)
    replace c1 := (HBW.out.cell (p := ⟨b1, o1 + k, none⟩) hbl1).trans c1
    replace c2 := (HBW.out.cell (p := ⟨b2, o2 + k, none⟩) hbl2).trans c2
    obtain ⟨x, HX⟩ : ∃ x, Hid (xs.getD k 0 = x) := ⟨_, rfl⟩
    obtain ⟨y, HY⟩ : ∃ y, Hid (ys.getD k 0 = y) := ⟨_, rfl⟩
    rw [HX.out] at c1
    rw [HY.out] at c2
    clear hbl1 hbl2
    by_cases hxy : x = y
    · subst hxy
      have HN : Hid (∀ j, j < k + 1 → xs.getD j 0 = ys.getD j 0) := fun j hj => by
        by_cases e : j = k
        · subst e; rw [HX.out, HY.out]
        · exact HR.out.2 j (by omega)
      clear HR HX HY
      have hne : (x != x) = false := by simp
      replace c1 := fun X => gr_cell c1 X
      replace c2 := fun X => gr_cell c2 X
      go_wp2
      have hgr := gr_some wr
      refine region_alike (by kernel_rfl) (by kernel_rfl) ?_
      repeat (go_big_quiet_step (fail))
      refine wpQuiet_nil ?_
      intro _ hw'
      obtain ⟨X1, rfl⟩ := hw'
      have hb2 := X1.h
      generalize X1.w = W1 at hb2 ⊢
      have HB1 : Hid (Below w.heap.size w W1) := HBW.out.trans (hb2.mono HBW.out.size)
      clear hb2 c1 c2
      go_wp2
      go_roundw
      case rel => exact ⟨k + 1, by omega, by go_num, HB1.out, HN.out⟩
      case measure => simp [intOf]; omega
    · have HT : Hid (q = false) := by show _ = _; rw [← HQ.out]; exact decide_eq_false (fun e => hxy (by rw [← HX.out, ← HY.out, e]))
      clear HR
      have hne : (x != y) = true := by simpa using hxy
      clear hxy HX HY
      replace c1 := fun X => gr_cell c1 X
      replace c2 := fun X => gr_cell c2 X
      go_wp2
      have hgr := gr_some wr
      refine region_alike (by kernel_rfl) (by kernel_rfl) ?_
      repeat (go_big_quiet_step (fail))
      refine wpQuiet_nil ?_
      intro _ hw'
      obtain ⟨X1, rfl⟩ := hw'
      have hb2 := X1.h
      generalize X1.w = W1 at hb2 ⊢
      have HB1 : Hid (Below w.heap.size w W1) := HBW.out.trans (hb2.mono HBW.out.size)
      clear hb2 c1 c2
      go_wp2
      go_ret
      exact ⟨by rw [HT.out]; rfl, HB1.out⟩
set_option maxRecDepth 20000 in
set_option maxHeartbeats 4000000 in
theorem eq_cm (a b : Option Addr) (ca cb : Nat) (xs ys : List cmT) (q : Bool) (w : World) (ha : GSeg 3 w a xs.length (cmX xs)) (hb : GSeg 3 w b ys.length (cmX ys)) (hx : xs.length ≤ 1048576) (hy : ys.length ≤ 1048576) (hq : decide (xs = ys) = q) :
    Calls Tryz.prog 39 #[.slice a xs.length ca, .slice b ys.length cb] w fun e w' => e = .returned (.bool q) ∧ Below w.heap.size w w' := by
  have HS : Hid ((GSeg 3 w a xs.length (cmX xs)) ∧ (GSeg 3 w b ys.length (cmX ys))) := And.intro ha hb
  have HQ : Hid (decide (xs = ys) = q) := hq
  clear ha hb hq
  by_cases hl : xs.length = ys.length
  rotate_left
  · have hlb : ((xs.length : Int) != (ys.length : Int)) = true := by simp; omega
    have HT : Hid (q = false) := by show _ = _; rw [← HQ.out]; exact decide_eq_false (fun e => hl (by rw [e]))
    clear hl
    go_enter Tryz.func39, Tryz.ntmps39
    go_wp2
    go_ret
    exact ⟨by rw [HT.out]; rfl, Below.refl _ _⟩
  have HL : Hid (xs.length = ys.length) := hl
  obtain ⟨n, hn⟩ : ∃ n, n = xs.length := ⟨_, rfl⟩
  rw [← hl, ← hn]
  rw [← hn] at hx
  have hlb : ((n : Int) != (n : Int)) = false := by simp
  clear hl hy
  go_enter Tryz.func39, Tryz.ntmps39
  go_wp2
  go_loopw [13] (fun i wr => ∃ k : Nat, k ≤ n ∧ i = .int .i64 k ∧ Hid (Below w.heap.size w wr ∧ ∀ j, j < k → xs.getD j cm0 = ys.getD j cm0)) (fun i _ => n - (intOf i).toNat)
  case atStart => exact ⟨0, by omega, rfl, Below.refl _ _, fun j hj => by omega⟩
  case round =>
    obtain ⟨k, hk, rfl, HR⟩ := hrel
    by_cases hkn : k < n
    rotate_left
    · obtain rfl : k = n := by omega
      have hkk : ¬ ((k : Int) < (k : Int)) := by omega
      have HT : Hid (q = true) := by show _ = _; rw [← HQ.out]; exact decide_eq_true (ext_cm HL.out (by rw [← hn]; exact HR.out.2))
      go_wp2
      go_ret
      exact ⟨by rw [HT.out]; rfl, HR.out.1⟩
    have hkn' : (k : Int) < (n : Int) := by omega
    have HBW : Hid (Below w.heap.size w wr) := HR.out.1
    obtain ⟨b1, o1, rfl, hbl1, p1⟩ := HS.out.1.at k (by omega)
    obtain ⟨b2, o2, rfl, hbl2, p2⟩ := HS.out.2.at k (by have := HL.out; omega)
    replace p1 := p1.of (w' := wr) (fun j => HBW.out.cell (p := ⟨b1, j, none⟩) hbl1)
    replace p2 := p2.of (w' := wr) (fun j => HBW.out.cell (p := ⟨b2, j, none⟩) hbl2)
    simp only [cmX] at p1 p2
    obtain ⟨x, HX⟩ : ∃ x, Hid (xs.getD k cm0 = x) := ⟨_, rfl⟩
    obtain ⟨y, HY⟩ : ∃ y, Hid (ys.getD k cm0 = y) := ⟨_, rfl⟩
    rw [HX.out] at p1
    rw [HY.out] at p2
    obtain ⟨c0, c1, c2⟩ := cm_cells p1
    obtain ⟨d0, d1, d2⟩ := cm_cells p2
    clear hbl1 hbl2 p1 p2
    by_cases hxy : x = y
    · subst hxy
      have HN : Hid (∀ j, j < k + 1 → xs.getD j cm0 = ys.getD j cm0) := fun j hj => by
        by_cases e : j = k
        · subst e; rw [HX.out, HY.out]
        · exact HR.out.2 j (by omega)
      clear HR HX HY
      obtain ⟨x1, x2, x3⟩ := x
      simp only at c0 c1 c2 d0 d1 d2
      replace c0 := fun X => gr_cell c0 X
      replace c1 := fun X => gr_cell c1 X
      replace c2 := fun X => gr_cell c2 X
      replace d0 := fun X => gr_cell d0 X
      replace d1 := fun X => gr_cell d1 X
      replace d2 := fun X => gr_cell d2 X
      go_wp2
      have hgr := gr_some wr
      refine region_alike (by kernel_rfl) (by kernel_rfl) ?_
      repeat (go_big_quiet_step (fail))
      refine wpQuiet_nil ?_
      intro _ hw'
      obtain ⟨X1, rfl⟩ := hw'
      have hb2 := X1.h
      generalize X1.w = W1 at hb2 ⊢
      have HB1 : Hid (Below w.heap.size w W1) := HBW.out.trans (hb2.mono HBW.out.size)
      clear hb2 c0 c1 c2 d0 d1 d2
      go_wp2
      go_roundw
      case rel => exact ⟨k + 1, by omega, by go_num, HB1.out, HN.out⟩
      case measure => simp [intOf]; omega
    · have HT : Hid (q = false) := by show _ = _; rw [← HQ.out]; exact decide_eq_false (fun e => hxy (by rw [← HX.out, ← HY.out, e]))
      clear HR
      obtain ⟨x1, x2, x3⟩ := x
      obtain ⟨y1, y2, y3⟩ := y
      simp only at c0 c1 c2 d0 d1 d2
      have hne : x1 ≠ y1 ∨ (x1 = y1 ∧ x2 ≠ y2) ∨ (x1 = y1 ∧ x2 = y2 ∧ x3 ≠ y3) := by simp only [Prod.mk.injEq] at hxy; omega
      clear hxy HX HY
      replace c0 := fun X => gr_cell c0 X
      replace c1 := fun X => gr_cell c1 X
      replace c2 := fun X => gr_cell c2 X
      replace d0 := fun X => gr_cell d0 X
      replace d1 := fun X => gr_cell d1 X
      replace d2 := fun X => gr_cell d2 X
      rcases hne with hd | ⟨rfl, hd⟩ | ⟨rfl, rfl, hd⟩
      · have hdd := decide_eq_false hd
        go_wp2
        have hgr := gr_some wr
        refine region_alike (by kernel_rfl) (by kernel_rfl) ?_
        repeat (go_big_quiet_step (fail))
        refine wpQuiet_nil ?_
        intro _ hw'
        obtain ⟨X1, rfl⟩ := hw'
        have hb2 := X1.h
        generalize X1.w = W1 at hb2 ⊢
        have HB1 : Hid (Below w.heap.size w W1) := HBW.out.trans (hb2.mono HBW.out.size)
        clear hb2 c0 c1 c2 d0 d1 d2
        go_wp2
        go_ret
        exact ⟨by rw [HT.out]; rfl, HB1.out⟩
      · have hdd := decide_eq_false hd
        go_wp2
        have hgr := gr_some wr
        refine region_alike (by kernel_rfl) (by kernel_rfl) ?_
        repeat (go_big_quiet_step (fail))
        refine wpQuiet_nil ?_
        intro _ hw'
        obtain ⟨X1, rfl⟩ := hw'
        have hb2 := X1.h
        generalize X1.w = W1 at hb2 ⊢
        have HB1 : Hid (Below w.heap.size w W1) := HBW.out.trans (hb2.mono HBW.out.size)
        clear hb2 c0 c1 c2 d0 d1 d2
        go_wp2
        go_ret
        exact ⟨by rw [HT.out]; rfl, HB1.out⟩
      · have hdd := decide_eq_false hd
        go_wp2
        have hgr := gr_some wr
        refine region_alike (by kernel_rfl) (by kernel_rfl) ?_
        repeat (go_big_quiet_step (fail))
        refine wpQuiet_nil ?_
        intro _ hw'
        obtain ⟨X1, rfl⟩ := hw'
        have hb2 := X1.h
        generalize X1.w = W1 at hb2 ⊢
        have HB1 : Hid (Below w.heap.size w W1) := HBW.out.trans (hb2.mono HBW.out.size)
        clear hb2 c0 c1 c2 d0 d1 d2
        go_wp2
        go_ret
        exact ⟨by rw [HT.out]; rfl, HB1.out⟩
theorem cl_b (a b : Option Addr) (ca cb : Nat) (xs ys : List Int) (q : Bool) (w : World) (ha : Seg .u8 w a xs) (hb : Seg .u8 w b ys) (hx : xs.length ≤ 1048576) (hy : ys.length ≤ 1048576) (hq : decide (xs = ys) = q) :
    Calls Tryz.prog 64 #[.slice a xs.length ca, .slice b ys.length cb] w fun e w' => e = .returned (.bool q) ∧ Below w.heap.size w w' := by
  have HC : Hid _ := eq_b a b ca cb xs ys q w ha hb hx hy hq
  clear ha hb hx hy hq
  go_enter Tryz.func64, Tryz.ntmps64
  go_wp2_with fail
  refine Calls.mono HC.out ?_
  rintro e w1 ⟨rfl, hb1⟩
  have HB : Hid _ := hb1
  clear hb1
  go_wp2
  go_ret
  exact ⟨rfl, HB.out⟩
set_option maxRecDepth 20000 in
set_option maxHeartbeats 4000000 in
theorem eqf_b (a b : Option Addr) (ca cb n m : Nat) (D E : Nat → List Int) (q : Bool) (w : World) (ha : BSeg w a n D) (hb : BSeg w b m E) (hn : n ≤ 1048576) (hm : m ≤ 1048576) (hd : ∀ i, i < n → (D i).length ≤ 1048576) (he : ∀ i, i < m → (E i).length ≤ 1048576) (hq : q = true ↔ (n = m ∧ ∀ i, i < n → D i = E i)) :
    Calls Tryz.prog 63 #[.slice a n ca, .slice b m cb, .func (.func 64) #[] #[]] w fun e w' => e = .returned (.bool q) ∧ Below w.heap.size w w' := by
  have HS : Hid (BSeg w a n D ∧ BSeg w b m E) := And.intro ha hb
  have HQ : Hid (q = true ↔ (n = m ∧ ∀ i, i < n → D i = E i)) := hq
  clear ha hb hq
  by_cases hl : n = m
  rotate_left
  · have hlb : ((n : Int) != (m : Int)) = true := by simp; omega
    have HT : Hid (q = false) := by
      cases q
      · rfl
      · exact absurd (HQ.out.1 rfl).1 hl
    clear hl
    go_enter Tryz.func63, Tryz.ntmps63
    go_wp2
    go_ret
    exact ⟨by rw [HT.out]; rfl, Below.refl _ _⟩
  subst hl
  have hlb : ((n : Int) != (n : Int)) = false := by simp
  have HDL : Hid ((∀ i, i < n → (D i).length ≤ 1048576) ∧ ∀ i, i < n → (E i).length ≤ 1048576) := ⟨hd, he⟩
  clear hd he hm
  go_enter Tryz.func63, Tryz.ntmps63
  go_wp2
  go_loopw [17] (fun i wr => ∃ k : Nat, k ≤ n ∧ i = .int .i64 k ∧ Hid (Below w.heap.size w wr ∧ ∀ j, j < k → D j = E j)) (fun i _ => n - (intOf i).toNat)
  case atStart => exact ⟨0, by omega, rfl, Below.refl _ _, fun j hj => by omega⟩
  case round =>
    obtain ⟨k, hk, rfl, HR⟩ := hrel
    by_cases hkn : k < n
    rotate_left
    · obtain rfl : k = n := by omega
      have hkk : ¬ ((k : Int) < (k : Int)) := by omega
      have HT : Hid (q = true) := HQ.out.2 ⟨by first | rfl | trivial, HR.out.2⟩
      go_wp2
      go_ret
      exact ⟨by rw [HT.out]; rfl, HR.out.1⟩
    have hkn' : (k : Int) < (n : Int) := by omega
    have HBW : Hid (Below w.heap.size w wr) := HR.out.1
    obtain ⟨b1, o1, a1, c1, rfl, hbl1, e1, s1⟩ := BSeg.at HS.out.1 k hkn
    obtain ⟨b2, o2, a2, c2, rfl, hbl2, e2, s2⟩ := BSeg.at HS.out.2 k hkn
    replace e1 := (HBW.out.cell (p := ⟨b1, o1 + k, none⟩) hbl1).trans e1
    replace e2 := (HBW.out.cell (p := ⟨b2, o2 + k, none⟩) hbl2).trans e2
    replace s1 := seg_to s1 HBW.out
    replace s2 := seg_to s2 HBW.out
    obtain ⟨r, HRR⟩ : ∃ r, Hid (decide (D k = E k) = r) := ⟨_, rfl⟩
    have HC : Hid _ := cl_b a1 a2 c1 c2 (D k) (E k) r wr s1 s2 (HDL.out.1 k hkn) (HDL.out.2 k hkn) HRR.out
    clear s1 s2 hbl1 hbl2
    go_wp2_with fail
    refine Calls.mono HC.out ?_
    rintro e w2 ⟨rfl, hb2⟩
    have HB2 : Hid (Below w.heap.size w w2) := HBW.out.trans (hb2.mono HBW.out.size)
    clear hb2 HC e1 e2
    cases r
    · have HT : Hid (q = false) := by
        cases q
        · rfl
        · exact absurd ((HQ.out.1 rfl).2 k hkn) (of_decide_eq_false HRR.out)
      go_wp2
      go_ret
      exact ⟨by rw [HT.out]; rfl, HB2.out⟩
    have HN : Hid (∀ j, j < k + 1 → D j = E j) := fun j hj => by
      by_cases e : j = k
      · subst e; exact of_decide_eq_true HRR.out
      · exact HR.out.2 j (by omega)
    clear HR HRR
    go_wp2
    go_roundw
    case rel => exact ⟨k + 1, by omega, by go_num, HB2.out, HN.out⟩
    case measure => simp [intOf]; omega
theorem same_l (a b : Option Addr) (ca cb n m : Nat) (D E : Nat → List Int) (q : Bool) (w : World) (ha : BSeg w a n D) (hb : BSeg w b m E) (hn : n ≤ 1048576) (hm : m ≤ 1048576) (hd : ∀ i, i < n → (D i).length ≤ 1048576) (he : ∀ i, i < m → (E i).length ≤ 1048576) (hq : q = true ↔ (n = m ∧ ∀ i, i < n → D i = E i)) :
    Calls Tryz.prog 38 #[.slice a n ca, .slice b m cb] w fun e w' => e = .returned (.bool q) ∧ Below w.heap.size w w' := by
  have HC : Hid _ := eqf_b a b ca cb n m D E q w ha hb hn hm hd he hq
  clear ha hb hn hm hd he hq
  go_enter Tryz.func38, Tryz.ntmps38
  go_wp2_with fail
  refine Calls.mono HC.out ?_
  rintro e w1 ⟨rfl, hb1⟩
  have HB : Hid _ := hb1
  clear hb1
  go_wp2
  go_ret
  exact ⟨rfl, HB.out⟩
end Go.Proofs.YtgmhcngdgfhhaaaGreatDoor
