
/-
  FirstDiff of the program: it tells what the specification tells, that is the same number of every two lists of events. Conditions: lists are at most as long as 64 bits count.
-/
import Derived.Test.YtplnljccabfmlaaBas
import Derived.Test.YtplnljccabfmlaaFdi
namespace Go.Proofs.Ytplnljccabfmlaa
open Go.ChangeShapes Go.WideShapes Go.ChangeAt Go.RowKit Go.Deep Go.Joins
set_option linter.unusedVariables false

set_option maxRecDepth 20000 in
set_option maxHeartbeats 4000000 in
theorem impl_fd (a b : Option Addr) (ca cb n m : Nat) (xs ys : List evT) (w : World) (ha : GSeg 7 w a n (evX xs)) (hb : GSeg 7 w b m (evX ys)) (hn : n ≤ 9223372036854775807) (hm : m ≤ 9223372036854775807) :
    Calls Try.prog 7 #[.slice a n ca, .slice b m cb] w fun e w' => e = .returned (.int .i64 (fdV xs ys n m)) ∧ Below w.heap.size w w' := by
  have HS : Hid (GSeg 7 w a n (evX xs) ∧ GSeg 7 w b m (evX ys)) := And.intro ha hb
  clear ha hb
  by_cases hN : n ≤ 50000
  rotate_left
  · have hN' : (50000 : Int) < (n : Int) := by omega
    have HV : Hid (fdV xs ys n m = -1) := by show _ = _; unfold fdV; rw [if_neg (by omega)]
    rw [HV.out]
    go_enter Try.func7, Try.ntmps7
    go_wp2
    go_ret
    exact ⟨rfl, Below.refl _ _⟩
  have hN' : ¬ ((50000 : Int) < (n : Int)) := by omega
  by_cases hM : m ≤ 50000
  rotate_left
  · have hM' : (50000 : Int) < (m : Int) := by omega
    have HV : Hid (fdV xs ys n m = -1) := by show _ = _; unfold fdV; rw [if_neg (by omega)]
    rw [HV.out]
    go_enter Try.func7, Try.ntmps7
    go_wp2
    go_ret
    exact ⟨rfl, Below.refl _ _⟩
  have hM' : ¬ ((50000 : Int) < (m : Int)) := by omega
  obtain ⟨K, HK⟩ : ∃ K : Nat, Hid (fdK xs ys (min n m) 0 = K) := ⟨_, rfl⟩
  obtain ⟨V, HV⟩ : ∃ V : Int, Hid (fdV xs ys n m = V) := ⟨_, rfl⟩
  have HW : Hid (V = if K < min n m then (K : Int) else if n = m then -1 else ((min n m : Nat) : Int)) := by
    show _ = _
    rw [← HV.out, ← HK.out]; unfold fdV; rw [if_pos ⟨hN, hM⟩]
  rw [HV.out]
  clear HV
  by_cases hlt : m < n
  · have hgt : (m : Int) < (n : Int) := by omega
    go_enter Try.func7, Try.ntmps7
    go_wp2
    go_loopw [21] (fun i wr => ∃ k : Nat, k ≤ m ∧ i = .int .i64 k ∧ Hid (fdK xs ys (min n m - k) k = K ∧ Below w.heap.size w wr)) (fun i _ => m + 1 - (intOf i).toNat)
    case atStart => exact ⟨0, by omega, rfl, by show _ ∧ _; exact ⟨HK.out, Below.refl _ _⟩⟩
    case round =>
      obtain ⟨k, hk1, rfl, HRR⟩ := hrel
      obtain ⟨HR, HBW⟩ := HRR.out
      clear HRR
      replace HBW : Hid (Below w.heap.size w wr) := HBW
      by_cases hkk : k < m
      · have hkn : k < n := by omega
        have hkm : k < m := by omega
        have hkn' : (k : Int) < (n : Int) := by omega
        have hkm' : (k : Int) < (m : Int) := by omega
        obtain ⟨b1, o1, rfl, hbl1, p1⟩ := HS.out.1.at k hkn
        obtain ⟨b2, o2, rfl, hbl2, p2⟩ := HS.out.2.at k hkm
        replace p1 := p1.of (w' := wr) (fun j => HBW.out.cell (p := ⟨b1, j, none⟩) hbl1)
        replace p2 := p2.of (w' := wr) (fun j => HBW.out.cell (p := ⟨b2, j, none⟩) hbl2)
        simp only [evX] at p1 p2
        obtain ⟨x, HX⟩ : ∃ x, Hid (xs.getD k ev0 = x) := ⟨_, rfl⟩
        obtain ⟨y, HY⟩ : ∃ y, Hid (ys.getD k ev0 = y) := ⟨_, rfl⟩
        rw [HX.out] at p1
        rw [HY.out] at p2
        obtain ⟨c0, c1, c2, c3, c4, c5, c6⟩ := ev_cells p1
        obtain ⟨d0, d1, d2, d3, d4, d5, d6⟩ := ev_cells p2
        obtain ⟨f, hf⟩ : ∃ f, min n m - k = f + 1 := ⟨min n m - k - 1, by omega⟩
        have HKK : Hid (fdK xs ys (f + 1) k = K) := by show _ = _; rw [← hf]; exact HR
        by_cases hxy : x = y
        · subst hxy
          have HN : Hid (fdK xs ys (min n m - (k + 1)) (k + 1) = K) := by
            show _ = _
            rw [← HKK.out, fd_same (HX.out.trans HY.out.symm), show min n m - (k + 1) = f by omega]
          obtain ⟨x1, x2, x3, x4, x5, x6, x7⟩ := x
          simp only at c0 c1 c2 c3 c4 c5 c6 d0 d1 d2 d3 d4 d5 d6
          clear p1 p2 hbl1 hbl2 HX HY HKK HR hf
          replace c0 := fun X => gr_cell c0 X
          replace c1 := fun X => gr_cell c1 X
          replace c2 := fun X => gr_cell c2 X
          replace c3 := fun X => gr_cell c3 X
          replace c4 := fun X => gr_cell c4 X
          replace c5 := fun X => gr_cell c5 X
          replace c6 := fun X => gr_cell c6 X
          replace d0 := fun X => gr_cell d0 X
          replace d1 := fun X => gr_cell d1 X
          replace d2 := fun X => gr_cell d2 X
          replace d3 := fun X => gr_cell d3 X
          replace d4 := fun X => gr_cell d4 X
          replace d5 := fun X => gr_cell d5 X
          replace d6 := fun X => gr_cell d6 X
          go_wp2
          have hgr := gr_some wr
          refine region_alike (by kernel_rfl) (by kernel_rfl) ?_
          repeat (go_big_quiet_step (fail))
          refine wpQuiet_nil ?_
          intro _ hw'
          obtain ⟨X1, rfl⟩ := hw'
          have hb2 := X1.h
          generalize X1.w = W1 at hb2 ⊢
          have HB1 : Hid (Below w.heap.size w W1) := HBW.out.trans (hb2.mono HBW.out.size)
          clear hb2 c0 c1 c2 c3 c4 c5 c6 d0 d1 d2 d3 d4 d5 d6
          go_wp2
          go_roundw
          case rel => exact ⟨k + 1, by omega, by go_num, by show _ ∧ _; exact ⟨HN.out, HB1.out⟩⟩
          case measure => simp [intOf]; omega
        · have HT : Hid (K = k) := by show _ = _; rw [← HKK.out]; exact fd_diff (fun h => hxy (by rw [← HX.out, ← HY.out]; exact h))
          have hne := ev_ne hxy
          have HTV : Hid (V = (k : Int)) := by show _ = _; rw [HW.out, HT.out, if_pos (by omega)]
          obtain ⟨x1, x2, x3, x4, x5, x6, x7⟩ := x
          obtain ⟨y1, y2, y3, y4, y5, y6, y7⟩ := y
          simp only at c0 c1 c2 c3 c4 c5 c6 d0 d1 d2 d3 d4 d5 d6 hne
          clear p1 p2 hbl1 hbl2 HX HY HKK HR HT hxy hf
          replace c0 := fun X => gr_cell c0 X
          replace c1 := fun X => gr_cell c1 X
          replace c2 := fun X => gr_cell c2 X
          replace c3 := fun X => gr_cell c3 X
          replace c4 := fun X => gr_cell c4 X
          replace c5 := fun X => gr_cell c5 X
          replace c6 := fun X => gr_cell c6 X
          replace d0 := fun X => gr_cell d0 X
          replace d1 := fun X => gr_cell d1 X
          replace d2 := fun X => gr_cell d2 X
          replace d3 := fun X => gr_cell d3 X
          replace d4 := fun X => gr_cell d4 X
          replace d5 := fun X => gr_cell d5 X
          replace d6 := fun X => gr_cell d6 X
          rcases hne with hd | ⟨rfl, hd⟩ | ⟨rfl, rfl, hd⟩ | ⟨rfl, rfl, rfl, hd⟩ | ⟨rfl, rfl, rfl, rfl, hd⟩ | ⟨rfl, rfl, rfl, rfl, rfl, hd⟩ | ⟨rfl, rfl, rfl, rfl, rfl, rfl, hd⟩
          · have hdd := decide_eq_false hd
            go_wp2
            have hgr := gr_some wr
            refine region_alike (by kernel_rfl) (by kernel_rfl) ?_
            repeat (go_big_quiet_step (fail))
            refine wpQuiet_nil ?_
            intro _ hw'
            obtain ⟨X1, rfl⟩ := hw'
            have hb2 := X1.h
            generalize X1.w = W1 at hb2 ⊢
            have HB1 : Hid (Below w.heap.size w W1) := HBW.out.trans (hb2.mono HBW.out.size)
            clear hb2 c0 c1 c2 c3 c4 c5 c6 d0 d1 d2 d3 d4 d5 d6
            go_wp2
            go_ret
            exact ⟨by rw [HTV.out]; rfl, HB1.out⟩
          · have hdd := decide_eq_false hd
            go_wp2
            have hgr := gr_some wr
            refine region_alike (by kernel_rfl) (by kernel_rfl) ?_
            repeat (go_big_quiet_step (fail))
            refine wpQuiet_nil ?_
            intro _ hw'
            obtain ⟨X1, rfl⟩ := hw'
            have hb2 := X1.h
            generalize X1.w = W1 at hb2 ⊢
            have HB1 : Hid (Below w.heap.size w W1) := HBW.out.trans (hb2.mono HBW.out.size)
            clear hb2 c0 c1 c2 c3 c4 c5 c6 d0 d1 d2 d3 d4 d5 d6
            go_wp2
            go_ret
            exact ⟨by rw [HTV.out]; rfl, HB1.out⟩
          · have hdd := decide_eq_false hd
            go_wp2
            have hgr := gr_some wr
            refine region_alike (by kernel_rfl) (by kernel_rfl) ?_
            repeat (go_big_quiet_step (fail))
            refine wpQuiet_nil ?_
            intro _ hw'
            obtain ⟨X1, rfl⟩ := hw'
            have hb2 := X1.h
            generalize X1.w = W1 at hb2 ⊢
            have HB1 : Hid (Below w.heap.size w W1) := HBW.out.trans (hb2.mono HBW.out.size)
            clear hb2 c0 c1 c2 c3 c4 c5 c6 d0 d1 d2 d3 d4 d5 d6
            go_wp2
            go_ret
            exact ⟨by rw [HTV.out]; rfl, HB1.out⟩
          · have hdd := decide_eq_false hd
            go_wp2
            have hgr := gr_some wr
            refine region_alike (by kernel_rfl) (by kernel_rfl) ?_
            repeat (go_big_quiet_step (fail))
            refine wpQuiet_nil ?_
            intro _ hw'
            obtain ⟨X1, rfl⟩ := hw'
            have hb2 := X1.h
            generalize X1.w = W1 at hb2 ⊢
            have HB1 : Hid (Below w.heap.size w W1) := HBW.out.trans (hb2.mono HBW.out.size)
            clear hb2 c0 c1 c2 c3 c4 c5 c6 d0 d1 d2 d3 d4 d5 d6
            go_wp2
            go_ret
            exact ⟨by rw [HTV.out]; rfl, HB1.out⟩
          · have hdd := decide_eq_false hd
            go_wp2
            have hgr := gr_some wr
            refine region_alike (by kernel_rfl) (by kernel_rfl) ?_
            repeat (go_big_quiet_step (fail))
            refine wpQuiet_nil ?_
            intro _ hw'
            obtain ⟨X1, rfl⟩ := hw'
            have hb2 := X1.h
            generalize X1.w = W1 at hb2 ⊢
            have HB1 : Hid (Below w.heap.size w W1) := HBW.out.trans (hb2.mono HBW.out.size)
            clear hb2 c0 c1 c2 c3 c4 c5 c6 d0 d1 d2 d3 d4 d5 d6
            go_wp2
            go_ret
            exact ⟨by rw [HTV.out]; rfl, HB1.out⟩
          · have hdd := decide_eq_false hd
            go_wp2
            have hgr := gr_some wr
            refine region_alike (by kernel_rfl) (by kernel_rfl) ?_
            repeat (go_big_quiet_step (fail))
            refine wpQuiet_nil ?_
            intro _ hw'
            obtain ⟨X1, rfl⟩ := hw'
            have hb2 := X1.h
            generalize X1.w = W1 at hb2 ⊢
            have HB1 : Hid (Below w.heap.size w W1) := HBW.out.trans (hb2.mono HBW.out.size)
            clear hb2 c0 c1 c2 c3 c4 c5 c6 d0 d1 d2 d3 d4 d5 d6
            go_wp2
            go_ret
            exact ⟨by rw [HTV.out]; rfl, HB1.out⟩
          · have hdd := decide_eq_false hd
            go_wp2
            have hgr := gr_some wr
            refine region_alike (by kernel_rfl) (by kernel_rfl) ?_
            repeat (go_big_quiet_step (fail))
            refine wpQuiet_nil ?_
            intro _ hw'
            obtain ⟨X1, rfl⟩ := hw'
            have hb2 := X1.h
            generalize X1.w = W1 at hb2 ⊢
            have HB1 : Hid (Below w.heap.size w W1) := HBW.out.trans (hb2.mono HBW.out.size)
            clear hb2 c0 c1 c2 c3 c4 c5 c6 d0 d1 d2 d3 d4 d5 d6
            go_wp2
            go_ret
            exact ⟨by rw [HTV.out]; rfl, HB1.out⟩
      · obtain rfl : k = m := by omega
        have hkk' : ¬ ((k : Int) < (k : Int)) := by omega
        have hnk : ((n : Int) == (k : Int)) = false := by simp; omega
        have HT : Hid (K = min n k) := by
          show _ = _
          rw [← HR, show min n k - k = 0 by omega, fdK]; omega
        have HTV : Hid (V = (k : Int)) := by show _ = _; rw [HW.out, HT.out, if_neg (by omega), if_neg (by omega)]; omega
        clear HR HT
        go_wp2
        go_ret
        exact ⟨by rw [HTV.out]; rfl, HBW.out⟩
  · have hgt : ¬ ((m : Int) < (n : Int)) := by omega
    go_enter Try.func7, Try.ntmps7
    go_wp2
    go_loopw [21] (fun i wr => ∃ k : Nat, k ≤ n ∧ i = .int .i64 k ∧ Hid (fdK xs ys (min n m - k) k = K ∧ Below w.heap.size w wr)) (fun i _ => n + 1 - (intOf i).toNat)
    case atStart => exact ⟨0, by omega, rfl, by show _ ∧ _; exact ⟨HK.out, Below.refl _ _⟩⟩
    case round =>
      obtain ⟨k, hk1, rfl, HRR⟩ := hrel
      obtain ⟨HR, HBW⟩ := HRR.out
      clear HRR
      replace HBW : Hid (Below w.heap.size w wr) := HBW
      by_cases hkk : k < n
      · have hkn : k < n := by omega
        have hkm : k < m := by omega
        have hkn' : (k : Int) < (n : Int) := by omega
        have hkm' : (k : Int) < (m : Int) := by omega
        obtain ⟨b1, o1, rfl, hbl1, p1⟩ := HS.out.1.at k hkn
        obtain ⟨b2, o2, rfl, hbl2, p2⟩ := HS.out.2.at k hkm
        replace p1 := p1.of (w' := wr) (fun j => HBW.out.cell (p := ⟨b1, j, none⟩) hbl1)
        replace p2 := p2.of (w' := wr) (fun j => HBW.out.cell (p := ⟨b2, j, none⟩) hbl2)
        simp only [evX] at p1 p2
        obtain ⟨x, HX⟩ : ∃ x, Hid (xs.getD k ev0 = x) := ⟨_, rfl⟩
        obtain ⟨y, HY⟩ : ∃ y, Hid (ys.getD k ev0 = y) := ⟨_, rfl⟩
        rw [HX.out] at p1
        rw [HY.out] at p2
        obtain ⟨c0, c1, c2, c3, c4, c5, c6⟩ := ev_cells p1
        obtain ⟨d0, d1, d2, d3, d4, d5, d6⟩ := ev_cells p2
        obtain ⟨f, hf⟩ : ∃ f, min n m - k = f + 1 := ⟨min n m - k - 1, by omega⟩
        have HKK : Hid (fdK xs ys (f + 1) k = K) := by show _ = _; rw [← hf]; exact HR
        by_cases hxy : x = y
        · subst hxy
          have HN : Hid (fdK xs ys (min n m - (k + 1)) (k + 1) = K) := by
            show _ = _
            rw [← HKK.out, fd_same (HX.out.trans HY.out.symm), show min n m - (k + 1) = f by omega]
          obtain ⟨x1, x2, x3, x4, x5, x6, x7⟩ := x
          simp only at c0 c1 c2 c3 c4 c5 c6 d0 d1 d2 d3 d4 d5 d6
          clear p1 p2 hbl1 hbl2 HX HY HKK HR hf
          replace c0 := fun X => gr_cell c0 X
          replace c1 := fun X => gr_cell c1 X
          replace c2 := fun X => gr_cell c2 X
          replace c3 := fun X => gr_cell c3 X
          replace c4 := fun X => gr_cell c4 X
          replace c5 := fun X => gr_cell c5 X
          replace c6 := fun X => gr_cell c6 X
          replace d0 := fun X => gr_cell d0 X
          replace d1 := fun X => gr_cell d1 X
          replace d2 := fun X => gr_cell d2 X
          replace d3 := fun X => gr_cell d3 X
          replace d4 := fun X => gr_cell d4 X
          replace d5 := fun X => gr_cell d5 X
          replace d6 := fun X => gr_cell d6 X
          go_wp2
          have hgr := gr_some wr
          refine region_alike (by kernel_rfl) (by kernel_rfl) ?_
          repeat (go_big_quiet_step (fail))
          refine wpQuiet_nil ?_
          intro _ hw'
          obtain ⟨X1, rfl⟩ := hw'
          have hb2 := X1.h
          generalize X1.w = W1 at hb2 ⊢
          have HB1 : Hid (Below w.heap.size w W1) := HBW.out.trans (hb2.mono HBW.out.size)
          clear hb2 c0 c1 c2 c3 c4 c5 c6 d0 d1 d2 d3 d4 d5 d6
          go_wp2
          go_roundw
          case rel => exact ⟨k + 1, by omega, by go_num, by show _ ∧ _; exact ⟨HN.out, HB1.out⟩⟩
          case measure => simp [intOf]; omega
        · have HT : Hid (K = k) := by show _ = _; rw [← HKK.out]; exact fd_diff (fun h => hxy (by rw [← HX.out, ← HY.out]; exact h))
          have hne := ev_ne hxy
          have HTV : Hid (V = (k : Int)) := by show _ = _; rw [HW.out, HT.out, if_pos (by omega)]
          obtain ⟨x1, x2, x3, x4, x5, x6, x7⟩ := x
          obtain ⟨y1, y2, y3, y4, y5, y6, y7⟩ := y
          simp only at c0 c1 c2 c3 c4 c5 c6 d0 d1 d2 d3 d4 d5 d6 hne
          clear p1 p2 hbl1 hbl2 HX HY HKK HR HT hxy hf
          replace c0 := fun X => gr_cell c0 X
          replace c1 := fun X => gr_cell c1 X
          replace c2 := fun X => gr_cell c2 X
          replace c3 := fun X => gr_cell c3 X
          replace c4 := fun X => gr_cell c4 X
          replace c5 := fun X => gr_cell c5 X
          replace c6 := fun X => gr_cell c6 X
          replace d0 := fun X => gr_cell d0 X
          replace d1 := fun X => gr_cell d1 X
          replace d2 := fun X => gr_cell d2 X
          replace d3 := fun X => gr_cell d3 X
          replace d4 := fun X => gr_cell d4 X
          replace d5 := fun X => gr_cell d5 X
          replace d6 := fun X => gr_cell d6 X
          rcases hne with hd | ⟨rfl, hd⟩ | ⟨rfl, rfl, hd⟩ | ⟨rfl, rfl, rfl, hd⟩ | ⟨rfl, rfl, rfl, rfl, hd⟩ | ⟨rfl, rfl, rfl, rfl, rfl, hd⟩ | ⟨rfl, rfl, rfl, rfl, rfl, rfl, hd⟩
          · have hdd := decide_eq_false hd
            go_wp2
            have hgr := gr_some wr
            refine region_alike (by kernel_rfl) (by kernel_rfl) ?_
            repeat (go_big_quiet_step (fail))
            refine wpQuiet_nil ?_
            intro _ hw'
            obtain ⟨X1, rfl⟩ := hw'
            have hb2 := X1.h
            generalize X1.w = W1 at hb2 ⊢
            have HB1 : Hid (Below w.heap.size w W1) := HBW.out.trans (hb2.mono HBW.out.size)
            clear hb2 c0 c1 c2 c3 c4 c5 c6 d0 d1 d2 d3 d4 d5 d6
            go_wp2
            go_ret
            exact ⟨by rw [HTV.out]; rfl, HB1.out⟩
          · have hdd := decide_eq_false hd
            go_wp2
            have hgr := gr_some wr
            refine region_alike (by kernel_rfl) (by kernel_rfl) ?_
            repeat (go_big_quiet_step (fail))
            refine wpQuiet_nil ?_
            intro _ hw'
            obtain ⟨X1, rfl⟩ := hw'
            have hb2 := X1.h
            generalize X1.w = W1 at hb2 ⊢
            have HB1 : Hid (Below w.heap.size w W1) := HBW.out.trans (hb2.mono HBW.out.size)
            clear hb2 c0 c1 c2 c3 c4 c5 c6 d0 d1 d2 d3 d4 d5 d6
            go_wp2
            go_ret
            exact ⟨by rw [HTV.out]; rfl, HB1.out⟩
          · have hdd := decide_eq_false hd
            go_wp2
            have hgr := gr_some wr
            refine region_alike (by kernel_rfl) (by kernel_rfl) ?_
            repeat (go_big_quiet_step (fail))
            refine wpQuiet_nil ?_
            intro _ hw'
            obtain ⟨X1, rfl⟩ := hw'
            have hb2 := X1.h
            generalize X1.w = W1 at hb2 ⊢
            have HB1 : Hid (Below w.heap.size w W1) := HBW.out.trans (hb2.mono HBW.out.size)
            clear hb2 c0 c1 c2 c3 c4 c5 c6 d0 d1 d2 d3 d4 d5 d6
            go_wp2
            go_ret
            exact ⟨by rw [HTV.out]; rfl, HB1.out⟩
          · have hdd := decide_eq_false hd
            go_wp2
            have hgr := gr_some wr
            refine region_alike (by kernel_rfl) (by kernel_rfl) ?_
            repeat (go_big_quiet_step (fail))
            refine wpQuiet_nil ?_
            intro _ hw'
            obtain ⟨X1, rfl⟩ := hw'
            have hb2 := X1.h
            generalize X1.w = W1 at hb2 ⊢
            have HB1 : Hid (Below w.heap.size w W1) := HBW.out.trans (hb2.mono HBW.out.size)
            clear hb2 c0 c1 c2 c3 c4 c5 c6 d0 d1 d2 d3 d4 d5 d6
            go_wp2
            go_ret
            exact ⟨by rw [HTV.out]; rfl, HB1.out⟩
          · have hdd := decide_eq_false hd
            go_wp2
            have hgr := gr_some wr
            refine region_alike (by kernel_rfl) (by kernel_rfl) ?_
            repeat (go_big_quiet_step (fail))
            refine wpQuiet_nil ?_
            intro _ hw'
            obtain ⟨X1, rfl⟩ := hw'
            have hb2 := X1.h
            generalize X1.w = W1 at hb2 ⊢
            have HB1 : Hid (Below w.heap.size w W1) := HBW.out.trans (hb2.mono HBW.out.size)
            clear hb2 c0 c1 c2 c3 c4 c5 c6 d0 d1 d2 d3 d4 d5 d6
            go_wp2
            go_ret
            exact ⟨by rw [HTV.out]; rfl, HB1.out⟩
          · have hdd := decide_eq_false hd
            go_wp2
            have hgr := gr_some wr
            refine region_alike (by kernel_rfl) (by kernel_rfl) ?_
            repeat (go_big_quiet_step (fail))
            refine wpQuiet_nil ?_
            intro _ hw'
            obtain ⟨X1, rfl⟩ := hw'
            have hb2 := X1.h
            generalize X1.w = W1 at hb2 ⊢
            have HB1 : Hid (Below w.heap.size w W1) := HBW.out.trans (hb2.mono HBW.out.size)
            clear hb2 c0 c1 c2 c3 c4 c5 c6 d0 d1 d2 d3 d4 d5 d6
            go_wp2
            go_ret
            exact ⟨by rw [HTV.out]; rfl, HB1.out⟩
          · have hdd := decide_eq_false hd
            go_wp2
            have hgr := gr_some wr
            refine region_alike (by kernel_rfl) (by kernel_rfl) ?_
            repeat (go_big_quiet_step (fail))
            refine wpQuiet_nil ?_
            intro _ hw'
            obtain ⟨X1, rfl⟩ := hw'
            have hb2 := X1.h
            generalize X1.w = W1 at hb2 ⊢
            have HB1 : Hid (Below w.heap.size w W1) := HBW.out.trans (hb2.mono HBW.out.size)
            clear hb2 c0 c1 c2 c3 c4 c5 c6 d0 d1 d2 d3 d4 d5 d6
            go_wp2
            go_ret
            exact ⟨by rw [HTV.out]; rfl, HB1.out⟩
      · obtain rfl : k = n := by omega
        have hkk' : ¬ ((k : Int) < (k : Int)) := by omega
        have HT : Hid (K = min k m) := by
          show _ = _
          rw [← HR, show min k m - k = 0 by omega, fdK]; omega
        by_cases hkm : k = m
        · subst hkm
          have HTV : Hid (V = -1) := by show _ = _; rw [HW.out, HT.out, if_neg (by omega), if_pos rfl]
          clear HR HT
          go_wp2
          go_ret
          exact ⟨by rw [HTV.out]; rfl, HBW.out⟩
        · have hnk : ((k : Int) == (m : Int)) = false := by simp; omega
          have HTV : Hid (V = (k : Int)) := by show _ = _; rw [HW.out, HT.out, if_neg (by omega), if_neg hkm]; omega
          clear HR HT
          go_wp2
          go_ret
          exact ⟨by rw [HTV.out]; rfl, HBW.out⟩
end Go.Proofs.Ytplnljccabfmlaa
