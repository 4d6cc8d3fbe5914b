
/-
  Retired and BusyOf: the specification and the program tell the same number of every list of events. Conditions: lists are at most as long as 64 bits count.
-/
import Derived.Test.YthffggccahnnkaaBas
import Derived.Test.YthffggccahnnkaaEvf
namespace Go.Proofs.Ythffggccahnnkaa
open Go.ChangeShapes Go.WideShapes Go.ChangeAt Go.RowKit Go.Deep Go.Joins
set_option linter.unusedVariables false

theorem ret_yes {xs : List evT} {c : Int} {m : Nat} {x : evT} (hx : xs.getD m ev0 = x) (h : evRet c x = true) : retN xs c (m + 1) = retN xs c m + 1 := by
  rw [retN, hx, if_pos h]
theorem ret_no {xs : List evT} {c : Int} {m : Nat} {x : evT} (hx : xs.getD m ev0 = x) (h : evRet c x = false) : retN xs c (m + 1) = retN xs c m := by
  rw [retN, hx, if_neg (by rw [h]; exact Bool.false_ne_true)]; rfl
theorem bus_yes {xs : List evT} {m : Nat} {x : evT} (hx : xs.getD m ev0 = x) (h : inr x.2.1 0 50000 = true) : busN xs (m + 1) = busN xs m + x.2.1 := by
  rw [busN, hx, if_pos h]
theorem bus_no {xs : List evT} {m : Nat} {x : evT} (hx : xs.getD m ev0 = x) (h : inr x.2.1 0 50000 = false) : busN xs (m + 1) = busN xs m := by
  rw [busN, hx, if_neg (by rw [h]; exact Bool.false_ne_true)]; omega
theorem fit_rng {x : evT} (h : evFit x = true) : 0 ≤ x.1 + x.2.1 ∧ x.1 + x.2.1 ≤ 100000 := by
  unfold evFit at h
  rw [Bool.and_eq_true] at h
  have h1 := of_inr h.1
  have h2 := of_inr h.2
  omega
set_option maxRecDepth 20000 in
set_option maxHeartbeats 4000000 in
theorem spec_ret (a : Option Addr) (cap n : Nat) (xs : List evT) (c : Int) (w : World) (hs : GSeg 7 w a n (evX xs)) (hn : n ≤ 9223372036854775807) :
    Calls Try.prog 6 #[.slice a n cap, .int .i64 c] w fun e w' => e = .returned (.int .i64 (retV xs c n)) ∧ Below w.heap.size w w' := by
  have HS : Hid (GSeg 7 w a n (evX xs)) := hs
  clear hs
  by_cases hN : n ≤ 50000
  rotate_left
  · have hN' : (50000 : Int) < (n : Int) := by omega
    have HV : Hid (retV xs c n = 0) := by show _ = _; unfold retV; rw [if_neg hN]
    rw [HV.out]
    go_enter Try.func6, Try.ntmps6
    go_wp2
    go_ret
    exact ⟨rfl, Below.refl _ _⟩
  have hN' : ¬ ((50000 : Int) < (n : Int)) := by omega
  have HV : Hid (retV xs c n = (retN xs c n : Int)) := by show _ = _; unfold retV; rw [if_pos hN]
  obtain ⟨V, HVV⟩ : ∃ V : Int, Hid (retV xs c n = V) := ⟨_, rfl⟩
  rw [HVV.out]
  replace HV : Hid ((retN xs c n : Int) = V) := HV.out.symm.trans HVV.out
  clear HVV
  go_enter Try.func6, Try.ntmps6
  go_wp2
  go_loopw [5, 6] (fun v i wr => ∃ m r : Nat, m ≤ n ∧ r ≤ m ∧ i = .int .i64 m ∧ v = .int .i64 (r : Int) ∧ Hid (r = retN xs c m ∧ Below w.heap.size w wr)) (fun _ i _ => n - (intOf i).toNat)
  case atStart => exact ⟨0, 0, by omega, by omega, rfl, rfl, rfl, Below.refl _ _⟩
  case round =>
    obtain ⟨m, r, hm, hrm, rfl, rfl, HR⟩ := hrel
    by_cases hmn : m < n
    rotate_left
    · obtain rfl : m = n := by omega
      have HT : Hid ((r : Int) = V) := by show _ = _; rw [HR.out.1]; exact HV.out
      go_wp2
      go_ret
      exact ⟨by rw [HT.out]; rfl, HR.out.2⟩
    have hmn' : (m : Int) < (n : Int) := by omega
    have hrw : (r : Int) ≤ 50000 := by omega
    obtain ⟨b1, o1, rfl, hbl1, p1⟩ := HS.out.at m hmn
    replace p1 := p1.of (w' := wr) (fun j => HR.out.2.cell (p := ⟨b1, j, none⟩) hbl1)
    obtain ⟨x, HX⟩ : ∃ x, Hid (xs.getD m ev0 = x) := ⟨_, rfl⟩
    have HY : Hid (evRet c x = true → r + 1 = retN xs c (m + 1)) := fun h => by rw [ret_yes HX.out h, HR.out.1]
    have HZ : Hid (evRet c x = false → r = retN xs c (m + 1)) := fun h => by rw [ret_no HX.out h, HR.out.1]
    simp only [evX] at p1
    rw [HX.out] at p1
    obtain ⟨c0, c1, c2, c3, c4, c5, c6⟩ := ev_cells p1
    have HF : Hid (∀ X, Calls Try.prog 12 #[evV x] X fun e w' => e = .returned (.bool (evFit x)) ∧ Below X.heap.size X w') := fun X => spec_fit x X
    have HFR : Hid (evFit x = true → 0 ≤ x.1 + x.2.1 ∧ x.1 + x.2.1 ≤ 100000) := fit_rng
    have HQ : Hid (evRet c x = (evFit x && decide (x.1 + x.2.1 ≤ c))) := rfl
    obtain ⟨q, Q⟩ : ∃ q, Hid (evFit x = q) := ⟨_, rfl⟩
    rw [Q.out] at HF HFR HQ
    obtain ⟨x1, x2, x3, x4, x5, x6, x7⟩ := x
    simp only [evV] at c0 c1 c2 c3 c4 c5 c6 HF HFR HQ HY HZ
    clear p1 hbl1 HX Q
    have HB0 : Hid (Below w.heap.size w wr) := HR.out.2
    cases q
    · have HT : Hid (r = retN xs c (m + 1)) := HZ.out (by rw [HQ.out]; rfl)
      clear HY HZ HQ HFR HR
      replace c0 := fun X => gr_cell c0 X
      replace c1 := fun X => gr_cell c1 X
      replace c2 := fun X => gr_cell c2 X
      replace c3 := fun X => gr_cell c3 X
      replace c4 := fun X => gr_cell c4 X
      replace c5 := fun X => gr_cell c5 X
      replace c6 := fun X => gr_cell c6 X
      go_wp2
      have hgr := gr_some wr
      refine region_alike (by kernel_rfl) (by kernel_rfl) ?_
      repeat (go_big_quiet_step (first | (go_at_call 12; exact gr_call (HF.out _))))
      refine wpQuiet_nil ?_
      intro _ hw'
      obtain ⟨X1, rfl⟩ := hw'
      have hb2 := X1.h
      generalize X1.w = W1 at hb2 ⊢
      have HB1 : Hid (Below w.heap.size w W1) := HB0.out.trans (hb2.mono HB0.out.size)
      clear hb2 HB0 c0 c1 c2 c3 c4 c5 c6
      go_wp2
      go_roundw
      case rel => exact ⟨m + 1, r, by omega, by omega, by go_num, rfl, HT.out, HB1.out⟩
      case measure => simp [intOf]; omega
    · have hfr := HFR.out rfl
      obtain ⟨hf0, hf1⟩ := hfr
      have hwr : IntKind.i64.wrap (x1 + x2) = x1 + x2 := by rw [IntKind.wrap_i64]; omega
      have hw64 : wrap64 (x1 + x2) = x1 + x2 := by first | exact hwr | (unfold wrap64; omega)
      by_cases hc : x1 + x2 ≤ c
      · have HT : Hid (r + 1 = retN xs c (m + 1)) := HY.out (by rw [HQ.out]; simp [hc])
        have hdc : decide (x1 + x2 ≤ c) = true := decide_eq_true hc
        clear HY HZ HQ HFR HR hf0 hf1
        replace c0 := fun X => gr_cell c0 X
        replace c1 := fun X => gr_cell c1 X
        replace c2 := fun X => gr_cell c2 X
        replace c3 := fun X => gr_cell c3 X
        replace c4 := fun X => gr_cell c4 X
        replace c5 := fun X => gr_cell c5 X
        replace c6 := fun X => gr_cell c6 X
        go_wp2
        have hgr := gr_some wr
        refine region_alike (by kernel_rfl) (by kernel_rfl) ?_
        repeat (go_big_quiet_step (first | (go_at_call 12; exact gr_call (HF.out _))))
        refine wpQuiet_nil ?_
        intro _ hw'
        obtain ⟨X1, rfl⟩ := hw'
        have hb2 := X1.h
        generalize X1.w = W1 at hb2 ⊢
        have HB1 : Hid (Below w.heap.size w W1) := HB0.out.trans (hb2.mono HB0.out.size)
        clear hb2 HB0 c0 c1 c2 c3 c4 c5 c6
        go_wp2
        go_roundw
        case rel => exact ⟨m + 1, r + 1, by omega, by omega, by go_num, by go_num, HT.out, HB1.out⟩
        case measure => simp [intOf]; omega
      · have HT : Hid (r = retN xs c (m + 1)) := HZ.out (by rw [HQ.out]; simp [hc])
        have hdc : decide (x1 + x2 ≤ c) = false := decide_eq_false hc
        clear HY HZ HQ HFR HR hf0 hf1
        replace c0 := fun X => gr_cell c0 X
        replace c1 := fun X => gr_cell c1 X
        replace c2 := fun X => gr_cell c2 X
        replace c3 := fun X => gr_cell c3 X
        replace c4 := fun X => gr_cell c4 X
        replace c5 := fun X => gr_cell c5 X
        replace c6 := fun X => gr_cell c6 X
        go_wp2
        have hgr := gr_some wr
        refine region_alike (by kernel_rfl) (by kernel_rfl) ?_
        repeat (go_big_quiet_step (first | (go_at_call 12; exact gr_call (HF.out _))))
        refine wpQuiet_nil ?_
        intro _ hw'
        obtain ⟨X1, rfl⟩ := hw'
        have hb2 := X1.h
        generalize X1.w = W1 at hb2 ⊢
        have HB1 : Hid (Below w.heap.size w W1) := HB0.out.trans (hb2.mono HB0.out.size)
        clear hb2 HB0 c0 c1 c2 c3 c4 c5 c6
        go_wp2
        go_roundw
        case rel => exact ⟨m + 1, r, by omega, by omega, by go_num, rfl, HT.out, HB1.out⟩
        case measure => simp [intOf]; omega
set_option maxRecDepth 20000 in
set_option maxHeartbeats 4000000 in
theorem impl_ret (a : Option Addr) (cap n : Nat) (xs : List evT) (c : Int) (w : World) (hs : GSeg 7 w a n (evX xs)) (hn : n ≤ 9223372036854775807) :
    Calls Try.prog 8 #[.slice a n cap, .int .i64 c] w fun e w' => e = .returned (.int .i64 (retV xs c n)) ∧ Below w.heap.size w w' := by
  have HS : Hid (GSeg 7 w a n (evX xs)) := hs
  clear hs
  by_cases hN : n ≤ 50000
  rotate_left
  · have hN' : (50000 : Int) < (n : Int) := by omega
    have HV : Hid (retV xs c n = 0) := by show _ = _; unfold retV; rw [if_neg hN]
    rw [HV.out]
    go_enter Try.func8, Try.ntmps8
    go_wp2
    go_ret
    exact ⟨rfl, Below.refl _ _⟩
  have hN' : ¬ ((50000 : Int) < (n : Int)) := by omega
  have HV : Hid (retV xs c n = (retN xs c n : Int)) := by show _ = _; unfold retV; rw [if_pos hN]
  obtain ⟨V, HVV⟩ : ∃ V : Int, Hid (retV xs c n = V) := ⟨_, rfl⟩
  rw [HVV.out]
  replace HV : Hid ((retN xs c n : Int) = V) := HV.out.symm.trans HVV.out
  clear HVV
  go_enter Try.func8, Try.ntmps8
  go_wp2
  go_loopw [5, 13] (fun v i wr => ∃ m r : Nat, m ≤ n ∧ r ≤ m ∧ i = .int .i64 m ∧ v = .int .i64 (r : Int) ∧ Hid (r = retN xs c m ∧ Below w.heap.size w wr)) (fun _ i _ => n - (intOf i).toNat)
  case atStart => exact ⟨0, 0, by omega, by omega, rfl, rfl, rfl, Below.refl _ _⟩
  case round =>
    obtain ⟨m, r, hm, hrm, rfl, rfl, HR⟩ := hrel
    by_cases hmn : m < n
    rotate_left
    · obtain rfl : m = n := by omega
      have HT : Hid ((r : Int) = V) := by show _ = _; rw [HR.out.1]; exact HV.out
      go_wp2
      go_ret
      exact ⟨by rw [HT.out]; rfl, HR.out.2⟩
    have hmn' : (m : Int) < (n : Int) := by omega
    have hrw : (r : Int) ≤ 50000 := by omega
    obtain ⟨b1, o1, rfl, hbl1, p1⟩ := HS.out.at m hmn
    replace p1 := p1.of (w' := wr) (fun j => HR.out.2.cell (p := ⟨b1, j, none⟩) hbl1)
    obtain ⟨x, HX⟩ : ∃ x, Hid (xs.getD m ev0 = x) := ⟨_, rfl⟩
    have HY : Hid (evRet c x = true → r + 1 = retN xs c (m + 1)) := fun h => by rw [ret_yes HX.out h, HR.out.1]
    have HZ : Hid (evRet c x = false → r = retN xs c (m + 1)) := fun h => by rw [ret_no HX.out h, HR.out.1]
    simp only [evX] at p1
    rw [HX.out] at p1
    obtain ⟨c0, c1, c2, c3, c4, c5, c6⟩ := ev_cells p1
    have HF : Hid (∀ X, Calls Try.prog 14 #[evV x] X fun e w' => e = .returned (.bool (evFit x)) ∧ Below X.heap.size X w') := fun X => impl_timed x X
    have HG : Hid (∀ X, Calls Try.prog 15 #[evV x] X fun e w' => e = .returned (.int .i64 (wrap64 (x.1 + x.2.1))) ∧ Below X.heap.size X w') := fun X => impl_evend x X
    have HFR : Hid (evFit x = true → 0 ≤ x.1 + x.2.1 ∧ x.1 + x.2.1 ≤ 100000) := fit_rng
    have HQ : Hid (evRet c x = (evFit x && decide (x.1 + x.2.1 ≤ c))) := rfl
    obtain ⟨q, Q⟩ : ∃ q, Hid (evFit x = q) := ⟨_, rfl⟩
    rw [Q.out] at HF HFR HQ
    obtain ⟨x1, x2, x3, x4, x5, x6, x7⟩ := x
    simp only [evV] at c0 c1 c2 c3 c4 c5 c6 HF HFR HQ HY HZ HG
    clear p1 hbl1 HX Q
    have HB0 : Hid (Below w.heap.size w wr) := HR.out.2
    cases q
    · have HT : Hid (r = retN xs c (m + 1)) := HZ.out (by rw [HQ.out]; rfl)
      clear HY HZ HQ HFR HR
      have HA : Hid (Below w.heap.size w (wr.alloc (.cells #[.int .i64 x1, .int .i64 x2, .int .u32 x3, .int .i64 x4, .int .i64 x5, .int .i64 x6, .int .u32 x7] 34))) := HB0.out.alloc HB0.out.size _
      clear HB0
      go_wp2_with fail
      refine (HF.out _).mono ?_
      rintro u w3 ⟨rfl, hb3⟩
      have HB1 : Hid (Below w.heap.size w w3) := HA.out.trans (hb3.mono HA.out.size)
      clear hb3 HA c0 c1 c2 c3 c4 c5 c6
      go_wp2
      go_roundw
      case rel => exact ⟨m + 1, r, by omega, by omega, by go_num, rfl, HT.out, HB1.out⟩
      case measure => simp [intOf]; omega
    · have hfr := HFR.out rfl
      obtain ⟨hf0, hf1⟩ := hfr
      have hwr : IntKind.i64.wrap (x1 + x2) = x1 + x2 := by rw [IntKind.wrap_i64]; omega
      have hw64 : wrap64 (x1 + x2) = x1 + x2 := by first | exact hwr | (unfold wrap64; omega)
      rw [hw64] at HG
      by_cases hc : x1 + x2 ≤ c
      · have HT : Hid (r + 1 = retN xs c (m + 1)) := HY.out (by rw [HQ.out]; simp [hc])
        have hdc : decide (x1 + x2 ≤ c) = true := decide_eq_true hc
        clear HY HZ HQ HFR HR hf0 hf1
        have KM : Hid (CellsAt (wr.alloc (.cells #[.int .i64 x1, .int .i64 x2, .int .u32 x3, .int .i64 x4, .int .i64 x5, .int .i64 x6, .int .u32 x7] 34)) wr.heap.size 0 [.int .i64 x1, .int .i64 x2, .int .u32 x3, .int .i64 x4, .int .i64 x5, .int .i64 x6, .int .u32 x7]) := CellsAt.new wr [.int .i64 x1, .int .i64 x2, .int .u32 x3, .int .i64 x4, .int .i64 x5, .int .i64 x6, .int .u32 x7] 34 _ rfl
        have HA : Hid (Below w.heap.size w (wr.alloc (.cells #[.int .i64 x1, .int .i64 x2, .int .u32 x3, .int .i64 x4, .int .i64 x5, .int .i64 x6, .int .u32 x7] 34))) := HB0.out.alloc HB0.out.size _
        clear HB0
        go_wp2_with fail
        refine (HF.out _).mono ?_
        rintro u w3 ⟨rfl, hb3⟩
        have KN : Hid (CellsAt w3 wr.heap.size 0 [.int .i64 x1, .int .i64 x2, .int .u32 x3, .int .i64 x4, .int .i64 x5, .int .i64 x6, .int .u32 x7]) := CellsAt.below KM.out hb3
        have d0 : w3.cell? ⟨wr.heap.size, 0, none⟩ = some (.int .i64 x1) := KN.out 0 _ rfl
        have d1 : w3.cell? ⟨wr.heap.size, 1, none⟩ = some (.int .i64 x2) := KN.out 1 _ rfl
        have d2 : w3.cell? ⟨wr.heap.size, 2, none⟩ = some (.int .u32 x3) := KN.out 2 _ rfl
        have d3 : w3.cell? ⟨wr.heap.size, 3, none⟩ = some (.int .i64 x4) := KN.out 3 _ rfl
        have d4 : w3.cell? ⟨wr.heap.size, 4, none⟩ = some (.int .i64 x5) := KN.out 4 _ rfl
        have d5 : w3.cell? ⟨wr.heap.size, 5, none⟩ = some (.int .i64 x6) := KN.out 5 _ rfl
        have d6 : w3.cell? ⟨wr.heap.size, 6, none⟩ = some (.int .u32 x7) := KN.out 6 _ rfl
        have HB2 : Hid (Below w.heap.size w w3) := HA.out.trans (hb3.mono HA.out.size)
        clear hb3 HA KM KN c0 c1 c2 c3 c4 c5 c6
        go_wp2_with fail
        refine (HG.out _).mono ?_
        rintro u w4 ⟨rfl, hb4⟩
        have HB1 : Hid (Below w.heap.size w w4) := HB2.out.trans (hb4.mono HB2.out.size)
        clear hb4 HB2 d0 d1 d2 d3 d4 d5 d6
        go_wp2
        go_roundw
        case rel => exact ⟨m + 1, r + 1, by omega, by omega, by go_num, by go_num, HT.out, HB1.out⟩
        case measure => simp [intOf]; omega
      · have HT : Hid (r = retN xs c (m + 1)) := HZ.out (by rw [HQ.out]; simp [hc])
        have hdc : decide (x1 + x2 ≤ c) = false := decide_eq_false hc
        clear HY HZ HQ HFR HR hf0 hf1
        have KM : Hid (CellsAt (wr.alloc (.cells #[.int .i64 x1, .int .i64 x2, .int .u32 x3, .int .i64 x4, .int .i64 x5, .int .i64 x6, .int .u32 x7] 34)) wr.heap.size 0 [.int .i64 x1, .int .i64 x2, .int .u32 x3, .int .i64 x4, .int .i64 x5, .int .i64 x6, .int .u32 x7]) := CellsAt.new wr [.int .i64 x1, .int .i64 x2, .int .u32 x3, .int .i64 x4, .int .i64 x5, .int .i64 x6, .int .u32 x7] 34 _ rfl
        have HA : Hid (Below w.heap.size w (wr.alloc (.cells #[.int .i64 x1, .int .i64 x2, .int .u32 x3, .int .i64 x4, .int .i64 x5, .int .i64 x6, .int .u32 x7] 34))) := HB0.out.alloc HB0.out.size _
        clear HB0
        go_wp2_with fail
        refine (HF.out _).mono ?_
        rintro u w3 ⟨rfl, hb3⟩
        have KN : Hid (CellsAt w3 wr.heap.size 0 [.int .i64 x1, .int .i64 x2, .int .u32 x3, .int .i64 x4, .int .i64 x5, .int .i64 x6, .int .u32 x7]) := CellsAt.below KM.out hb3
        have d0 : w3.cell? ⟨wr.heap.size, 0, none⟩ = some (.int .i64 x1) := KN.out 0 _ rfl
        have d1 : w3.cell? ⟨wr.heap.size, 1, none⟩ = some (.int .i64 x2) := KN.out 1 _ rfl
        have d2 : w3.cell? ⟨wr.heap.size, 2, none⟩ = some (.int .u32 x3) := KN.out 2 _ rfl
        have d3 : w3.cell? ⟨wr.heap.size, 3, none⟩ = some (.int .i64 x4) := KN.out 3 _ rfl
        have d4 : w3.cell? ⟨wr.heap.size, 4, none⟩ = some (.int .i64 x5) := KN.out 4 _ rfl
        have d5 : w3.cell? ⟨wr.heap.size, 5, none⟩ = some (.int .i64 x6) := KN.out 5 _ rfl
        have d6 : w3.cell? ⟨wr.heap.size, 6, none⟩ = some (.int .u32 x7) := KN.out 6 _ rfl
        have HB2 : Hid (Below w.heap.size w w3) := HA.out.trans (hb3.mono HA.out.size)
        clear hb3 HA KM KN c0 c1 c2 c3 c4 c5 c6
        go_wp2_with fail
        refine (HG.out _).mono ?_
        rintro u w4 ⟨rfl, hb4⟩
        have HB1 : Hid (Below w.heap.size w w4) := HB2.out.trans (hb4.mono HB2.out.size)
        clear hb4 HB2 d0 d1 d2 d3 d4 d5 d6
        go_wp2
        go_roundw
        case rel => exact ⟨m + 1, r, by omega, by omega, by go_num, rfl, HT.out, HB1.out⟩
        case measure => simp [intOf]; omega
set_option maxRecDepth 20000 in
set_option maxHeartbeats 4000000 in
theorem spec_bus (a : Option Addr) (cap n : Nat) (xs : List evT) (w : World) (hs : GSeg 7 w a n (evX xs)) (hn : n ≤ 9223372036854775807) :
    Calls Try.prog 10 #[.slice a n cap] w fun e w' => e = .returned (.int .i64 (busV xs n)) ∧ Below w.heap.size w w' := by
  have HS : Hid (GSeg 7 w a n (evX xs)) := hs
  clear hs
  by_cases hN : n ≤ 50000
  rotate_left
  · have hN' : (50000 : Int) < (n : Int) := by omega
    have HV : Hid (busV xs n = 0) := by show _ = _; unfold busV; rw [if_neg hN]
    rw [HV.out]
    go_enter Try.func10, Try.ntmps10
    go_wp2
    go_ret
    exact ⟨rfl, Below.refl _ _⟩
  have hN' : ¬ ((50000 : Int) < (n : Int)) := by omega
  have HV : Hid (busV xs n = (busN xs n : Int)) := by show _ = _; unfold busV; rw [if_pos hN]
  obtain ⟨V, HVV⟩ : ∃ V : Int, Hid (busV xs n = V) := ⟨_, rfl⟩
  rw [HVV.out]
  replace HV : Hid ((busN xs n : Int) = V) := HV.out.symm.trans HVV.out
  clear HVV
  go_enter Try.func10, Try.ntmps10
  go_wp2
  go_loopw [3, 4] (fun v i wr => ∃ (m : Nat) (r : Int), m ≤ n ∧ 0 ≤ r ∧ r ≤ 50000 * (m : Int) ∧ i = .int .i64 m ∧ v = .int .i64 r ∧ Hid (r = busN xs m ∧ Below w.heap.size w wr)) (fun _ i _ => n - (intOf i).toNat)
  case atStart => exact ⟨0, 0, by omega, by omega, by omega, rfl, rfl, rfl, Below.refl _ _⟩
  case round =>
    obtain ⟨m, r, hm, hr0, hr1, rfl, rfl, HR⟩ := hrel
    by_cases hmn : m < n
    rotate_left
    · obtain rfl : m = n := by omega
      have HT : Hid (r = V) := by show _ = _; rw [HR.out.1]; exact HV.out
      go_wp2
      go_ret
      exact ⟨by rw [HT.out]; rfl, HR.out.2⟩
    have hmn' : (m : Int) < (n : Int) := by omega
    obtain ⟨b1, o1, rfl, hbl1, p1⟩ := HS.out.at m hmn
    replace p1 := p1.of (w' := wr) (fun j => HR.out.2.cell (p := ⟨b1, j, none⟩) hbl1)
    obtain ⟨x, HX⟩ : ∃ x, Hid (xs.getD m ev0 = x) := ⟨_, rfl⟩
    have HY : Hid (inr x.2.1 0 50000 = true → r + x.2.1 = busN xs (m + 1)) := fun h => by rw [bus_yes HX.out h, HR.out.1]
    have HZ : Hid (inr x.2.1 0 50000 = false → r = busN xs (m + 1)) := fun h => by rw [bus_no HX.out h, HR.out.1]
    have HI : Hid (inr x.2.1 0 50000 = true → 0 ≤ x.2.1 ∧ x.2.1 ≤ 50000) := of_inr
    simp only [evX] at p1
    rw [HX.out] at p1
    obtain ⟨c0, c1, c2, c3, c4, c5, c6⟩ := ev_cells p1
    have HF : Hid (∀ X, Calls Try.prog 17 #[.int .i64 x.2.1, .int .i64 0, .int .i64 50000] X fun e w' => e = .returned (.bool (inr x.2.1 0 50000)) ∧ w' = X) := fun X => in_any _ _ _ X
    obtain ⟨q, Q⟩ : ∃ q, Hid (inr x.2.1 0 50000 = q) := ⟨_, rfl⟩
    rw [Q.out] at HF HY HZ HI
    obtain ⟨x1, x2, x3, x4, x5, x6, x7⟩ := x
    simp only at c0 c1 c2 c3 c4 c5 c6 HF HY HZ HI
    clear p1 hbl1 HX Q
    have HB0 : Hid (Below w.heap.size w wr) := HR.out.2
    cases q
    · have HT : Hid (r = busN xs (m + 1)) := HZ.out rfl
      clear HY HZ HI HR
      go_wp2_with (first | (go_at_call 17; refine (HF.out _).mono ?_; rintro u w1 ⟨rfl, rfl⟩))
      go_roundw
      case rel => exact ⟨m + 1, r, by omega, by omega, by omega, by go_num, rfl, HT.out, HB0.out⟩
      case measure => simp [intOf]; omega
    · have HT : Hid (r + x2 = busN xs (m + 1)) := HY.out rfl
      have hi := HI.out rfl
      obtain ⟨hi0, hi1⟩ := hi
      have hwr : IntKind.i64.wrap (r + x2) = r + x2 := by rw [IntKind.wrap_i64]; omega
      clear HY HZ HI HR
      go_wp2_with (first | (go_at_call 17; refine (HF.out _).mono ?_; rintro u w1 ⟨rfl, rfl⟩))
      go_roundw
      case rel => exact ⟨m + 1, r + x2, by omega, by omega, by omega, by go_num, by go_num, HT.out, HB0.out⟩
      case measure => simp [intOf]; omega
set_option maxRecDepth 20000 in
set_option maxHeartbeats 4000000 in
theorem impl_bus (a : Option Addr) (cap n : Nat) (xs : List evT) (w : World) (hs : GSeg 7 w a n (evX xs)) (hn : n ≤ 9223372036854775807) :
    Calls Try.prog 11 #[.slice a n cap] w fun e w' => e = .returned (.int .i64 (busV xs n)) ∧ Below w.heap.size w w' := by
  have HS : Hid (GSeg 7 w a n (evX xs)) := hs
  clear hs
  by_cases hN : n ≤ 50000
  rotate_left
  · have hN' : (50000 : Int) < (n : Int) := by omega
    have HV : Hid (busV xs n = 0) := by show _ = _; unfold busV; rw [if_neg hN]
    rw [HV.out]
    go_enter Try.func11, Try.ntmps11
    go_wp2
    go_ret
    exact ⟨rfl, Below.refl _ _⟩
  have hN' : ¬ ((50000 : Int) < (n : Int)) := by omega
  have HV : Hid (busV xs n = (busN xs n : Int)) := by show _ = _; unfold busV; rw [if_pos hN]
  obtain ⟨V, HVV⟩ : ∃ V : Int, Hid (busV xs n = V) := ⟨_, rfl⟩
  rw [HVV.out]
  replace HV : Hid ((busN xs n : Int) = V) := HV.out.symm.trans HVV.out
  clear HVV
  go_enter Try.func11, Try.ntmps11
  go_wp2
  go_loopw [3, 11] (fun v i wr => ∃ (m : Nat) (r : Int), m ≤ n ∧ 0 ≤ r ∧ r ≤ 50000 * (m : Int) ∧ i = .int .i64 m ∧ v = .int .i64 r ∧ Hid (r = busN xs m ∧ Below w.heap.size w wr)) (fun _ i _ => n - (intOf i).toNat)
  case atStart => exact ⟨0, 0, by omega, by omega, by omega, rfl, rfl, rfl, Below.refl _ _⟩
  case round =>
    obtain ⟨m, r, hm, hr0, hr1, rfl, rfl, HR⟩ := hrel
    by_cases hmn : m < n
    rotate_left
    · obtain rfl : m = n := by omega
      have HT : Hid (r = V) := by show _ = _; rw [HR.out.1]; exact HV.out
      go_wp2
      go_ret
      exact ⟨by rw [HT.out]; rfl, HR.out.2⟩
    have hmn' : (m : Int) < (n : Int) := by omega
    obtain ⟨b1, o1, rfl, hbl1, p1⟩ := HS.out.at m hmn
    replace p1 := p1.of (w' := wr) (fun j => HR.out.2.cell (p := ⟨b1, j, none⟩) hbl1)
    obtain ⟨x, HX⟩ : ∃ x, Hid (xs.getD m ev0 = x) := ⟨_, rfl⟩
    have HY : Hid (inr x.2.1 0 50000 = true → r + x.2.1 = busN xs (m + 1)) := fun h => by rw [bus_yes HX.out h, HR.out.1]
    have HZ : Hid (inr x.2.1 0 50000 = false → r = busN xs (m + 1)) := fun h => by rw [bus_no HX.out h, HR.out.1]
    have HI : Hid (inr x.2.1 0 50000 = true → 0 ≤ x.2.1 ∧ x.2.1 ≤ 50000) := of_inr
    simp only [evX] at p1
    rw [HX.out] at p1
    obtain ⟨c0, c1, c2, c3, c4, c5, c6⟩ := ev_cells p1
    have HF : Hid (∀ X, Calls Try.prog 18 #[.int .i64 x.2.1] X fun e w' => e = .returned (.bool (inr x.2.1 0 50000)) ∧ w' = X) := fun X => is_cyc _ X
    obtain ⟨q, Q⟩ : ∃ q, Hid (inr x.2.1 0 50000 = q) := ⟨_, rfl⟩
    rw [Q.out] at HF HY HZ HI
    obtain ⟨x1, x2, x3, x4, x5, x6, x7⟩ := x
    simp only at c0 c1 c2 c3 c4 c5 c6 HF HY HZ HI
    clear p1 hbl1 HX Q
    have HB0 : Hid (Below w.heap.size w (wr.alloc (.cells #[.int .i64 x1, .int .i64 x2, .int .u32 x3, .int .i64 x4, .int .i64 x5, .int .i64 x6, .int .u32 x7] 34))) := HR.out.2.alloc HR.out.2.size _
    cases q
    · have HT : Hid (r = busN xs (m + 1)) := HZ.out rfl
      clear HY HZ HI HR
      go_wp2_with (first | (go_at_call 18; refine (HF.out _).mono ?_; rintro u w1 ⟨rfl, rfl⟩))
      go_roundw
      case rel => exact ⟨m + 1, r, by omega, by omega, by omega, by go_num, rfl, HT.out, HB0.out⟩
      case measure => simp [intOf]; omega
    · have HT : Hid (r + x2 = busN xs (m + 1)) := HY.out rfl
      have hi := HI.out rfl
      obtain ⟨hi0, hi1⟩ := hi
      have hwr : IntKind.i64.wrap (r + x2) = r + x2 := by rw [IntKind.wrap_i64]; omega
      clear HY HZ HI HR
      go_wp2_with (first | (go_at_call 18; refine (HF.out _).mono ?_; rintro u w1 ⟨rfl, rfl⟩))
      go_roundw
      case rel => exact ⟨m + 1, r + x2, by omega, by omega, by omega, by go_num, by go_num, HT.out, HB0.out⟩
      case measure => simp [intOf]; omega
end Go.Proofs.Ythffggccahnnkaa
