
/-
  The cycles that the spans of a list have with a part and a phase, on plain numbers; the specification and the program tell the same. Conditions: lists are at most as long as 64 bits count.
-/
import Derived.Test.YtphdijkpjjokaaaBas
import Derived.Test.YtphdijkpjjokaaaSps
namespace Go.Proofs.Ytphdijkpjjokaaa
open Go.ChangeShapes Go.WideShapes Go.ChangeAt Go.RowKit Go.Deep Go.Joins
set_option linter.unusedVariables false

def saIn (p q : Int) (x : saT) : Prop := x.2.2.1 = p ∧ x.2.2.2 = q ∧ 0 ≤ x.1 ∧ x.1 ≤ x.2.1 ∧ x.2.1 ≤ 50000
instance (p q : Int) (x : saT) : Decidable (saIn p q x) := by unfold saIn; infer_instance
def smN (xs : List saT) (p q : Int) : Nat → Int
  | 0 => 0
  | m + 1 => if saIn p q (xs.getD m sa0) then smN xs p q m + (xs.getD m sa0).2.1 - (xs.getD m sa0).1 else smN xs p q m
def smV (xs : List saT) (p q : Int) (n : Nat) : Int := if n ≤ 5000 then smN xs p q n else 0
theorem sm_yes {xs : List saT} {p q : Int} {m : Nat} {x : saT} {v : Int} (hx : xs.getD m sa0 = x) (hv : v = smN xs p q m) (h : saIn p q x) : v + x.2.1 - x.1 = smN xs p q (m + 1) := by
  rw [smN, hx, ← hv, if_pos h]
theorem sm_no {xs : List saT} {p q : Int} {m : Nat} {x : saT} {v : Int} (hx : xs.getD m sa0 = x) (hv : v = smN xs p q m) (h : ¬ saIn p q x) : v = smN xs p q (m + 1) := by
  rw [smN, hx, ← hv, if_neg h]
theorem is_cyc (x : Int) (w : World) : Calls Try.prog 13 #[.int .i64 x] w fun e w' => e = .returned (.bool (inr x 0 50000)) ∧ w' = w := by
  by_cases h1 : 0 ≤ x
  · by_cases h2 : x ≤ 50000
    · rw [inr_yes ⟨h1, h2⟩]
      go_enter Try.func13, Try.ntmps13
      go_wp2
      go_ret
      exact ⟨rfl, rfl⟩
    · rw [inr_no (fun g => h2 g.2)]
      go_enter Try.func13, Try.ntmps13
      go_wp2
      go_ret
      exact ⟨rfl, rfl⟩
  · rw [inr_no (fun g => h1 g.1)]
    go_enter Try.func13, Try.ntmps13
    go_wp2
    go_ret
    exact ⟨rfl, rfl⟩
set_option maxRecDepth 20000 in
theorem is_within (x1 x2 x3 x4 : Int) (w : World) : Calls Try.prog 11 #[.agg #[.int .i64 x1, .int .i64 x2, .int .i64 x3, .int .i64 x4]] w fun e w' => e = .returned (.bool (inr x1 0 50000 && inr x2 0 50000)) ∧ Below w.heap.size w w' := by
  have HF : Hid (∀ (x : Int) (X : World), Calls Try.prog 13 #[.int .i64 x] X fun e w' => e = .returned (.bool (inr x 0 50000)) ∧ w' = X) := is_cyc
  by_cases h1 : 0 ≤ x1 ∧ x1 ≤ 50000
  rotate_left
  · have k1 := inr_no h1
    rw [k1, Bool.false_and]
    clear h1
    go_enter Try.func11, Try.ntmps11
    go_wp2_with (first | (go_at_call 13; refine (HF.out _ _).mono ?_; rintro u w1 ⟨rfl, rfl⟩; rw [k1]))
    go_ret
    exact ⟨rfl, (Below.refl _ _).alloc (Nat.le_refl _) _⟩
  have k1 := inr_yes h1
  obtain ⟨q2, k2⟩ : ∃ q, inr x2 0 50000 = q := ⟨_, rfl⟩
  rw [k1, k2, Bool.true_and]
  clear h1
  go_enter Try.func11, Try.ntmps11
  go_wp2_with (first | (go_at_call 13; refine (HF.out _ _).mono ?_; rintro u w1 ⟨rfl, rfl⟩; first | rw [k1] | rw [k2]))
  go_ret
  exact ⟨rfl, (Below.refl _ _).alloc (Nat.le_refl _) _⟩
set_option maxRecDepth 20000 in
set_option maxHeartbeats 8000000 in
theorem spec_sum (a : Option Addr) (cap n : Nat) (xs : List saT) (p q : Int) (w : World) (hs : GSeg 4 w a n (saX xs)) (hn : n ≤ 9223372036854775807) :
    Calls Try.prog 5 #[.slice a n cap, .int .i64 p, .int .i64 q] w fun e w' => e = .returned (.int .i64 (smV xs p q n)) ∧ Below w.heap.size w w' := by
  have HS : Hid (GSeg 4 w a n (saX xs)) := hs
  clear hs
  by_cases hN : n ≤ 5000
  rotate_left
  · have hN' : (5000 : Int) < (n : Int) := by omega
    have HV : Hid (smV xs p q n = 0) := by show _ = _; unfold smV; rw [if_neg hN]
    rw [HV.out]
    go_enter Try.func5, Try.ntmps5
    go_wp2
    go_ret
    exact ⟨rfl, Below.refl _ _⟩
  have hN' : ¬ ((5000 : Int) < (n : Int)) := by omega
  have HV : Hid (smV xs p q n = smN xs p q n) := by show _ = _; unfold smV; rw [if_pos hN]
  obtain ⟨V, HVV⟩ : ∃ V : Int, Hid (smV xs p q n = V) := ⟨_, rfl⟩
  rw [HVV.out]
  replace HV : Hid (smN xs p q n = V) := HV.out.symm.trans HVV.out
  clear HVV
  go_enter Try.func5, Try.ntmps5
  go_wp2
  go_loopw [7, 8] (fun c i wr => ∃ (m : Nat) (v : Int), m ≤ n ∧ 0 ≤ v ∧ v ≤ 50000 * (m : Int) ∧ i = .int .i64 m ∧ c = .int .i64 v ∧ Hid (v = smN xs p q m ∧ Below w.heap.size w wr)) (fun _ i _ => n - (intOf i).toNat)
  case atStart => exact ⟨0, 0, by omega, by omega, by omega, rfl, rfl, rfl, Below.refl _ _⟩
  case round =>
    obtain ⟨m, v, hm, hv0, hv1, rfl, rfl, HR⟩ := hrel
    by_cases hmn : m < n
    rotate_left
    · obtain rfl : m = n := by omega
      have HT : Hid (v = V) := by show _ = _; rw [HR.out.1]; exact HV.out
      go_wp2
      go_ret
      exact ⟨by rw [HT.out]; rfl, HR.out.2⟩
    have hmn' : (m : Int) < (n : Int) := by omega
    obtain ⟨b1, o1, rfl, hbl1, p1⟩ := HS.out.at m hmn
    replace p1 := p1.of (w' := wr) (fun j => HR.out.2.cell (p := ⟨b1, j, none⟩) hbl1)
    obtain ⟨x, HX⟩ : ∃ x, Hid (xs.getD m sa0 = x) := ⟨_, rfl⟩
    have HY : Hid (saIn p q x → v + x.2.1 - x.1 = smN xs p q (m + 1)) := fun h => sm_yes HX.out HR.out.1 h
    have HZ : Hid (¬ saIn p q x → v = smN xs p q (m + 1)) := fun h => sm_no HX.out HR.out.1 h
    simp only [saX] at p1
    rw [HX.out] at p1
    obtain ⟨c0, c1, c2, c3⟩ := sa_cells p1
    obtain ⟨x1, x2, x3, x4⟩ := x
    simp only [saIn] at c0 c1 c2 c3 HY HZ
    clear p1 hbl1 HX
    have HB0 : Hid (Below w.heap.size w (wr.alloc (.cells #[.int .i64 x1, .int .i64 x2, .int .i64 x3, .int .i64 x4] 30))) := HR.out.2.alloc HR.out.2.size _
    clear HR
    by_cases h3 : x3 = p
    rotate_left
    · have HT : Hid (v = smN xs p q (m + 1)) := HZ.out (fun h => h3 h.1)
      have hq : (x3 == p) = false := by simpa using h3
      clear HY HZ
      go_wp2_with (first | fail)
      go_roundw
      case rel => exact ⟨m + 1, v, by omega, by omega, by omega, by go_num, by go_num, HT.out, HB0.out⟩
      case measure => simp [intOf]; omega
    by_cases h4 : x4 = q
    rotate_left
    · have HT : Hid (v = smN xs p q (m + 1)) := HZ.out (fun h => h4 h.2.1)
      have hq : (x4 == q) = false := by simpa using h4
      have hq3 : (x3 == p) = true := by simpa using h3
      clear HY HZ h3
      go_wp2_with (first | fail)
      go_roundw
      case rel => exact ⟨m + 1, v, by omega, by omega, by omega, by go_num, by go_num, HT.out, HB0.out⟩
      case measure => simp [intOf]; omega
    have hq3 : (x3 == p) = true := by simpa using h3
    have hq4 : (x4 == q) = true := by simpa using h4
    by_cases h5 : 0 ≤ x1 ∧ x1 ≤ 50000
    rotate_left
    · have HT : Hid (v = smN xs p q (m + 1)) := HZ.out (fun h => h5 ⟨h.2.2.1, by have := h.2.2.2; omega⟩)
      have HA : Hid (∀ (x a b : Int) (X : World), Calls Try.prog 9 #[.int .i64 x, .int .i64 a, .int .i64 b] X fun e w' => e = .returned (.bool (inr x a b)) ∧ w' = X) := in_any
      have k1 := inr_no h5
      clear HY HZ h3 h4 h5
      go_wp2_with (first | (go_at_call 9; refine (HA.out _ _ _ _).mono ?_; rintro u w1 ⟨rfl, rfl⟩; rw [k1]) | fail)
      go_roundw
      case rel => exact ⟨m + 1, v, by omega, by omega, by omega, by go_num, by go_num, HT.out, HB0.out⟩
      case measure => simp [intOf]; omega
    have HA : Hid (∀ (x a b : Int) (X : World), Calls Try.prog 9 #[.int .i64 x, .int .i64 a, .int .i64 b] X fun e w' => e = .returned (.bool (inr x a b)) ∧ w' = X) := in_any
    have k1 := inr_yes h5
    by_cases h6 : x1 ≤ x2 ∧ x2 ≤ 50000
    rotate_left
    · have HT : Hid (v = smN xs p q (m + 1)) := HZ.out (fun h => h6 h.2.2.2)
      have k2 := inr_no h6
      clear HY HZ h3 h4 h5 h6
      go_wp2_with (first | (go_at_call 9; refine (HA.out _ _ _ _).mono ?_; rintro u w1 ⟨rfl, rfl⟩; first | rw [k1] | rw [k2]) | fail)
      go_roundw
      case rel => exact ⟨m + 1, v, by omega, by omega, by omega, by go_num, by go_num, HT.out, HB0.out⟩
      case measure => simp [intOf]; omega
    · have HT : Hid (v + x2 - x1 = smN xs p q (m + 1)) := HY.out ⟨h3, h4, h5.1, h6.1, h6.2⟩
      have k2 := inr_yes h6
      have hw1 : IntKind.i64.wrap (v + x2) = v + x2 := by rw [IntKind.wrap_i64]; omega
      have hw2 : IntKind.i64.wrap (v + x2 - x1) = v + x2 - x1 := by rw [IntKind.wrap_i64]; omega
      have h51 : 0 ≤ x1 := h5.1
      have h52 : x2 ≤ 50000 := h6.2
      have h53 : x1 ≤ x2 := h6.1
      clear HY HZ h3 h4 h5 h6
      go_wp2_with (first | (go_at_call 9; refine (HA.out _ _ _ _).mono ?_; rintro u w1 ⟨rfl, rfl⟩; first | rw [k1] | rw [k2]) | fail)
      go_roundw
      case rel => exact ⟨m + 1, v + x2 - x1, by omega, by omega, by omega, by go_num, by go_num, HT.out, HB0.out⟩
      case measure => simp [intOf]; omega
set_option maxRecDepth 20000 in
set_option maxHeartbeats 8000000 in
theorem impl_sum (a : Option Addr) (cap n : Nat) (xs : List saT) (p q : Int) (w : World) (hs : GSeg 4 w a n (saX xs)) (hn : n ≤ 9223372036854775807) :
    Calls Try.prog 7 #[.slice a n cap, .int .i64 p, .int .i64 q] w fun e w' => e = .returned (.int .i64 (smV xs p q n)) ∧ Below w.heap.size w w' := by
  have HS : Hid (GSeg 4 w a n (saX xs)) := hs
  clear hs
  by_cases hN : n ≤ 5000
  rotate_left
  · have hN' : (5000 : Int) < (n : Int) := by omega
    have HV : Hid (smV xs p q n = 0) := by show _ = _; unfold smV; rw [if_neg hN]
    rw [HV.out]
    go_enter Try.func7, Try.ntmps7
    go_wp2
    go_ret
    exact ⟨rfl, Below.refl _ _⟩
  have hN' : ¬ ((5000 : Int) < (n : Int)) := by omega
  have HV : Hid (smV xs p q n = smN xs p q n) := by show _ = _; unfold smV; rw [if_pos hN]
  obtain ⟨V, HVV⟩ : ∃ V : Int, Hid (smV xs p q n = V) := ⟨_, rfl⟩
  rw [HVV.out]
  replace HV : Hid (smN xs p q n = V) := HV.out.symm.trans HVV.out
  clear HVV
  go_enter Try.func7, Try.ntmps7
  go_wp2
  go_loopw [7, 15] (fun c i wr => ∃ (m : Nat) (v : Int), m ≤ n ∧ 0 ≤ v ∧ v ≤ 50000 * (m : Int) ∧ i = .int .i64 m ∧ c = .int .i64 v ∧ Hid (v = smN xs p q m ∧ Below w.heap.size w wr)) (fun _ i _ => n - (intOf i).toNat)
  case atStart => exact ⟨0, 0, by omega, by omega, by omega, rfl, rfl, rfl, Below.refl _ _⟩
  case round =>
    obtain ⟨m, v, hm, hv0, hv1, rfl, rfl, HR⟩ := hrel
    by_cases hmn : m < n
    rotate_left
    · obtain rfl : m = n := by omega
      have HT : Hid (v = V) := by show _ = _; rw [HR.out.1]; exact HV.out
      go_wp2
      go_ret
      exact ⟨by rw [HT.out]; rfl, HR.out.2⟩
    have hmn' : (m : Int) < (n : Int) := by omega
    obtain ⟨b1, o1, rfl, hbl1, p1⟩ := HS.out.at m hmn
    replace p1 := p1.of (w' := wr) (fun j => HR.out.2.cell (p := ⟨b1, j, none⟩) hbl1)
    obtain ⟨x, HX⟩ : ∃ x, Hid (xs.getD m sa0 = x) := ⟨_, rfl⟩
    have HY : Hid (saIn p q x → v + x.2.1 - x.1 = smN xs p q (m + 1)) := fun h => sm_yes HX.out HR.out.1 h
    have HZ : Hid (¬ saIn p q x → v = smN xs p q (m + 1)) := fun h => sm_no HX.out HR.out.1 h
    simp only [saX] at p1
    rw [HX.out] at p1
    obtain ⟨c0, c1, c2, c3⟩ := sa_cells p1
    obtain ⟨x1, x2, x3, x4⟩ := x
    simp only [saIn] at c0 c1 c2 c3 HY HZ
    clear p1 hbl1 HX
    have HB0 : Hid (Below w.heap.size w (wr.alloc (.cells #[.int .i64 x1, .int .i64 x2, .int .i64 x3, .int .i64 x4] 30))) := HR.out.2.alloc HR.out.2.size _
    clear HR
    by_cases h3 : x3 = p
    rotate_left
    · have HT : Hid (v = smN xs p q (m + 1)) := HZ.out (fun h => h3 h.1)
      have hq : (x3 == p) = false := by simpa using h3
      clear HY HZ
      go_wp2_with (first | (go_at_call 11; refine (HW.out _).mono ?_; rintro u w1 ⟨rfl, hbw⟩; have k0 : w1.cell? ⟨wr.heap.size, 0, none⟩ = some (.int .i64 x1) := (hbw.cell (p := ⟨wr.heap.size, 0, none⟩) (by simp)).trans (new_cell wr #[.int .i64 x1, .int .i64 x2, .int .i64 x3, .int .i64 x4] 30 0 _ rfl); have k1 : w1.cell? ⟨wr.heap.size, 1, none⟩ = some (.int .i64 x2) := (hbw.cell (p := ⟨wr.heap.size, 1, none⟩) (by simp)).trans (new_cell wr #[.int .i64 x1, .int .i64 x2, .int .i64 x3, .int .i64 x4] 30 1 _ rfl); have HBW : Hid (Below w.heap.size w w1) := HB0.out.trans (hbw.mono HB0.out.size); clear hbw) | fail)
      go_roundw
      case rel => exact ⟨m + 1, v, by omega, by omega, by omega, by go_num, by go_num, HT.out, HB0.out⟩
      case measure => simp [intOf]; omega
    by_cases h4 : x4 = q
    rotate_left
    · have HT : Hid (v = smN xs p q (m + 1)) := HZ.out (fun h => h4 h.2.1)
      have hq : (x4 == q) = false := by simpa using h4
      have hq3 : (x3 == p) = true := by simpa using h3
      clear HY HZ h3
      go_wp2_with (first | (go_at_call 11; refine (HW.out _).mono ?_; rintro u w1 ⟨rfl, hbw⟩; have k0 : w1.cell? ⟨wr.heap.size, 0, none⟩ = some (.int .i64 x1) := (hbw.cell (p := ⟨wr.heap.size, 0, none⟩) (by simp)).trans (new_cell wr #[.int .i64 x1, .int .i64 x2, .int .i64 x3, .int .i64 x4] 30 0 _ rfl); have k1 : w1.cell? ⟨wr.heap.size, 1, none⟩ = some (.int .i64 x2) := (hbw.cell (p := ⟨wr.heap.size, 1, none⟩) (by simp)).trans (new_cell wr #[.int .i64 x1, .int .i64 x2, .int .i64 x3, .int .i64 x4] 30 1 _ rfl); have HBW : Hid (Below w.heap.size w w1) := HB0.out.trans (hbw.mono HB0.out.size); clear hbw) | fail)
      go_roundw
      case rel => exact ⟨m + 1, v, by omega, by omega, by omega, by go_num, by go_num, HT.out, HB0.out⟩
      case measure => simp [intOf]; omega
    have hq3 : (x3 == p) = true := by simpa using h3
    have hq4 : (x4 == q) = true := by simpa using h4
    by_cases h5 : (0 ≤ x1 ∧ x1 ≤ 50000) ∧ (0 ≤ x2 ∧ x2 ≤ 50000)
    rotate_left
    · have HT : Hid (v = smN xs p q (m + 1)) := HZ.out (fun h => h5 ⟨⟨h.2.2.1, by have := h.2.2.2; omega⟩, by have := h.2.2; omega, h.2.2.2.2⟩)
      have HW : Hid (∀ X, Calls Try.prog 11 #[.agg #[.int .i64 x1, .int .i64 x2, .int .i64 x3, .int .i64 x4]] X fun e w' => e = .returned (.bool false) ∧ Below X.heap.size X w') := fun X => by
        have := is_within x1 x2 x3 x4 X
        rw [show (inr x1 0 50000 && inr x2 0 50000) = false by
          by_cases a : 0 ≤ x1 ∧ x1 ≤ 50000
          · rw [inr_yes a, inr_no (fun b => h5 ⟨a, b⟩)]; rfl
          · rw [inr_no a]; rfl] at this
        exact this
      clear HY HZ h3 h4 h5
      go_wp2_with (first | (go_at_call 11; refine (HW.out _).mono ?_; rintro u w1 ⟨rfl, hbw⟩; have k0 : w1.cell? ⟨wr.heap.size, 0, none⟩ = some (.int .i64 x1) := (hbw.cell (p := ⟨wr.heap.size, 0, none⟩) (by simp)).trans (new_cell wr #[.int .i64 x1, .int .i64 x2, .int .i64 x3, .int .i64 x4] 30 0 _ rfl); have k1 : w1.cell? ⟨wr.heap.size, 1, none⟩ = some (.int .i64 x2) := (hbw.cell (p := ⟨wr.heap.size, 1, none⟩) (by simp)).trans (new_cell wr #[.int .i64 x1, .int .i64 x2, .int .i64 x3, .int .i64 x4] 30 1 _ rfl); have HBW : Hid (Below w.heap.size w w1) := HB0.out.trans (hbw.mono HB0.out.size); clear hbw) | fail)
      go_roundw
      case rel => exact ⟨m + 1, v, by omega, by omega, by omega, by go_num, by go_num, HT.out, HBW.out⟩
      case measure => simp [intOf]; omega
    have HW : Hid (∀ X, Calls Try.prog 11 #[.agg #[.int .i64 x1, .int .i64 x2, .int .i64 x3, .int .i64 x4]] X fun e w' => e = .returned (.bool true) ∧ Below X.heap.size X w') := fun X => by
      have := is_within x1 x2 x3 x4 X
      rw [inr_yes h5.1, inr_yes h5.2] at this
      exact this
    by_cases h6 : x1 ≤ x2
    rotate_left
    · have HT : Hid (v = smN xs p q (m + 1)) := HZ.out (fun h => h6 h.2.2.2.1)
      clear HY HZ h3 h4 h5
      go_wp2_with (first | (go_at_call 11; refine (HW.out _).mono ?_; rintro u w1 ⟨rfl, hbw⟩; have k0 : w1.cell? ⟨wr.heap.size, 0, none⟩ = some (.int .i64 x1) := (hbw.cell (p := ⟨wr.heap.size, 0, none⟩) (by simp)).trans (new_cell wr #[.int .i64 x1, .int .i64 x2, .int .i64 x3, .int .i64 x4] 30 0 _ rfl); have k1 : w1.cell? ⟨wr.heap.size, 1, none⟩ = some (.int .i64 x2) := (hbw.cell (p := ⟨wr.heap.size, 1, none⟩) (by simp)).trans (new_cell wr #[.int .i64 x1, .int .i64 x2, .int .i64 x3, .int .i64 x4] 30 1 _ rfl); have HBW : Hid (Below w.heap.size w w1) := HB0.out.trans (hbw.mono HB0.out.size); clear hbw) | fail)
      go_roundw
      case rel => exact ⟨m + 1, v, by omega, by omega, by omega, by go_num, by go_num, HT.out, HBW.out⟩
      case measure => simp [intOf]; omega
    · have HT : Hid (v + (x2 - x1) = smN xs p q (m + 1)) := by have := HY.out ⟨h3, h4, h5.1.1, h6, h5.2.2⟩; show _ = _; omega
      have hw1 : IntKind.i64.wrap (x2 - x1) = x2 - x1 := by rw [IntKind.wrap_i64]; omega
      have hw2 : IntKind.i64.wrap (v + (x2 - x1)) = v + (x2 - x1) := by rw [IntKind.wrap_i64]; omega
      have h51 : 0 ≤ x1 := h5.1.1
      have h52 : x2 ≤ 50000 := h5.2.2
      clear HY HZ h3 h4 h5
      go_wp2_with (first | (go_at_call 11; refine (HW.out _).mono ?_; rintro u w1 ⟨rfl, hbw⟩; have k0 : w1.cell? ⟨wr.heap.size, 0, none⟩ = some (.int .i64 x1) := (hbw.cell (p := ⟨wr.heap.size, 0, none⟩) (by simp)).trans (new_cell wr #[.int .i64 x1, .int .i64 x2, .int .i64 x3, .int .i64 x4] 30 0 _ rfl); have k1 : w1.cell? ⟨wr.heap.size, 1, none⟩ = some (.int .i64 x2) := (hbw.cell (p := ⟨wr.heap.size, 1, none⟩) (by simp)).trans (new_cell wr #[.int .i64 x1, .int .i64 x2, .int .i64 x3, .int .i64 x4] 30 1 _ rfl); have HBW : Hid (Below w.heap.size w w1) := HB0.out.trans (hbw.mono HB0.out.size); clear hbw) | fail)
      go_roundw
      case rel => exact ⟨m + 1, v + (x2 - x1), by omega, by omega, by omega, by go_num, by go_num, HT.out, HBW.out⟩
      case measure => simp [intOf]; omega
end Go.Proofs.Ytphdijkpjjokaaa
