
/-
  The clock behind a list of commands, on plain numbers; the specification and the program tell the same. Conditions: lists are at most as long as 64 bits count.
-/
import Derived.Test.YtnfafffglfkhiaaBas
import Derived.Test.YtnfafffglfkhiaaCms
namespace Go.Proofs.Ytnfafffglfkhiaa
open Go.ChangeShapes Go.WideShapes Go.ChangeAt Go.RowKit Go.Deep Go.Joins
set_option linter.unusedVariables false

def cmGo (v : Int) (x : cmT) : Prop := x.1 = 0 ∧ 0 ≤ x.2.1 ∧ x.2.1 ≤ 50000 - v
instance (v : Int) (x : cmT) : Decidable (cmGo v x) := by unfold cmGo; infer_instance
def clkN (xs : List cmT) : Nat → Int
  | 0 => 0
  | m + 1 => if cmGo (clkN xs m) (xs.getD m cm0) then clkN xs m + (xs.getD m cm0).2.1 else clkN xs m
def clkV (xs : List cmT) (n : Nat) : Int := if n ≤ 300 then clkN xs n else 0
theorem clk_yes {xs : List cmT} {m : Nat} {x : cmT} {v : Int} (hx : xs.getD m cm0 = x) (hv : v = clkN xs m) (h : cmGo v x) : v + x.2.1 = clkN xs (m + 1) := by
  rw [clkN, hx, ← hv, if_pos h]
theorem clk_no {xs : List cmT} {m : Nat} {x : cmT} {v : Int} (hx : xs.getD m cm0 = x) (hv : v = clkN xs m) (h : ¬ cmGo v x) : v = clkN xs (m + 1) := by
  rw [clkN, hx, ← hv, if_neg h]
def rcV (v x : Int) : Int := if x < 0 then 2 else if 50000 - v < x then 1 else 0
theorem run_code (v x : Int) (h0 : 0 ≤ v) (h1 : v ≤ 50000) (w : World) : Calls Try.prog 10 #[.int .i64 v, .int .i64 x] w fun e w' => e = .returned (.int .i64 (rcV v x)) ∧ w' = w := by
  have hw : IntKind.i64.wrap (50000 - v) = 50000 - v := by rw [IntKind.wrap_i64]; omega
  by_cases a : x < 0
  · have HV : rcV v x = 2 := by unfold rcV; rw [if_pos a]
    rw [HV]
    go_enter Try.func10, Try.ntmps10
    go_wp2
    go_ret
    exact ⟨rfl, rfl⟩
  · by_cases b : 50000 - v < x
    · have HV : rcV v x = 1 := by unfold rcV; rw [if_neg a, if_pos b]
      rw [HV]
      go_enter Try.func10, Try.ntmps10
      go_wp2
      go_ret
      exact ⟨rfl, rfl⟩
    · have HV : rcV v x = 0 := by unfold rcV; rw [if_neg a, if_neg b]
      rw [HV]
      go_enter Try.func10, Try.ntmps10
      go_wp2
      go_ret
      exact ⟨rfl, rfl⟩
set_option maxRecDepth 20000 in
set_option maxHeartbeats 4000000 in
theorem spec_clk (a : Option Addr) (cap n : Nat) (xs : List cmT) (w : World) (hs : GSeg 3 w a n (cmX xs)) (hn : n ≤ 9223372036854775807) :
    Calls Try.prog 5 #[.slice a n cap] w fun e w' => e = .returned (.int .i64 (clkV xs n)) ∧ Below w.heap.size w w' := by
  have HS : Hid (GSeg 3 w a n (cmX xs)) := hs
  clear hs
  by_cases hN : n ≤ 300
  rotate_left
  · have hN' : (300 : Int) < (n : Int) := by omega
    have HV : Hid (clkV xs n = 0) := by show _ = _; unfold clkV; rw [if_neg hN]
    rw [HV.out]
    go_enter Try.func5, Try.ntmps5
    go_wp2
    go_ret
    exact ⟨rfl, Below.refl _ _⟩
  have hN' : ¬ ((300 : Int) < (n : Int)) := by omega
  have HV : Hid (clkV xs n = clkN xs n) := by show _ = _; unfold clkV; rw [if_pos hN]
  obtain ⟨V, HVV⟩ : ∃ V : Int, Hid (clkV xs n = V) := ⟨_, rfl⟩
  rw [HVV.out]
  replace HV : Hid (clkN xs n = V) := HV.out.symm.trans HVV.out
  clear HVV
  go_enter Try.func5, Try.ntmps5
  go_wp2
  go_loopw [3, 4] (fun c i wr => ∃ (m : Nat) (v : Int), m ≤ n ∧ 0 ≤ v ∧ v ≤ 50000 ∧ i = .int .i64 m ∧ c = .int .i64 v ∧ Hid (v = clkN xs m ∧ Below w.heap.size w wr)) (fun _ i _ => n - (intOf i).toNat)
  case atStart => exact ⟨0, 0, by omega, by omega, by omega, rfl, rfl, rfl, Below.refl _ _⟩
  case round =>
    obtain ⟨m, v, hm, hv0, hv1, rfl, rfl, HR⟩ := hrel
    by_cases hmn : m < n
    rotate_left
    · obtain rfl : m = n := by omega
      have HT : Hid (v = V) := by show _ = _; rw [HR.out.1]; exact HV.out
      go_wp2
      go_ret
      exact ⟨by rw [HT.out]; rfl, HR.out.2⟩
    have hmn' : (m : Int) < (n : Int) := by omega
    have hw : IntKind.i64.wrap (50000 - v) = 50000 - v := by rw [IntKind.wrap_i64]; omega
    obtain ⟨b1, o1, rfl, hbl1, p1⟩ := HS.out.at m hmn
    replace p1 := p1.of (w' := wr) (fun j => HR.out.2.cell (p := ⟨b1, j, none⟩) hbl1)
    obtain ⟨x, HX⟩ : ∃ x, Hid (xs.getD m cm0 = x) := ⟨_, rfl⟩
    have HY : Hid (cmGo v x → v + x.2.1 = clkN xs (m + 1)) := fun h => clk_yes HX.out HR.out.1 h
    have HZ : Hid (¬ cmGo v x → v = clkN xs (m + 1)) := fun h => clk_no HX.out HR.out.1 h
    simp only [cmX] at p1
    rw [HX.out] at p1
    obtain ⟨c0, c1, c2⟩ := cm_cells p1
    obtain ⟨x1, x2, x3⟩ := x
    simp only [cmGo] at c0 c1 c2 HY HZ
    clear p1 hbl1 HX
    have HB0 : Hid (Below w.heap.size w wr) := HR.out.2
    clear HR
    by_cases h1 : x1 = 0
    rotate_left
    · have HT : Hid (v = clkN xs (m + 1)) := HZ.out (fun h => h1 h.1)
      have hq : (x1 == 0) = false := by simpa using h1
      clear HY HZ
      go_wp2
      go_roundw
      case rel => exact ⟨m + 1, v, by omega, by omega, by omega, by go_num, by go_num, HT.out, HB0.out⟩
      case measure => simp [intOf]; omega
    subst h1
    by_cases h2 : x2 < 0
    · have HT : Hid (v = clkN xs (m + 1)) := HZ.out (fun h => by have := h.2.1; omega)
      have h2' : ¬ (0 ≤ x2) := by omega
      clear HY HZ
      go_wp2
      go_roundw
      case rel => exact ⟨m + 1, v, by omega, by omega, by omega, by go_num, by go_num, HT.out, HB0.out⟩
      case measure => simp [intOf]; omega
    by_cases h3 : x2 ≤ 50000 - v
    rotate_left
    · have HT : Hid (v = clkN xs (m + 1)) := HZ.out (fun h => h3 h.2.2)
      have h2' : 0 ≤ x2 := by omega
      clear HY HZ
      go_wp2
      go_roundw
      case rel => exact ⟨m + 1, v, by omega, by omega, by omega, by go_num, by go_num, HT.out, HB0.out⟩
      case measure => simp [intOf]; omega
    · have h2' : 0 ≤ x2 := by omega
      have HT : Hid (v + x2 = clkN xs (m + 1)) := HY.out ⟨rfl, h2', h3⟩
      have hwr : IntKind.i64.wrap (v + x2) = v + x2 := by rw [IntKind.wrap_i64]; omega
      clear HY HZ
      go_wp2
      go_roundw
      case rel => exact ⟨m + 1, v + x2, by omega, by omega, by omega, by go_num, by go_num, HT.out, HB0.out⟩
      case measure => simp [intOf]; omega
set_option maxRecDepth 20000 in
set_option maxHeartbeats 4000000 in
theorem impl_clk (a : Option Addr) (cap n : Nat) (xs : List cmT) (w : World) (hs : GSeg 3 w a n (cmX xs)) (hn : n ≤ 9223372036854775807) :
    Calls Try.prog 7 #[.slice a n cap] w fun e w' => e = .returned (.int .i64 (clkV xs n)) ∧ Below w.heap.size w w' := by
  have HS : Hid (GSeg 3 w a n (cmX xs)) := hs
  clear hs
  by_cases hN : n ≤ 300
  rotate_left
  · have hN' : (300 : Int) < (n : Int) := by omega
    have HV : Hid (clkV xs n = 0) := by show _ = _; unfold clkV; rw [if_neg hN]
    rw [HV.out]
    go_enter Try.func7, Try.ntmps7
    go_wp2
    go_ret
    exact ⟨rfl, Below.refl _ _⟩
  have hN' : ¬ ((300 : Int) < (n : Int)) := by omega
  have HV : Hid (clkV xs n = clkN xs n) := by show _ = _; unfold clkV; rw [if_pos hN]
  obtain ⟨V, HVV⟩ : ∃ V : Int, Hid (clkV xs n = V) := ⟨_, rfl⟩
  rw [HVV.out]
  replace HV : Hid (clkN xs n = V) := HV.out.symm.trans HVV.out
  clear HVV
  go_enter Try.func7, Try.ntmps7
  go_wp2
  go_loopw [3, 11] (fun c i wr => ∃ (m : Nat) (v : Int), m ≤ n ∧ 0 ≤ v ∧ v ≤ 50000 ∧ i = .int .i64 m ∧ c = .int .i64 v ∧ Hid (v = clkN xs m ∧ Below w.heap.size w wr)) (fun _ i _ => n - (intOf i).toNat)
  case atStart => exact ⟨0, 0, by omega, by omega, by omega, rfl, rfl, rfl, Below.refl _ _⟩
  case round =>
    obtain ⟨m, v, hm, hv0, hv1, rfl, rfl, HR⟩ := hrel
    by_cases hmn : m < n
    rotate_left
    · obtain rfl : m = n := by omega
      have HT : Hid (v = V) := by show _ = _; rw [HR.out.1]; exact HV.out
      go_wp2
      go_ret
      exact ⟨by rw [HT.out]; rfl, HR.out.2⟩
    have hmn' : (m : Int) < (n : Int) := by omega
    have hw : IntKind.i64.wrap (50000 - v) = 50000 - v := by rw [IntKind.wrap_i64]; omega
    obtain ⟨b1, o1, rfl, hbl1, p1⟩ := HS.out.at m hmn
    replace p1 := p1.of (w' := wr) (fun j => HR.out.2.cell (p := ⟨b1, j, none⟩) hbl1)
    obtain ⟨x, HX⟩ : ∃ x, Hid (xs.getD m cm0 = x) := ⟨_, rfl⟩
    have HY : Hid (cmGo v x → v + x.2.1 = clkN xs (m + 1)) := fun h => clk_yes HX.out HR.out.1 h
    have HZ : Hid (¬ cmGo v x → v = clkN xs (m + 1)) := fun h => clk_no HX.out HR.out.1 h
    simp only [cmX] at p1
    rw [HX.out] at p1
    obtain ⟨c0, c1, c2⟩ := cm_cells p1
    have HF : Hid (∀ X, Calls Try.prog 10 #[.int .i64 v, .int .i64 x.2.1] X fun e w' => e = .returned (.int .i64 (rcV v x.2.1)) ∧ w' = X) := fun X => run_code v x.2.1 hv0 hv1 X
    obtain ⟨x1, x2, x3⟩ := x
    simp only [cmGo] at c0 c1 c2 HY HZ HF
    clear p1 hbl1 HX
    have HB0 : Hid (Below w.heap.size w (wr.alloc (.cells #[.int .i64 x1, .int .i64 x2, .int .u32 x3] 31))) := HR.out.2.alloc HR.out.2.size _
    clear HR
    by_cases h1 : x1 = 0
    rotate_left
    · have HT : Hid (v = clkN xs (m + 1)) := HZ.out (fun h => h1 h.1)
      have hq : (x1 == 0) = false := by simpa using h1
      clear HY HZ
      go_wp2_with (first | (go_at_call 10; refine (HF.out _).mono ?_; rintro u w1 ⟨rfl, rfl⟩))
      go_roundw
      case rel => exact ⟨m + 1, v, by omega, by omega, by omega, by go_num, by go_num, HT.out, HB0.out⟩
      case measure => simp [intOf]; omega
    subst h1
    by_cases h2 : x2 < 0
    · have HT : Hid (v = clkN xs (m + 1)) := HZ.out (fun h => by have := h.2.1; omega)
      have h2' : ¬ (0 ≤ x2) := by omega
      clear HY HZ
      have hrc : rcV v x2 = 2 := by unfold rcV; rw [if_pos h2]
      rw [hrc] at HF
      clear hrc
      go_wp2_with (first | (go_at_call 10; refine (HF.out _).mono ?_; rintro u w1 ⟨rfl, rfl⟩))
      go_roundw
      case rel => exact ⟨m + 1, v, by omega, by omega, by omega, by go_num, by go_num, HT.out, HB0.out⟩
      case measure => simp [intOf]; omega
    by_cases h3 : x2 ≤ 50000 - v
    rotate_left
    · have HT : Hid (v = clkN xs (m + 1)) := HZ.out (fun h => h3 h.2.2)
      have h2' : 0 ≤ x2 := by omega
      clear HY HZ
      have hrc : rcV v x2 = 1 := by unfold rcV; rw [if_neg h2, if_pos (by omega)]
      rw [hrc] at HF
      clear hrc
      go_wp2_with (first | (go_at_call 10; refine (HF.out _).mono ?_; rintro u w1 ⟨rfl, rfl⟩))
      go_roundw
      case rel => exact ⟨m + 1, v, by omega, by omega, by omega, by go_num, by go_num, HT.out, HB0.out⟩
      case measure => simp [intOf]; omega
    · have h2' : 0 ≤ x2 := by omega
      have HT : Hid (v + x2 = clkN xs (m + 1)) := HY.out ⟨rfl, h2', h3⟩
      have hwr : IntKind.i64.wrap (v + x2) = v + x2 := by rw [IntKind.wrap_i64]; omega
      clear HY HZ
      have hrc : rcV v x2 = 0 := by unfold rcV; rw [if_neg h2, if_neg (by omega)]
      rw [hrc] at HF
      clear hrc
      go_wp2_with (first | (go_at_call 10; refine (HF.out _).mono ?_; rintro u w1 ⟨rfl, rfl⟩))
      go_roundw
      case rel => exact ⟨m + 1, v + x2, by omega, by omega, by omega, by go_num, by go_num, HT.out, HB0.out⟩
      case measure => simp [intOf]; omega
end Go.Proofs.Ytnfafffglfkhiaa
