/-
  The laws' own measure of rows and caches: below 0, or what is left of it. Conditions: lengths are lengths of slices.
-/
import Derived.Test.YtifgmgehnbkbjaaRows
import Derived.Test.YtifgmgehnbkbjaaWeq
namespace Go.Proofs.Ytifgmgehnbkbjaa
open Go.ChangeShapes Go.WideShapes Go.ChangeAt Go.RowKit Go.Deep
set_option linter.unusedVariables false

theorem sz_ways (a : Option Addr) (cap n L : Nat) (w : World) (hn : n ≤ 9223372036854775807) (hL : L ≤ 1048576) :
    Calls Try.prog 89 #[.slice a n cap, .int .i64 (L : Int)] w fun e w' => (∃ r : Int, e = .returned (.int .i64 r) ∧ (r < 0 ∨ (r = ((L - n : Nat) : Int) ∧ n ≤ L))) ∧ w' = w := by
  by_cases h : n ≤ L
  · obtain ⟨d, rfl⟩ : ∃ d, L = n + d := ⟨L - n, by omega⟩
    have hw : IntKind.i64.wrap (((n + d : Nat) : Int) - (n : Int)) = (d : Int) := by rw [show ((n + d : Nat) : Int) - (n : Int) = (d : Int) by omega, IntKind.wrap_i64]; omega
    have h0 : ¬ ((d : Int) < 0) := by omega
    go_enter Try.func89, Try.ntmps89
    go_wp2
    go_ret
    exact ⟨⟨_, rfl, by omega⟩, rfl⟩
  · have hw : IntKind.i64.wrap ((L : Int) - (n : Int)) = (L : Int) - (n : Int) := by rw [IntKind.wrap_i64]; omega
    have h0 : (L : Int) - (n : Int) < 0 := by omega
    go_enter Try.func89, Try.ntmps89
    go_wp2
    go_ret
    exact ⟨⟨_, rfl, .inl (by omega)⟩, rfl⟩
set_option maxHeartbeats 1000000 in
theorem sz_rows (a : Option Addr) (cap n L : Nat) (D : Nat → List Wy) (w : World) (hs : RSeg w a n D) (hn : n ≤ 9223372036854775807) (hD : ∀ i, i < n → (D i).length ≤ 9223372036854775807) (hL : L ≤ 1048576) :
    Calls Try.prog 69 #[.slice a n cap, .int .i64 (L : Int)] w fun e w' => (∃ r : Int, e = .returned (.int .i64 r) ∧ (r < 0 ∨ (0 ≤ r ∧ n ≤ L ∧ tot D n ≤ L))) ∧ w' = w := by
  have HS : Hid _ := And.intro hs hD
  clear hs hD
  by_cases h : n ≤ L
  rotate_left
  · have hw : IntKind.i64.wrap ((L : Int) - (n : Int)) = (L : Int) - (n : Int) := by rw [IntKind.wrap_i64]; omega
    have h0 : (L : Int) - (n : Int) < 0 := by omega
    go_enter Try.func69, Try.ntmps69
    go_wp2
    go_ret
    exact ⟨⟨_, rfl, .inl (by omega)⟩, rfl⟩
  obtain ⟨d, rfl⟩ : ∃ d, L = n + d := ⟨L - n, by omega⟩
  have hw : IntKind.i64.wrap (((n + d : Nat) : Int) - (n : Int)) = (d : Int) := by rw [show ((n + d : Nat) : Int) - (n : Int) = (d : Int) by omega, IntKind.wrap_i64]; omega
  have h0 : ¬ ((d : Int) < 0) := by omega
  go_enter Try.func69, Try.ntmps69
  go_wp2
  go_loopw [1, 5] (fun t i wr => ∃ k e : Nat, k ≤ n ∧ e ≤ d ∧ i = .int .i64 k ∧ t = .int .i64 (e : Int) ∧ wr = w ∧ Hid (e + tot D k = d)) (fun _ i _ => n - (intOf i).toNat)
  case atStart => exact ⟨0, d, by omega, Nat.le_refl _, rfl, congrArg _ (by omega), rfl, rfl⟩
  case round =>
    obtain ⟨k, e, hk, hed, rfl, rfl, rfl, HE⟩ := hrel
    clear hw h0
    by_cases hlt : k < n
    · have hlt' : (k : Int) < (n : Int) := by omega
      obtain ⟨b1, o1, a1, c1, rfl, hbl1, e1, s1⟩ := RSeg.at (w := wr) HS.out.1 k hlt
      have HC : Hid _ := sz_ways a1 c1 (D k).length e wr (HS.out.2 k hlt) (by omega)
      have HT : Hid (tot D (k + 1) = tot D k + (D k).length) := rfl
      generalize (D k).length = len at e1 HC HT
      clear hbl1 s1
      go_wp2_with fail
      refine Calls.mono HC.out ?_
      rintro u w2 ⟨⟨r, rfl, hr⟩, rfl⟩
      rcases hr with hr | ⟨hr, hle⟩
      · go_wp2
        go_ret
        exact ⟨⟨_, rfl, .inl (by omega)⟩, by first | rfl | trivial⟩
      · have hr0 : ¬ (r < 0) := by omega
        have HR : Hid (r = ((e - len : Nat) : Int)) := hr
        have HG : Hid (e - len + tot D (k + 1) = d) := by have h1 := HE.out; have h2 := HT.out; show _ = _; omega
        clear hr HE HT
        go_wp2
        go_roundw
        case rel => exact ⟨k + 1, e - len, by omega, by omega, by go_num, by rw [HR.out], trivial, HG⟩
        case measure => simp [intOf]; omega
    · obtain rfl : k = n := by omega
      go_wp2
      go_ret
      have := HE.out
      exact ⟨⟨_, rfl, .inr ⟨by omega, by omega, by omega⟩⟩, rfl⟩
theorem sz_cache (s y l : Int) (a : Option Addr) (cap n : Nat) (D : Nat → List Wy) (w : World) (hs : RSeg w a n D) (hn : n ≤ 9223372036854775807) (hD : ∀ i, i < n → (D i).length ≤ 9223372036854775807) :
    Calls Try.prog 27 #[cch s y l (.slice a n cap), .int .i64 1048576] w fun e w' => (∃ r : Int, e = .returned (.int .i64 r) ∧ (r < 0 ∨ (0 ≤ r ∧ n ≤ 1048576 ∧ tot D n ≤ 1048576))) ∧ Below w.heap.size w w' := by
  have HS : Hid _ := And.intro hs hD
  clear hs hD
  have hbw := (Below.refl _ w).alloc (Nat.le_refl _) (.cells #[.int .i64 s, .int .i64 y, .int .i64 l, .slice a n cap] 49)
  have HC : Hid _ := sz_rows a cap n 1048576 D _ (RSeg.below HS.out.1 hbw) hn HS.out.2 (Nat.le_refl _)
  have HB : Hid _ := hbw
  clear hbw
  go_enter Try.func27, Try.ntmps27
  go_wp2_with fail
  refine Calls.mono HC.out ?_
  rintro u w2 ⟨⟨r, rfl, hr⟩, rfl⟩
  rcases hr with hr | ⟨hr, h1, h2⟩
  · go_wp2
    go_ret
    exact ⟨⟨_, rfl, .inl (by omega)⟩, HB.out⟩
  · have hr0 : ¬ (r < 0) := by omega
    go_wp2
    go_ret
    exact ⟨⟨_, rfl, .inr ⟨hr, h1, h2⟩⟩, HB.out⟩
end Go.Proofs.Ytifgmgehnbkbjaa
