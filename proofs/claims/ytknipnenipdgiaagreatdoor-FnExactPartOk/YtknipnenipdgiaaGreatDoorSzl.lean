
/-
  The measures of rows of bytes, of guests and of caches: what is left is no more than there was. Conditions: as for the measures themselves.
-/
import Derived.Test.YtknipnenipdgiaaGreatDoorBas
import Derived.Test.YtknipnenipdgiaaGreatDoorProg
import Derived.Test.YtknipnenipdgiaaGreatDoorGsa
import Derived.Test.YtknipnenipdgiaaGreatDoorCaw
namespace Go.Proofs.YtknipnenipdgiaaGreatDoor
open Go.ChangeShapes Go.WideShapes Go.ChangeAt Go.RowKit Go.Deep
set_option linter.unusedVariables false
set_option maxHeartbeats 1000000 in
theorem sz_rows_l (a : Option Addr) (cap n L : Nat) (D : Nat → List Int) (w : World) (hs : BSeg w a n D) (hn : n ≤ 9223372036854775807) (hD : ∀ i, i < n → (D i).length ≤ 9223372036854775807) (hL : L ≤ 1048576) :
    Calls Tryz.prog 16 #[.slice a n cap, .int .i64 (L : Int)] w fun e w' => (∃ r : Int, e = .returned (.int .i64 r) ∧ (r < 0 ∨ (0 ≤ r ∧ r ≤ (L : Int) ∧ n ≤ L ∧ btot D n ≤ L))) ∧ w' = w := by
  have HS : Hid _ := And.intro hs hD
  clear hs hD
  by_cases h : n ≤ L
  rotate_left
  · have hw : IntKind.i64.wrap ((L : Int) - (n : Int)) = (L : Int) - (n : Int) := by rw [IntKind.wrap_i64]; omega
    have h0 : (L : Int) - (n : Int) < 0 := by omega
    go_enter Tryz.func16, Tryz.ntmps16
    go_wp2
    go_ret
    exact ⟨⟨_, rfl, .inl (by omega)⟩, rfl⟩
  obtain ⟨d, rfl⟩ : ∃ d, L = n + d := ⟨L - n, by omega⟩
  have hw : IntKind.i64.wrap (((n + d : Nat) : Int) - (n : Int)) = (d : Int) := by rw [show ((n + d : Nat) : Int) - (n : Int) = (d : Int) by omega, IntKind.wrap_i64]; omega
  have h0 : ¬ ((d : Int) < 0) := by omega
  go_enter Tryz.func16, Tryz.ntmps16
  go_wp2
  go_loopw [1, 5] (fun t i wr => ∃ k e : Nat, k ≤ n ∧ e ≤ d ∧ i = .int .i64 k ∧ t = .int .i64 (e : Int) ∧ wr = w ∧ Hid (e + btot D k = d)) (fun _ i _ => n - (intOf i).toNat)
  case atStart => exact ⟨0, d, by omega, Nat.le_refl _, rfl, congrArg _ (by omega), rfl, rfl⟩
  case round =>
    obtain ⟨k, e, hk, hed, rfl, rfl, rfl, HE⟩ := hrel
    clear hw h0
    by_cases hlt : k < n
    · have hlt' : (k : Int) < (n : Int) := by omega
      obtain ⟨b1, o1, a1, c1, rfl, hbl1, e1, s1⟩ := BSeg.at (w := wr) HS.out.1 k hlt
      have HC : Hid _ := sz_bytes a1 c1 (D k).length e wr (HS.out.2 k hlt) (by omega)
      have HT : Hid (btot D (k + 1) = btot D k + (D k).length) := rfl
      generalize (D k).length = len at e1 HC HT
      clear hbl1 s1
      go_wp2_with fail
      refine Calls.mono HC.out ?_
      rintro u w2 ⟨⟨r, rfl, hr⟩, rfl⟩
      rcases hr with hr | ⟨hr, hle⟩
      · go_wp2
        go_ret
        exact ⟨⟨_, rfl, .inl (by omega)⟩, by first | rfl | trivial⟩
      · have hr0 : ¬ (r < 0) := by omega
        have HR : Hid (r = ((e - len : Nat) : Int)) := hr
        have HG : Hid (e - len + btot D (k + 1) = d) := by have h1 := HE.out; have h2 := HT.out; show _ = _; omega
        clear hr HE HT
        go_wp2
        go_roundw
        case rel => exact ⟨k + 1, e - len, by omega, by omega, by go_num, by rw [HR.out], trivial, HG⟩
        case measure => simp [intOf]; omega
    · obtain rfl : k = n := by omega
      go_wp2
      go_ret
      have := HE.out
      exact ⟨⟨_, rfl, .inr ⟨by omega, by omega, by omega, by omega⟩⟩, rfl⟩
set_option maxHeartbeats 1000000 in
theorem sz_guest_l (pc : Int) (ra ma : Option Addr) (rl ca n da L : Nat) (D : Nat → List Int) (w : World) (hs : BSeg w ma n D) (hr : rl ≤ 9223372036854775807) (hn : n ≤ 9223372036854775807) (hD : ∀ i, i < n → (D i).length ≤ 9223372036854775807) (hL : L ≤ 1048576) :
    Calls Tryz.prog 35 #[gst ra rl ca pc ma n da, .int .i64 (L : Int)] w fun e w' => (∃ r : Int, e = .returned (.int .i64 r) ∧ (r < 0 ∨ (0 ≤ r ∧ r ≤ (L : Int) ∧ rl ≤ 1048576 ∧ n ≤ 1048576 ∧ btot D n ≤ 1048576))) ∧ Below w.heap.size w w' := by
  have HS : Hid _ := And.intro hs hD
  clear hs hD
  have hbw := (Below.refl _ w).alloc (Nat.le_refl _) (.cells #[.slice ra rl ca, .int .u32 pc, .slice ma n da] 36)
  have HC : Hid _ := fun (M : Nat) (hM : M ≤ 1048576) => sz_rows_l ma da n M D _ (BSeg.below HS.out.1 hbw) hn HS.out.2 hM
  have HB : Hid _ := hbw
  clear hbw
  go_enter Tryz.func35, Tryz.ntmps35
  go_wp2_with fail
  refine Calls.mono (sz_regs ra ca rl L _ hr hL) ?_
  rintro u w2 ⟨⟨r, rfl, hr⟩, rfl⟩
  rcases hr with hr | ⟨hr, hle⟩
  · go_wp2
    go_ret
    exact ⟨⟨_, rfl, .inl (by omega)⟩, HB.out⟩
  · have hr0 : ¬ (((L - rl : Nat) : Int) < 0) := by omega
    obtain ⟨M, HM⟩ : ∃ M, Hid (L - rl = M) := ⟨_, rfl⟩
    rw [HM.out] at hr hr0
    subst hr
    have hM : M ≤ 1048576 := by have := HM.out; omega
    go_wp2_with fail
    refine Calls.mono (HC.out M hM) ?_
    rintro u w3 ⟨⟨r, rfl, hr⟩, rfl⟩
    have hm := HM.out
    rcases hr with hr | ⟨hr, hrL, h1, h2⟩
    · clear hm
      go_wp2
      go_ret
      exact ⟨⟨_, rfl, .inl (by omega)⟩, HB.out⟩
    · have hr0' : ¬ (r < 0) := by omega
      have HX : Hid (0 ≤ r ∧ r ≤ (L : Int) ∧ rl ≤ 1048576 ∧ n ≤ 1048576 ∧ btot D n ≤ 1048576) := ⟨hr, by omega, by omega, by omega, by omega⟩
      clear hr hrL h1 h2 hm
      go_wp2
      go_ret
      exact ⟨⟨_, rfl, .inr HX.out⟩, HB.out⟩
namespace Cw
set_option maxHeartbeats 1000000 in
theorem sz_rows_l (a : Option Addr) (cap n L : Nat) (D : Nat → List Wy) (w : World) (hs : RSeg w a n D) (hn : n ≤ 9223372036854775807) (hD : ∀ i, i < n → (D i).length ≤ 9223372036854775807) (hL : L ≤ 1048576) :
    Calls Tryz.prog 117 #[.slice a n cap, .int .i64 (L : Int)] w fun e w' => (∃ r : Int, e = .returned (.int .i64 r) ∧ (r < 0 ∨ (0 ≤ r ∧ r ≤ (L : Int) ∧ n ≤ L ∧ tot D n ≤ L))) ∧ w' = w := by
  have HS : Hid _ := And.intro hs hD
  clear hs hD
  by_cases h : n ≤ L
  rotate_left
  · have hw : IntKind.i64.wrap ((L : Int) - (n : Int)) = (L : Int) - (n : Int) := by rw [IntKind.wrap_i64]; omega
    have h0 : (L : Int) - (n : Int) < 0 := by omega
    go_enter Tryz.func117, Tryz.ntmps117
    go_wp2
    go_ret
    exact ⟨⟨_, rfl, .inl (by omega)⟩, rfl⟩
  obtain ⟨d, rfl⟩ : ∃ d, L = n + d := ⟨L - n, by omega⟩
  have hw : IntKind.i64.wrap (((n + d : Nat) : Int) - (n : Int)) = (d : Int) := by rw [show ((n + d : Nat) : Int) - (n : Int) = (d : Int) by omega, IntKind.wrap_i64]; omega
  have h0 : ¬ ((d : Int) < 0) := by omega
  go_enter Tryz.func117, Tryz.ntmps117
  go_wp2
  go_loopw [1, 5] (fun t i wr => ∃ k e : Nat, k ≤ n ∧ e ≤ d ∧ i = .int .i64 k ∧ t = .int .i64 (e : Int) ∧ wr = w ∧ Hid (e + tot D k = d)) (fun _ i _ => n - (intOf i).toNat)
  case atStart => exact ⟨0, d, by omega, Nat.le_refl _, rfl, congrArg _ (by omega), rfl, rfl⟩
  case round =>
    obtain ⟨k, e, hk, hed, rfl, rfl, rfl, HE⟩ := hrel
    clear hw h0
    by_cases hlt : k < n
    · have hlt' : (k : Int) < (n : Int) := by omega
      obtain ⟨b1, o1, a1, c1, rfl, hbl1, e1, s1⟩ := RSeg.at (w := wr) HS.out.1 k hlt
      have HC : Hid _ := sz_ways a1 c1 (D k).length e wr (HS.out.2 k hlt) (by omega)
      have HT : Hid (tot D (k + 1) = tot D k + (D k).length) := rfl
      generalize (D k).length = len at e1 HC HT
      clear hbl1 s1
      go_wp2_with fail
      refine Calls.mono HC.out ?_
      rintro u w2 ⟨⟨r, rfl, hr⟩, rfl⟩
      rcases hr with hr | ⟨hr, hle⟩
      · go_wp2
        go_ret
        exact ⟨⟨_, rfl, .inl (by omega)⟩, by first | rfl | trivial⟩
      · have hr0 : ¬ (r < 0) := by omega
        have HR : Hid (r = ((e - len : Nat) : Int)) := hr
        have HG : Hid (e - len + tot D (k + 1) = d) := by have h1 := HE.out; have h2 := HT.out; show _ = _; omega
        clear hr HE HT
        go_wp2
        go_roundw
        case rel => exact ⟨k + 1, e - len, by omega, by omega, by go_num, by rw [HR.out], trivial, HG⟩
        case measure => simp [intOf]; omega
    · obtain rfl : k = n := by omega
      go_wp2
      go_ret
      have := HE.out
      exact ⟨⟨_, rfl, .inr ⟨by omega, by omega, by omega, by omega⟩⟩, rfl⟩
set_option maxHeartbeats 1000000 in
theorem sz_cache_l (L : Nat) (hL : L ≤ 1048576) (s y l : Int) (a : Option Addr) (cap n : Nat) (D : Nat → List Wy) (w : World) (hs : RSeg w a n D) (hn : n ≤ 9223372036854775807) (hD : ∀ i, i < n → (D i).length ≤ 9223372036854775807) :
    Calls Tryz.prog 36 #[cch s y l (.slice a n cap), .int .i64 (L : Int)] w fun e w' => (∃ r : Int, e = .returned (.int .i64 r) ∧ (r < 0 ∨ (0 ≤ r ∧ r ≤ (L : Int) ∧ n ≤ 1048576 ∧ tot D n ≤ 1048576))) ∧ Below w.heap.size w w' := by
  have HS : Hid _ := And.intro hs hD
  clear hs hD
  have hbw := (Below.refl _ w).alloc (Nat.le_refl _) (.cells #[.int .i64 s, .int .i64 y, .int .i64 l, .slice a n cap] 43)
  have HC : Hid _ := sz_rows_l a cap n L D _ (RSeg.below HS.out.1 hbw) hn HS.out.2 hL
  have HB : Hid _ := hbw
  clear hbw
  go_enter Tryz.func36, Tryz.ntmps36
  go_wp2_with fail
  refine Calls.mono HC.out ?_
  rintro u w2 ⟨⟨r, rfl, hr⟩, rfl⟩
  rcases hr with hr | ⟨hr, hrL, h1, h2⟩
  · go_wp2
    go_ret
    exact ⟨⟨_, rfl, .inl (by omega)⟩, HB.out⟩
  · have hr0 : ¬ (r < 0) := by omega
    go_wp2
    go_ret
    exact ⟨⟨_, rfl, .inr ⟨hr, by omega, by omega, by omega⟩⟩, HB.out⟩
end Cw
end Go.Proofs.YtknipnenipdgiaaGreatDoor
