
/-
  Whether a list of windows is right: the specification's own function. Conditions: the lists are at most 1048576 long.
-/
import Derived.Test.YtanffdedignegaaBas
import Derived.Test.YtanffdedignegaaProg
import Derived.Test.YtanffdedignegaaWnl
namespace Go.Proofs.Ytanffdedignegaa
open Go.ChangeShapes Go.WideShapes Go.ChangeAt Go.RowKit Go.Deep
set_option linter.unusedVariables false

/-- The windows up to the m-th are right and lie apart. -/
def WsTo (xs : List Wn) (m : Nat) : Prop := ∀ i, i < m → WOk (xs.getD i wn0) ∧ ∀ k, k < i → ApartP (xs.getD k wn0) (xs.getD i wn0)
def WsOk (xs : List Wn) : Prop := xs.length ≤ 4 ∧ WsTo xs xs.length
set_option maxHeartbeats 4000000 in
theorem spec_wsok (a : Option Addr) (cap n : Nat) (xs : List Wn) (q : Bool) (w : World) (hs : ASeg w a xs) (hl : xs.length = n) (hn : n ≤ 9223372036854775807) (hq : q = true ↔ WsOk xs) :
    Calls Try.prog 17 #[.slice a n cap] w fun e w' => e = .returned (.bool q) ∧ Below w.heap.size w w' := by
  have HQ : Hid _ := hq
  have HS : Hid (ASeg w a xs) := hs
  have HL : Hid _ := hl
  clear hq hs hl
  by_cases h4 : n ≤ 4
  rotate_left
  · have h4' : (4 : Int) < (n : Int) := by omega
    have HT : Hid (q = false) := not_true HQ.out (fun h => h4 (by rw [← HL.out]; exact h.1))
    go_enter Try.func17, Try.ntmps17
    go_wp2
    go_ret
    exact ⟨ret_bool HT.out.symm, Below.refl _ _⟩
  have h4' : ¬ (4 : Int) < (n : Int) := by omega
  go_enter Try.func17, Try.ntmps17
  go_wp2
  go_loopw [3] (fun i wr => ∃ m : Nat, m ≤ n ∧ i = .int .i64 m ∧ Hid (Below w.heap.size w wr ∧ WsTo xs m)) (fun i _ => n - (intOf i).toNat)
  case atStart => exact ⟨0, by omega, rfl, Below.refl _ _, fun i hi => absurd hi (by omega)⟩
  case round =>
    obtain ⟨m, hm, rfl, HR⟩ := hrel
    by_cases hmn : m < n
    rotate_left
    · obtain rfl : m = n := by omega
      have HT : Hid (q = true) := HQ.out.2 ⟨by rw [HL.out]; exact h4, by rw [HL.out]; exact HR.out.2⟩
      go_wp2
      go_ret
      exact ⟨ret_bool HT.out.symm, HR.out.1⟩
    have hmn' : (m : Int) < (n : Int) := by omega
    obtain ⟨b1, o1, rfl, hbl1, p1⟩ := ASeg.at HS.out m (by rw [HL.out]; exact hmn)
    have hbl : b1 < wr.heap.size := Nat.lt_of_lt_of_le hbl1 HR.out.1.size
    have HP : Hid (∀ X, Below w.heap.size w X → ∀ i, i < n → A3 X b1 (o1 + i * 3) (xs.getD i wn0)) := fun X hX i hi => by
      obtain ⟨b2, o2, e, hbl2, p2⟩ := ASeg.at HS.out i (by rw [HL.out]; exact hi)
      cases e
      exact p2.of (fun j => hX.cell (p := ⟨b1, j, none⟩) hbl1)
    obtain ⟨c0, c1, c2⟩ := HP.out _ HR.out.1 m hmn
    obtain ⟨qo, hqo⟩ := told (WOk (xs.getD m wn0))
    have HQO : Hid _ := hqo
    obtain ⟨y, HY⟩ : ∃ y, Hid (xs.getD m wn0 = y) := ⟨_, rfl⟩
    rw [HY.out] at c0 c1 c2
    have HW : Hid (∀ X, Calls Try.prog 32 #[win y.1 y.2.1 y.2.2] X fun e w' => e = .returned (.bool qo) ∧ Below X.heap.size X w') := fun X => by
      rw [← HY.out]; exact spec_wok _ _ _ qo X HQO.out
    have HA : Hid (∀ (x : Wn) (r : Bool) X, (r = true ↔ ApartP x y) → Calls Try.prog 33 #[win x.1 x.2.1 x.2.2, win y.1 y.2.1 y.2.2] X fun e w' => e = .returned (.bool r) ∧ Below X.heap.size X w') := fun x r X h => spec_apart x y r X h
    have HYC : Hid (∀ X, Below w.heap.size w X → A3 X b1 (o1 + m * 3) y) := fun X hX => by rw [← HY.out]; exact HP.out X hX m hmn
    clear hqo p1 hbl1
    obtain ⟨y1, y2, y3⟩ := y
    simp only at c0 c1 c2 HW HA HYC
    go_wp2_with fail
    refine (HW.out _).mono ?_
    rintro u w1 ⟨rfl, hb1⟩
    have HB1 : Hid (Below w.heap.size w w1) := HR.out.1.trans (hb1.mono HR.out.1.size)
    clear hb1 c0 c1 c2 hbl
    cases qo
    · have HT : Hid (q = false) := not_true HQ.out (fun h => by
        have := HQO.out.2 (h.2 m (by rw [HL.out]; exact hmn)).1
        cases this)
      go_wp2
      go_ret
      exact ⟨ret_bool HT.out.symm, HB1.out⟩
    have HO : Hid (WOk (xs.getD m wn0)) := HQO.out.1 (by trivial)
    clear HQO
    go_wp2
    go_loopw [4] (fun i wr => ∃ k : Nat, k ≤ m ∧ i = .int .i64 k ∧ Hid (Below w.heap.size w wr ∧ ∀ j, j < k → ApartP (xs.getD j wn0) (xs.getD m wn0))) (fun i _ => m - (intOf i).toNat)
    case atStart => exact ⟨0, by omega, rfl, HB1.out, fun i hi => absurd hi (by omega)⟩
    case round =>
      obtain ⟨k, hk, rfl, HR2⟩ := hrel
      by_cases hkm : k < m
      rotate_left
      · obtain rfl : k = m := by omega
        have HR3 : Hid (WsTo xs (k + 1)) := fun i hi => by
          by_cases e : i = k
          · subst e; exact ⟨HO.out, HR2.out.2⟩
          · exact HR.out.2 i (by omega)
        go_wp2
        go_roundw
        case rel => exact ⟨k + 1, by omega, by go_num, HR2.out.1, HR3.out⟩
        case measure => simp [intOf]; omega
      have hkm' : (k : Int) < (m : Int) := by omega
      have hkn' : (k : Int) < (n : Int) := by omega
      obtain ⟨x, HX⟩ : ∃ x, Hid (xs.getD k wn0 = x) := ⟨_, rfl⟩
      obtain ⟨r, hr⟩ := told (ApartP x (y1, y2, y3))
      have HRR : Hid _ := hr
      have HAX : Hid _ := fun X => HA.out x r X hr
      clear hr
      have P1 := HP.out _ HR2.out.1 k (by omega)
      rw [HX.out] at P1
      have P2 := HYC.out _ HR2.out.1
      obtain ⟨x1, x2, x3⟩ := x
      simp only [A3] at P1 P2 HAX
      have c0 := fun X => gr_cell P1.1 X
      have c1 := fun X => gr_cell P1.2.1 X
      have c2 := fun X => gr_cell P1.2.2 X
      have d0 := fun X => gr_cell P2.1 X
      have d1 := fun X => gr_cell P2.2.1 X
      have d2 := fun X => gr_cell P2.2.2 X
      clear P1 P2
      go_wp2
      have hgr := gr_some wr
      refine region_alike (by kernel_rfl) (by kernel_rfl) ?_
      repeat (go_big_quiet_step (first | (go_at_call 33; exact gr_call (HAX.out _))))
      refine wpQuiet_nil ?_
      intro _ hw'
      obtain ⟨X1, rfl⟩ := hw'
      have hb2 := X1.h
      generalize X1.w = W1 at hb2 ⊢
      have HB2 : Hid (Below w.heap.size w W1) := HR2.out.1.trans (hb2.mono HR2.out.1.size)
      clear hb2 c0 c1 c2 d0 d1 d2
      cases r
      · have HT : Hid (q = false) := not_true HQ.out (fun h => by
          have h1 := (h.2 m (by rw [HL.out]; exact hmn)).2 k hkm
          rw [HX.out, HY.out] at h1
          have := HRR.out.2 h1
          cases this)
        go_wp2
        go_ret
        exact ⟨ret_bool HT.out.symm, HB2.out⟩
      · have HR3 : Hid (∀ j, j < k + 1 → ApartP (xs.getD j wn0) (xs.getD m wn0)) := fun j hj => by
          by_cases e : j = k
          · subst e
            rw [HX.out, HY.out]
            exact HRR.out.1 (by trivial)
          · exact HR2.out.2 j (by omega)
        go_wp2
        go_roundw
        case rel => exact ⟨k + 1, by omega, by go_num, HB2.out, HR3.out⟩
        case measure => simp [intOf]; omega
end Go.Proofs.Ytanffdedignegaa
