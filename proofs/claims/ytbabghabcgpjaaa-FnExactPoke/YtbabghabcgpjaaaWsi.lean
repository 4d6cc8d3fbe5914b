/-
  Whether a list of windows is right: the program's own function. Conditions: the sizes are numbers of 64 bits; the slice's capacity is at least its length.
-/
import Derived.Test.YtbabghabcgpjaaaRows
import Derived.Test.YtbabghabcgpjaaaWso
import Derived.Test.YtbabghabcgpjaaaApj
namespace Go.Proofs.Ytbabghabcgpjaaa
open Go.ChangeShapes Go.WideShapes Go.ChangeAt Go.RowKit Go.Deep
set_option linter.unusedVariables false

set_option maxHeartbeats 4000000 in
theorem impl_wsok (a : Option Addr) (cap n : Nat) (xs : List Wn) (q : Bool) (w : World) (hs : ASeg w a xs) (hf : Fit xs) (hl : xs.length = n) (hn : n ≤ 9223372036854775807) (hc : n ≤ cap) (hq : q = true ↔ WsOk xs) :
    Calls Try.prog 61 #[.slice a n cap] w fun e w' => e = .returned (.bool q) ∧ Below w.heap.size w w' := by
  have HQ : Hid _ := hq
  have HS : Hid (ASeg w a xs) := hs
  have HL : Hid _ := hl
  have HF : Hid (∀ i, i < n → (xs.getD i wn0).2.1 ≤ 9223372036854775807) := fun i hi => hf i (by rw [hl]; exact hi)
  clear hq hs hl hf
  by_cases h4 : n ≤ 4
  rotate_left
  · have h4' : (4 : Int) < (n : Int) := by omega
    have HT : Hid (q = false) := not_true HQ.out (fun h => h4 (by rw [← HL.out]; exact h.1))
    go_enter Try.func61, Try.ntmps61
    go_wp2
    go_ret
    exact ⟨ret_bool HT.out.symm, Below.refl _ _⟩
  have h4' : ¬ (4 : Int) < (n : Int) := by omega
  go_enter Try.func61, Try.ntmps61
  go_wp2
  go_loopw [12] (fun i wr => ∃ m : Nat, m ≤ n ∧ i = .int .i64 m ∧ Hid (Below w.heap.size w wr ∧ WsTo xs m)) (fun i _ => n - (intOf i).toNat)
  case atStart => exact ⟨0, by omega, rfl, Below.refl _ _, fun i hi => absurd hi (by omega)⟩
  case round =>
    obtain ⟨m, hm, rfl, HR⟩ := hrel
    by_cases hmn : m < n
    rotate_left
    · obtain rfl : m = n := by omega
      have HT : Hid (q = true) := HQ.out.2 ⟨by rw [HL.out]; exact h4, by rw [HL.out]; exact HR.out.2⟩
      go_wp2
      go_ret
      exact ⟨ret_bool HT.out.symm, HR.out.1⟩
    have hmn' : (m : Int) < (n : Int) := by omega
    have hmc' : (m : Int) ≤ (cap : Int) := by omega
    obtain ⟨b1, o1, rfl, hbl1, p1⟩ := ASeg.at HS.out m (by rw [HL.out]; exact hmn)
    have HP : Hid (∀ X, Below w.heap.size w X → ∀ i, i < n → A3 X b1 (o1 + i * 3) (xs.getD i wn0)) := fun X hX i hi => by
      obtain ⟨b2, o2, e, hbl2, p2⟩ := ASeg.at HS.out i (by rw [HL.out]; exact hi)
      cases e
      exact p2.of (fun j => hX.cell (p := ⟨b1, j, none⟩) hbl1)
    obtain ⟨c0, c1, c2⟩ := HP.out _ HR.out.1 m hmn
    obtain ⟨qo, hqo⟩ := told (WOk (xs.getD m wn0))
    have HQO : Hid _ := hqo
    have hfy := HF.out m hmn
    obtain ⟨y, HY⟩ : ∃ y, Hid (xs.getD m wn0 = y) := ⟨_, rfl⟩
    rw [HY.out] at c0 c1 c2 hfy
    have HW : Hid (∀ X, Calls Try.prog 88 #[win y.1 y.2.1 y.2.2] X fun e w' => e = .returned (.bool qo) ∧ Below X.heap.size X w') := fun X => by
      rw [← HY.out] at hfy ⊢; exact impl_wok _ _ _ qo X hfy HQO.out
    have HA : Hid (∀ (x : Wn) (r : Bool) X, x.2.1 ≤ 9223372036854775807 → (r = true ↔ ApartP x y) → Calls Try.prog 89 #[win x.1 x.2.1 x.2.2, win y.1 y.2.1 y.2.2] X fun e w' => e = .returned (.bool r) ∧ Below X.heap.size X w') := fun x r X hx h => impl_apart x y r X hx hfy h
    clear hqo p1 hbl1 hfy
    obtain ⟨y1, y2, y3⟩ := y
    simp only at c0 c1 c2 HW HA
    have K0 := Bk.new wr #[.int .i64 y1, .int .i64 y2, .int .i64 y3] 76 wr.heap.size rfl
    have hb0 : Below w.heap.size w (wr.alloc (wrow 76 y1 y2 y3)) := HR.out.1.alloc HR.out.1.size _
    have HK0 : Hid _ := And.intro K0 hb0
    clear K0 hb0
    go_wp2_with fail
    refine (HW.out _).mono ?_
    rintro u w1 ⟨rfl, hb1⟩
    have HB1 : Hid (Below w.heap.size w w1 ∧ Bk w1 wr.heap.size #[.int .i64 y1, .int .i64 y2, .int .i64 y3]) := ⟨HK0.out.2.trans (hb1.mono HK0.out.2.size), HK0.out.1.below hb1⟩
    clear hb1 c0 c1 c2 HK0
    generalize wr.heap.size = B1 at HB1 ⊢
    cases qo
    · have HT : Hid (q = false) := not_true HQ.out (fun h => by
        have := HQO.out.2 (h.2 m (by rw [HL.out]; exact hmn)).1
        cases this)
      go_wp2
      go_ret
      exact ⟨ret_bool HT.out.symm, HB1.out.1⟩
    have HO : Hid (WOk (xs.getD m wn0)) := HQO.out.1 (by trivial)
    clear HQO
    go_wp2
    go_loopw [24] (fun i wr => ∃ k : Nat, k ≤ m ∧ i = .int .i64 k ∧ Hid (Below w.heap.size w wr ∧ Bk wr B1 #[.int .i64 y1, .int .i64 y2, .int .i64 y3] ∧ ∀ j, j < k → ApartP (xs.getD j wn0) (xs.getD m wn0))) (fun i _ => m - (intOf i).toNat)
    case atStart => exact ⟨0, by omega, rfl, HB1.out.1, HB1.out.2, fun i hi => absurd hi (by omega)⟩
    case round =>
      rename_i wr0 _ wr
      obtain ⟨k, hk, rfl, HR2⟩ := hrel
      by_cases hkm : k < m
      rotate_left
      · obtain rfl : k = m := by omega
        have HR3 : Hid (WsTo xs (k + 1)) := fun i hi => by
          by_cases e : i = k
          · subst e; exact ⟨HO.out, HR2.out.2.2⟩
          · exact HR.out.2 i (by omega)
        go_wp2
        go_roundw
        case rel => exact ⟨k + 1, by omega, by go_num, HR2.out.1, HR3.out⟩
        case measure => simp [intOf]; omega
      have hkm' : (k : Int) < (m : Int) := by omega
      have hkn' : (k : Int) < (n : Int) := by omega
      obtain ⟨x, HX⟩ : ∃ x, Hid (xs.getD k wn0 = x) := ⟨_, rfl⟩
      obtain ⟨r, hr⟩ := told (ApartP x (y1, y2, y3))
      have hfx := HF.out k (by omega)
      rw [HX.out] at hfx
      have HRR : Hid _ := hr
      have HAX : Hid _ := fun X => HA.out x r X hfx hr
      clear hr hfx
      have P1 := HP.out _ HR2.out.1 k (by omega)
      rw [HX.out] at P1
      obtain ⟨x1, x2, x3⟩ := x
      simp only [A3] at P1 HAX
      obtain ⟨c0, c1, c2⟩ := P1
      have hal : Below wr.heap.size wr (wr.alloc (wrow 76 x1 x2 x3)) := (Below.refl _ _).alloc (Nat.le_refl _) _
      have K2 := HR2.out.2.1.below hal
      have d0 := K2.cell 0 _ rfl
      have d1 := K2.cell 1 _ rfl
      have d2 := K2.cell 2 _ rfl
      have HAL : Hid (Below w.heap.size w (wr.alloc (wrow 76 x1 x2 x3)) ∧ Bk (wr.alloc (wrow 76 x1 x2 x3)) B1 #[.int .i64 y1, .int .i64 y2, .int .i64 y3]) := ⟨HR2.out.1.trans (hal.mono HR2.out.1.size), K2⟩
      clear hal K2
      go_wp2_with fail
      refine (HAX.out _).mono ?_
      rintro u W1 ⟨rfl, hb2⟩
      have HB2 : Hid (Below w.heap.size w W1 ∧ Bk W1 B1 #[.int .i64 y1, .int .i64 y2, .int .i64 y3]) := ⟨HAL.out.1.trans (hb2.mono HAL.out.1.size), HAL.out.2.below hb2⟩
      clear hb2 c0 c1 c2 d0 d1 d2 HAL
      cases r
      · have HT : Hid (q = false) := not_true HQ.out (fun h => by
          have h1 := (h.2 m (by rw [HL.out]; exact hmn)).2 k hkm
          rw [HX.out, HY.out] at h1
          have := HRR.out.2 h1
          cases this)
        go_wp2
        go_ret
        exact ⟨ret_bool HT.out.symm, HB2.out.1⟩
      · have HR3 : Hid (∀ j, j < k + 1 → ApartP (xs.getD j wn0) (xs.getD m wn0)) := fun j hj => by
          by_cases e : j = k
          · subst e
            rw [HX.out, HY.out]
            exact HRR.out.1 (by trivial)
          · exact HR2.out.2.2 j (by omega)
        go_wp2
        go_roundw
        case rel => exact ⟨k + 1, by omega, by go_num, HB2.out.1, HB2.out.2, HR3.out⟩
        case measure => simp [intOf]; omega
end Go.Proofs.Ytbabghabcgpjaaa
