/-
  Whether two windows lie apart, by the program's own function. Conditions: the sizes are numbers of 64 bits.
  Whether a list of windows is right: the program's own function. Conditions: the sizes are numbers of 64 bits; the slice's capacity is at least its length.
-/
import Derived.Test.YtbabghabcgpjaaaGreatDoorRows
import Derived.Test.YtbabghabcgpjaaaGreatDoorWnd
import Derived.Test.YtbabghabcgpjaaaGreatDoorWnl
namespace Go.Proofs.YtbabghabcgpjaaaGreatDoor
open Go.ChangeShapes Go.WideShapes Go.ChangeAt Go.RowKit Go.Deep
set_option linter.unusedVariables false

set_option maxHeartbeats 4000000 in
theorem impl_apart (x y : Wn) (q : Bool) (w : World) (hsx : x.2.1 ≤ 9223372036854775807) (hsy : y.2.1 ≤ 9223372036854775807) (hq : q = true ↔ ApartP x y) : Calls Tryz.prog 68 #[win x.1 x.2.1 x.2.2, win y.1 y.2.1 y.2.2] w fun e w' => e = .returned (.bool q) ∧ Below w.heap.size w w' := by
  have HQ : Hid _ := hq
  clear hq
  obtain ⟨q1, hq1⟩ := told (WOk x)
  have HX : Hid (∀ X, Calls Tryz.prog 67 #[win x.1 x.2.1 x.2.2] X fun e w' => e = .returned (.bool q1) ∧ Below X.heap.size X w') := fun X => impl_wok _ _ _ q1 X hsx hq1
  obtain ⟨q2, hq2⟩ := told (WOk y)
  have HY : Hid (∀ X, Calls Tryz.prog 67 #[win y.1 y.2.1 y.2.2] X fun e w' => e = .returned (.bool q2) ∧ Below X.heap.size X w') := fun X => impl_wok _ _ _ q2 X hsy hq2
  have HQ1 : Hid _ := hq1
  have HQ2 : Hid _ := hq2
  clear hq1 hq2 hsx hsy
  have hb : Below w.heap.size w ((w.alloc (wrow 49 x.1 x.2.1 x.2.2)).alloc (wrow 49 y.1 y.2.1 y.2.2)) := ((Below.refl _ _).alloc (Nat.le_refl _) _).alloc (by simp) _
  have K1 := (Bk.new w #[.int .i64 x.1, .int .i64 x.2.1, .int .i64 x.2.2] 49 w.heap.size rfl).alloc (wrow 49 y.1 y.2.1 y.2.2)
  have K2 := Bk.new (w.alloc (wrow 49 x.1 x.2.1 x.2.2)) #[.int .i64 y.1, .int .i64 y.2.1, .int .i64 y.2.2] 49 (w.heap.size + 1) (by simp)
  have HEX : Hid (q1 = true → ∀ X, Calls Tryz.prog 84 #[win x.1 x.2.1 x.2.2] X fun e w' => e = .returned (.int .i64 (x.1 + x.2.1)) ∧ Below X.heap.size X w') := fun h X => win_end _ _ _ X (HQ1.out.1 h).fit
  have HEY : Hid (q2 = true → ∀ X, Calls Tryz.prog 84 #[win y.1 y.2.1 y.2.2] X fun e w' => e = .returned (.int .i64 (y.1 + y.2.1)) ∧ Below X.heap.size X w') := fun h X => win_end _ _ _ X (HQ2.out.1 h).fit
  have HAP : Hid (q1 = true → q2 = true → (q = true ↔ (x.1 + x.2.1 ≤ y.1 ∨ y.1 + y.2.1 ≤ x.1))) := fun h1 h2 => HQ.out.trans ⟨fun h => h.2.2, fun h => ⟨HQ1.out.1 h1, HQ2.out.1 h2, h⟩⟩
  have HN : Hid (q1 = false ∨ q2 = false → q = false) := fun h => not_true HQ.out (fun hp => by
    rcases h with h | h
    · rw [HQ1.out.2 hp.1] at h; cases h
    · rw [HQ2.out.2 hp.2.1] at h; cases h)
  clear HQ1 HQ2 HQ
  generalize x.1 + x.2.1 = ex at HEX HAP
  generalize y.1 + y.2.1 = ey at HEY HAP
  obtain ⟨x1, x2, x3⟩ := x
  obtain ⟨y1, y2, y3⟩ := y
  simp only at HX HY HEX HEY HAP hb K1 K2
  simp only
  generalize HW0 : (w.alloc (wrow 49 x1 x2 x3)).alloc (wrow 49 y1 y2 y3) = W0 at hb K1 K2
  have c0 := K1.cell 0 _ rfl
  have c1 := K1.cell 1 _ rfl
  have c2 := K1.cell 2 _ rfl
  have d0 := K2.cell 0 _ rfl
  have d1 := K2.cell 1 _ rfl
  have d2 := K2.cell 2 _ rfl
  replace c0 : W0.cell? ⟨w.heap.size, 0, none⟩ = some (.int .i64 x1) := c0
  replace c1 : W0.cell? ⟨w.heap.size, 1, none⟩ = some (.int .i64 x2) := c1
  replace c2 : W0.cell? ⟨w.heap.size, 2, none⟩ = some (.int .i64 x3) := c2
  replace d0 : W0.cell? ⟨w.heap.size + 1, 0, none⟩ = some (.int .i64 y1) := d0
  replace d1 : W0.cell? ⟨w.heap.size + 1, 1, none⟩ = some (.int .i64 y2) := d1
  replace d2 : W0.cell? ⟨w.heap.size + 1, 2, none⟩ = some (.int .i64 y3) := d2
  clear K1 K2
  replace c0 := fun x => gr_cell c0 x
  replace c1 := fun x => gr_cell c1 x
  replace c2 := fun x => gr_cell c2 x
  replace d0 := fun x => gr_cell d0 x
  replace d1 := fun x => gr_cell d1 x
  replace d2 := fun x => gr_cell d2 x
  cases q1
  · have HT : Hid (q = false) := HN.out (.inl (by trivial))
    clear HN HAP HEX HEY HY
    go_enter Tryz.func68, Tryz.ntmps68
    go_wp2
    clear HW0
    have hgr := gr_some W0
    refine region_alike (by kernel_rfl) (by kernel_rfl) ?_
    repeat (go_big_quiet_step (first | (go_at_call_of 67 (Value.int IntKind.i64 x1); exact gr_call (HX.out _))))
    refine wpQuiet_nil ?_
    intro _ hw'
    obtain ⟨x9, rfl⟩ := hw'
    have hb := hb.trans (x9.h.mono hb.size)
    all_goals (have HB : Hid _ := hb; clear hb; go_wp2; go_ret; exact ⟨ret_bool HT.out.symm, HB.out⟩)
  cases q2
  · have HT : Hid (q = false) := HN.out (.inr (by trivial))
    clear HN HAP HEX HEY
    go_enter Tryz.func68, Tryz.ntmps68
    go_wp2
    clear HW0
    have hgr := gr_some W0
    refine region_alike (by kernel_rfl) (by kernel_rfl) ?_
    repeat (go_big_quiet_step (first | (go_at_call_of 67 (Value.int IntKind.i64 x1); exact gr_call (HX.out _)) | (go_at_call_of 67 (Value.int IntKind.i64 y1); exact gr_call (HY.out _))))
    refine wpQuiet_nil ?_
    intro _ hw'
    obtain ⟨x9, rfl⟩ := hw'
    have hb := hb.trans (x9.h.mono hb.size)
    all_goals (have HB : Hid _ := hb; clear hb; go_wp2; go_ret; exact ⟨ret_bool HT.out.symm, HB.out⟩)
  have HEX' : Hid _ := HEX.out (by trivial)
  have HEY' : Hid _ := HEY.out (by trivial)
  have HAP' : Hid _ := HAP.out (by trivial) (by trivial)
  clear HN HEX HEY HAP
  by_cases hle : ex ≤ y1
  · have HT : Hid (q = true) := HAP'.out.2 (.inl hle)
    clear HAP'
    go_enter Tryz.func68, Tryz.ntmps68
    go_wp2
    clear HW0
    have hgr := gr_some W0
    refine region_alike (by kernel_rfl) (by kernel_rfl) ?_
    repeat (go_big_quiet_step (first | (go_at_call_of 67 (Value.int IntKind.i64 x1); exact gr_call (HX.out _)) | (go_at_call_of 67 (Value.int IntKind.i64 y1); exact gr_call (HY.out _)) | (go_at_call_of 84 (Value.int IntKind.i64 x1); exact gr_call (HEX'.out _))))
    refine wpQuiet_nil ?_
    intro _ hw'
    obtain ⟨x9, rfl⟩ := hw'
    have hb := hb.trans (x9.h.mono hb.size)
    all_goals (have HB : Hid _ := hb; clear hb; go_wp2; go_ret; exact ⟨ret_bool HT.out.symm, HB.out⟩)
  · have HT : Hid (decide (ey ≤ x1) = q) := by
      show _ = _
      by_cases h2 : ey ≤ x1
      · rw [HAP'.out.2 (.inr h2)]; simpa using h2
      · rw [not_true HAP'.out (fun h => by omega)]; simpa using h2
    have hle' : decide (ex ≤ y1) = false := by simpa using hle
    clear HAP' hle
    go_enter Tryz.func68, Tryz.ntmps68
    go_wp2
    clear HW0
    have hgr := gr_some W0
    refine region_alike (by kernel_rfl) (by kernel_rfl) ?_
    repeat (go_big_quiet_step (first | (go_at_call_of 67 (Value.int IntKind.i64 x1); exact gr_call (HX.out _)) | (go_at_call_of 67 (Value.int IntKind.i64 y1); exact gr_call (HY.out _)) | (go_at_call_of 84 (Value.int IntKind.i64 x1); exact gr_call (HEX'.out _)) | (go_at_call_of 84 (Value.int IntKind.i64 y1); exact gr_call (HEY'.out _))))
    refine wpQuiet_nil ?_
    intro _ hw'
    obtain ⟨x9, rfl⟩ := hw'
    have hb := hb.trans (x9.h.mono hb.size)
    all_goals (have HB : Hid _ := hb; clear hb; go_wp2; go_ret; exact ⟨ret_bool HT.out, HB.out⟩)
end Go.Proofs.YtbabghabcgpjaaaGreatDoor
namespace Go.Proofs.YtbabghabcgpjaaaGreatDoor
open Go.ChangeShapes Go.WideShapes Go.ChangeAt Go.RowKit Go.Deep
set_option linter.unusedVariables false

set_option maxHeartbeats 4000000 in
theorem impl_wsok (a : Option Addr) (cap n : Nat) (xs : List Wn) (q : Bool) (w : World) (hs : ASeg w a xs) (hf : Fit xs) (hl : xs.length = n) (hn : n ≤ 9223372036854775807) (hc : n ≤ cap) (hq : q = true ↔ WsOk xs) :
    Calls Tryz.prog 49 #[.slice a n cap] w fun e w' => e = .returned (.bool q) ∧ Below w.heap.size w w' := by
  have HQ : Hid _ := hq
  have HS : Hid (ASeg w a xs) := hs
  have HL : Hid _ := hl
  have HF : Hid (∀ i, i < n → (xs.getD i wn0).2.1 ≤ 9223372036854775807) := fun i hi => hf i (by rw [hl]; exact hi)
  clear hq hs hl hf
  by_cases h4 : n ≤ 4
  rotate_left
  · have h4' : (4 : Int) < (n : Int) := by omega
    have HT : Hid (q = false) := not_true HQ.out (fun h => h4 (by rw [← HL.out]; exact h.1))
    go_enter Tryz.func49, Tryz.ntmps49
    go_wp2
    go_ret
    exact ⟨ret_bool HT.out.symm, Below.refl _ _⟩
  have h4' : ¬ (4 : Int) < (n : Int) := by omega
  go_enter Tryz.func49, Tryz.ntmps49
  go_wp2
  go_loopw [12] (fun i wr => ∃ m : Nat, m ≤ n ∧ i = .int .i64 m ∧ Hid (Below w.heap.size w wr ∧ WsTo xs m)) (fun i _ => n - (intOf i).toNat)
  case atStart => exact ⟨0, by omega, rfl, Below.refl _ _, fun i hi => absurd hi (by omega)⟩
  case round =>
    obtain ⟨m, hm, rfl, HR⟩ := hrel
    by_cases hmn : m < n
    rotate_left
    · obtain rfl : m = n := by omega
      have HT : Hid (q = true) := HQ.out.2 ⟨by rw [HL.out]; exact h4, by rw [HL.out]; exact HR.out.2⟩
      go_wp2
      go_ret
      exact ⟨ret_bool HT.out.symm, HR.out.1⟩
    have hmn' : (m : Int) < (n : Int) := by omega
    have hmc' : (m : Int) ≤ (cap : Int) := by omega
    obtain ⟨b1, o1, rfl, hbl1, p1⟩ := ASeg.at HS.out m (by rw [HL.out]; exact hmn)
    have HP : Hid (∀ X, Below w.heap.size w X → ∀ i, i < n → A3 X b1 (o1 + i * 3) (xs.getD i wn0)) := fun X hX i hi => by
      obtain ⟨b2, o2, e, hbl2, p2⟩ := ASeg.at HS.out i (by rw [HL.out]; exact hi)
      cases e
      exact p2.of (fun j => hX.cell (p := ⟨b1, j, none⟩) hbl1)
    obtain ⟨c0, c1, c2⟩ := HP.out _ HR.out.1 m hmn
    obtain ⟨qo, hqo⟩ := told (WOk (xs.getD m wn0))
    have HQO : Hid _ := hqo
    have hfy := HF.out m hmn
    obtain ⟨y, HY⟩ : ∃ y, Hid (xs.getD m wn0 = y) := ⟨_, rfl⟩
    rw [HY.out] at c0 c1 c2 hfy
    have HW : Hid (∀ X, Calls Tryz.prog 67 #[win y.1 y.2.1 y.2.2] X fun e w' => e = .returned (.bool qo) ∧ Below X.heap.size X w') := fun X => by
      rw [← HY.out] at hfy ⊢; exact impl_wok _ _ _ qo X hfy HQO.out
    have HA : Hid (∀ (x : Wn) (r : Bool) X, x.2.1 ≤ 9223372036854775807 → (r = true ↔ ApartP x y) → Calls Tryz.prog 68 #[win x.1 x.2.1 x.2.2, win y.1 y.2.1 y.2.2] X fun e w' => e = .returned (.bool r) ∧ Below X.heap.size X w') := fun x r X hx h => impl_apart x y r X hx hfy h
    clear hqo p1 hbl1 hfy
    obtain ⟨y1, y2, y3⟩ := y
    simp only at c0 c1 c2 HW HA
    have K0 := Bk.new wr #[.int .i64 y1, .int .i64 y2, .int .i64 y3] 49 wr.heap.size rfl
    have hb0 : Below w.heap.size w (wr.alloc (wrow 49 y1 y2 y3)) := HR.out.1.alloc HR.out.1.size _
    have HK0 : Hid _ := And.intro K0 hb0
    clear K0 hb0
    go_wp2_with fail
    refine (HW.out _).mono ?_
    rintro u w1 ⟨rfl, hb1⟩
    have HB1 : Hid (Below w.heap.size w w1 ∧ Bk w1 wr.heap.size #[.int .i64 y1, .int .i64 y2, .int .i64 y3]) := ⟨HK0.out.2.trans (hb1.mono HK0.out.2.size), HK0.out.1.below hb1⟩
    clear hb1 c0 c1 c2 HK0
    generalize wr.heap.size = B1 at HB1 ⊢
    cases qo
    · have HT : Hid (q = false) := not_true HQ.out (fun h => by
        have := HQO.out.2 (h.2 m (by rw [HL.out]; exact hmn)).1
        cases this)
      go_wp2
      go_ret
      exact ⟨ret_bool HT.out.symm, HB1.out.1⟩
    have HO : Hid (WOk (xs.getD m wn0)) := HQO.out.1 (by trivial)
    clear HQO
    go_wp2
    go_loopw [24] (fun i wr => ∃ k : Nat, k ≤ m ∧ i = .int .i64 k ∧ Hid (Below w.heap.size w wr ∧ Bk wr B1 #[.int .i64 y1, .int .i64 y2, .int .i64 y3] ∧ ∀ j, j < k → ApartP (xs.getD j wn0) (xs.getD m wn0))) (fun i _ => m - (intOf i).toNat)
    case atStart => exact ⟨0, by omega, rfl, HB1.out.1, HB1.out.2, fun i hi => absurd hi (by omega)⟩
    case round =>
      rename_i wr0 _ wr
      obtain ⟨k, hk, rfl, HR2⟩ := hrel
      by_cases hkm : k < m
      rotate_left
      · obtain rfl : k = m := by omega
        have HR3 : Hid (WsTo xs (k + 1)) := fun i hi => by
          by_cases e : i = k
          · subst e; exact ⟨HO.out, HR2.out.2.2⟩
          · exact HR.out.2 i (by omega)
        go_wp2
        go_roundw
        case rel => exact ⟨k + 1, by omega, by go_num, HR2.out.1, HR3.out⟩
        case measure => simp [intOf]; omega
      have hkm' : (k : Int) < (m : Int) := by omega
      have hkn' : (k : Int) < (n : Int) := by omega
      obtain ⟨x, HX⟩ : ∃ x, Hid (xs.getD k wn0 = x) := ⟨_, rfl⟩
      obtain ⟨r, hr⟩ := told (ApartP x (y1, y2, y3))
      have hfx := HF.out k (by omega)
      rw [HX.out] at hfx
      have HRR : Hid _ := hr
      have HAX : Hid _ := fun X => HA.out x r X hfx hr
      clear hr hfx
      have P1 := HP.out _ HR2.out.1 k (by omega)
      rw [HX.out] at P1
      obtain ⟨x1, x2, x3⟩ := x
      simp only [A3] at P1 HAX
      obtain ⟨c0, c1, c2⟩ := P1
      have hal : Below wr.heap.size wr (wr.alloc (wrow 49 x1 x2 x3)) := (Below.refl _ _).alloc (Nat.le_refl _) _
      have K2 := HR2.out.2.1.below hal
      have d0 := K2.cell 0 _ rfl
      have d1 := K2.cell 1 _ rfl
      have d2 := K2.cell 2 _ rfl
      have HAL : Hid (Below w.heap.size w (wr.alloc (wrow 49 x1 x2 x3)) ∧ Bk (wr.alloc (wrow 49 x1 x2 x3)) B1 #[.int .i64 y1, .int .i64 y2, .int .i64 y3]) := ⟨HR2.out.1.trans (hal.mono HR2.out.1.size), K2⟩
      clear hal K2
      go_wp2_with fail
      refine (HAX.out _).mono ?_
      rintro u W1 ⟨rfl, hb2⟩
      have HB2 : Hid (Below w.heap.size w W1 ∧ Bk W1 B1 #[.int .i64 y1, .int .i64 y2, .int .i64 y3]) := ⟨HAL.out.1.trans (hb2.mono HAL.out.1.size), HAL.out.2.below hb2⟩
      clear hb2 c0 c1 c2 d0 d1 d2 HAL
      cases r
      · have HT : Hid (q = false) := not_true HQ.out (fun h => by
          have h1 := (h.2 m (by rw [HL.out]; exact hmn)).2 k hkm
          rw [HX.out, HY.out] at h1
          have := HRR.out.2 h1
          cases this)
        go_wp2
        go_ret
        exact ⟨ret_bool HT.out.symm, HB2.out.1⟩
      · have HR3 : Hid (∀ j, j < k + 1 → ApartP (xs.getD j wn0) (xs.getD m wn0)) := fun j hj => by
          by_cases e : j = k
          · subst e
            rw [HX.out, HY.out]
            exact HRR.out.1 (by trivial)
          · exact HR2.out.2.2 j (by omega)
        go_wp2
        go_roundw
        case rel => exact ⟨k + 1, by omega, by go_num, HB2.out.1, HB2.out.2, HR3.out⟩
        case measure => simp [intOf]; omega
end Go.Proofs.YtbabghabcgpjaaaGreatDoor
