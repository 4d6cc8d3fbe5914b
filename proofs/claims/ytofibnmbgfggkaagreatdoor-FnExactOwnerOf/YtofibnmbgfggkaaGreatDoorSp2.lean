
/-
  A partition that is right: the specification's own function. Conditions: its name and its windows are at most 1048576.
-/
import Derived.Test.YtofibnmbgfggkaaGreatDoorBas
import Derived.Test.YtofibnmbgfggkaaGreatDoorRul
import Derived.Test.YtofibnmbgfggkaaGreatDoorLrw
import Derived.BigQuiet
import Derived.Test.YtofibnmbgfggkaaGreatDoorPev
namespace Go.Proofs.YtofibnmbgfggkaaGreatDoor
open Go.ChangeShapes Go.WideShapes Go.ChangeAt Go.RowKit Go.Deep Go.Joins
set_option linter.unusedVariables false

def PartP (p : Pt) (mem : Int) : Prop := Lab.nok (Tx.nums p.nm) = true ∧ polOk p.kd p.ms = true ∧ (1 ≤ p.ws.length ∧ p.ws.length ≤ 4) ∧ (∀ j, j < p.ws.length → WOk (p.ws.getD j wi0) ∧ (p.ws.getD j wi0).1 + (p.ws.getD j wi0).2.1 ≤ mem) ∧ (∃ j, j < p.ws.length ∧ Has (p.ws.getD j wi0) p.en ∧ 4 ≤ (p.ws.getD j wi0).2.2) ∧ p.en % 4 = 0
theorem div4 (x : Int) (h : 1 ≤ x ∧ x ≤ 7) : (Int.tdiv x 4 == 1) = decide (4 ≤ x) ∧ (x / 4 == 1) = decide (4 ≤ x) ∧ (wrap64 (Int.tdiv x 4) == 1) = decide (4 ≤ x) := by
  have : x = 1 ∨ x = 2 ∨ x = 3 ∨ x = 4 ∨ x = 5 ∨ x = 6 ∨ x = 7 := by omega
  rcases this with rfl | rfl | rfl | rfl | rfl | rfl | rfl <;> decide +kernel
set_option maxRecDepth 40000 in
set_option maxHeartbeats 8000000 in
theorem spec_part (y : Rw) (p : Pt) (mem : Int) (q : Bool) (w : World) (hg : Good 0 w y p) (hn : y.wn ≤ 1048576) (hm : y.nm.size ≤ 1048576) (hq : q = true ↔ PartP p mem) :
    Calls Tryz.prog 53 #[rwV y, .int .i64 mem] w fun e w' => e = .returned (.bool q) ∧ Below w.heap.size w w' := by
  have e1 := hg.nm
  have e2 := hg.en
  have e3 := hg.kd
  have e4 := hg.ms
  have e5 := hg.ln
  have HSG : Hid (GSeg 3 w y.wa y.wn (wiX p.ws)) := hg.sg.seg
  clear hg
  obtain ⟨nm, en, kd, ms, wa, wn, wc⟩ := y
  obtain ⟨nm', en', kd', ms', ws⟩ := p
  simp only at e1 e2 e3 e4 e5 hn hm HSG
  subst e1 e2 e3 e4
  simp only [PartP] at hq
  rw [e5] at hq
  have HN : Hid (∀ {P : Prop}, P → ¬ (Lab.nok (Tx.nums nm) = true ∧ polOk kd ms = true ∧ (1 ≤ wn ∧ wn ≤ 4) ∧ (∀ j, j < wn → WOk (ws.getD j wi0) ∧ (ws.getD j wi0).1 + (ws.getD j wi0).2.1 ≤ mem) ∧ (∃ j, j < wn ∧ Has (ws.getD j wi0) en ∧ 4 ≤ (ws.getD j wi0).2.2) ∧ en % 4 = 0) → q = false) := fun _ h => not_true hq h
  have HQ : Hid (q = true ↔ (Lab.nok (Tx.nums nm) = true ∧ polOk kd ms = true ∧ (1 ≤ wn ∧ wn ≤ 4) ∧ (∀ j, j < wn → WOk (ws.getD j wi0) ∧ (ws.getD j wi0).1 + (ws.getD j wi0).2.1 ≤ mem) ∧ (∃ j, j < wn ∧ Has (ws.getD j wi0) en ∧ 4 ≤ (ws.getD j wi0).2.2) ∧ en % 4 = 0)) := hq
  have HM4 : Hid _ := tm4 en
  clear hq e5
  simp only [rwV]
  have HB0 : Hid (Below w.heap.size w (w.alloc (.cells #[.string nm, .int .i64 en, .int .i64 kd, .int .i64 ms, .slice wa wn wc] 73))) := (Below.refl _ _).alloc (Nat.le_refl _) _
  have HK0 : Hid (CellsAt (w.alloc (.cells #[.string nm, .int .i64 en, .int .i64 kd, .int .i64 ms, .slice wa wn wc] 73)) w.heap.size 0 [.string nm, .int .i64 en, .int .i64 kd, .int .i64 ms, .slice wa wn wc]) := CellsAt.new w [.string nm, .int .i64 en, .int .i64 kd, .int .i64 ms, .slice wa wn wc] 73 _ rfl
  obtain ⟨b0, H0⟩ : ∃ b, Hid (Lab.nok (Tx.nums nm) = b) := ⟨_, rfl⟩
  obtain ⟨b1, H1⟩ : ∃ b, Hid (polOk kd ms = b) := ⟨_, rfl⟩
  obtain ⟨b2, H2⟩ : ∃ b, Hid (inr (wn : Int) 1 4 = b) := ⟨_, rfl⟩
  go_enter Tryz.func53, Tryz.ntmps53
  go_wp2_with fail
  refine (spec_name nm b0 _ hm H0).mono ?_
  rintro e w1 ⟨rfl, rfl⟩
  cases b0
  · have HT : Hid (q = false) := HN.out trivial (fun h => by rw [h.1] at H0; exact absurd H0.out (by simp))
    go_wp2
    go_ret
    exact ⟨ret_bool HT.out.symm, HB0.out⟩
  go_wp2_with fail
  refine (spec_pok kd ms _).mono ?_
  rintro e w2 ⟨rfl, hb2⟩
  have HB2 : Hid (Below w.heap.size w w2) := HB0.out.trans (hb2.mono HB0.out.size)
  have HK2 : Hid (CellsAt w2 w.heap.size 0 [.string nm, .int .i64 en, .int .i64 kd, .int .i64 ms, .slice wa wn wc]) := HK0.out.below hb2
  clear hb2 HB0 HK0
  rw [H1.out]
  cases b1
  · have HT : Hid (q = false) := HN.out trivial (fun h => by rw [h.2.1] at H1; exact absurd H1.out (by simp))
    go_wp2
    go_ret
    exact ⟨ret_bool HT.out.symm, HB2.out⟩
  have k4 : w2.cell? ⟨w.heap.size, 4, none⟩ = some (.slice wa wn wc) := cell0 HK2.out 4 rfl
  go_wp2_with fail
  refine (in_any (wn : Int) 1 4 _).mono ?_
  rintro e w3 ⟨rfl, rfl⟩
  rw [H2.out]
  cases b2
  · have HT : Hid (q = false) := HN.out trivial (fun h => by rw [inr_yes (by omega)] at H2; exact absurd H2.out (by simp))
    go_wp2
    go_ret
    exact ⟨ret_bool HT.out.symm, HB2.out⟩
  have hw4 := of_inr H2.out
  have HW4 : Hid (1 ≤ wn ∧ wn ≤ 4) := by show _ ∧ _; omega
  clear hw4 k4
  go_wp2
  go_loopw [5, 6] (fun v i wr => ∃ (m : Nat) (ins : Bool), m ≤ wn ∧ i = .int .i64 m ∧ v = .bool ins ∧ Hid (Below w.heap.size w wr ∧ CellsAt wr w.heap.size 0 [.string nm, .int .i64 en, .int .i64 kd, .int .i64 ms, .slice wa wn wc] ∧ (∀ j, j < m → WOk (ws.getD j wi0) ∧ (ws.getD j wi0).1 + (ws.getD j wi0).2.1 ≤ mem) ∧ (ins = true ↔ ∃ j, j < m ∧ Has (ws.getD j wi0) en ∧ 4 ≤ (ws.getD j wi0).2.2))) (fun _ i _ => wn - (intOf i).toNat)
  case atStart => exact ⟨0, false, by omega, rfl, rfl, HB2.out, HK2.out, fun j hj => absurd hj (by omega), ⟨fun h => (by cases h), fun ⟨j, hj, _⟩ => absurd hj (by omega)⟩⟩
  case round =>
    obtain ⟨m, ins, hm', rfl, rfl, HR⟩ := hrel
    have k4 : wr.cell? ⟨w.heap.size, 4, none⟩ = some (.slice wa wn wc) := cell0 HR.out.2.1 4 rfl
    have k1 : wr.cell? ⟨w.heap.size, 1, none⟩ = some (.int .i64 en) := cell0 HR.out.2.1 1 rfl
    by_cases hmn : m < wn
    rotate_left
    · obtain rfl : m = wn := by omega
      have HF : Hid (q = true ↔ (ins = true ∧ en % 4 = 0)) := HQ.out.trans ⟨fun h => ⟨HR.out.2.2.2.2 h.2.2.2.2.1, h.2.2.2.2.2⟩, fun h => ⟨H0.out, H1.out, HW4.out, HR.out.2.2.1, HR.out.2.2.2.1 h.1, h.2⟩⟩
      have HBF : Hid (Below w.heap.size w wr) := HR.out.1
      cases ins
      · have HT : Hid (q = false) := not_true HF.out (fun h => by cases h.1)
        clear HF HR
        go_wp2
        go_ret
        exact ⟨ret_bool HT.out.symm, HBF.out⟩
      · by_cases h4 : en % 4 = 0
        · have HT : Hid (q = true) := HF.out.2 ⟨by trivial, h4⟩
          have h4' : Int.tmod en 4 = 0 := HM4.out.2 h4
          clear HF HR
          go_wp2
          go_ret
          exact ⟨ret_bool HT.out.symm, HBF.out⟩
        · have HT : Hid (q = false) := not_true HF.out (fun h => h4 h.2)
          have h4' : (Int.tmod en 4 == 0) = false := by
            have : ¬ Int.tmod en 4 = 0 := fun h => h4 (HM4.out.1 h)
            simpa using this
          have h5' : (en % 4 == 0) = false := by simpa using h4
          clear HF HR h4
          go_wp2
          go_ret
          exact ⟨ret_bool HT.out.symm, HBF.out⟩
    have hmn' : (m : Int) < (wn : Int) := by omega
    obtain ⟨b1, o1, rfl, hbl1, p1⟩ := HSG.out.at m hmn
    replace p1 := p1.of (w' := wr) (fun j => HR.out.1.cell (p := ⟨b1, j, none⟩) hbl1)
    have HNO : Hid (¬ (WOk (ws.getD m wi0) ∧ (ws.getD m wi0).1 + (ws.getD m wi0).2.1 ≤ mem) → q = false) := fun h => HN.out trivial (fun g => h (g.2.2.2.1 m hmn))
    have HYA : Hid (WOk (ws.getD m wi0) ∧ (ws.getD m wi0).1 + (ws.getD m wi0).2.1 ≤ mem → ∀ j, j < m + 1 → WOk (ws.getD j wi0) ∧ (ws.getD j wi0).1 + (ws.getD j wi0).2.1 ≤ mem) := fun h j hj => by
      by_cases e : j = m
      · subst e; exact h
      · exact HR.out.2.2.1 j (by omega)
    have HYB : Hid (∀ r : Bool, (r = true ↔ (Has (ws.getD m wi0) en ∧ 4 ≤ (ws.getD m wi0).2.2)) → ((r || ins) = true ↔ ∃ j, j < m + 1 ∧ Has (ws.getD j wi0) en ∧ 4 ≤ (ws.getD j wi0).2.2)) := fun r hr => by
      rw [Bool.or_eq_true, hr, HR.out.2.2.2]
      constructor
      · rintro (h | ⟨j, hj, h⟩)
        · exact ⟨m, by omega, h⟩
        · exact ⟨j, by omega, h⟩
      · rintro ⟨j, hj, h⟩
        by_cases e : j = m
        · subst e; exact .inl h
        · exact .inr ⟨j, by omega, h⟩
    obtain ⟨qo, hqo⟩ := told (WOk (ws.getD m wi0))
    have HQO : Hid (qo = true ↔ WOk (ws.getD m wi0)) := hqo
    clear hqo
    simp only [wiX] at p1
    generalize ws.getD m wi0 = x at p1 HNO HYA HYB HQO
    obtain ⟨c0, c1, c2⟩ := wi_cells p1
    have HWO : Hid (∀ X, Calls Tryz.prog 72 #[win x.1 x.2.1 x.2.2] X fun e w' => e = .returned (.bool qo) ∧ Below X.heap.size X w') := fun X => spec_wok _ _ _ qo X HQO.out
    have HHS : Hid (WOk x → ∀ r : Bool, (r = true ↔ Has x en) → ∀ X, Calls Tryz.prog 64 #[win x.1 x.2.1 x.2.2, .int .i64 en] X fun e w' => e = .returned (.bool r) ∧ Below X.heap.size X w') := fun h r hr X => spec_has _ _ _ en r X h.fit hr
    have HFIT : Hid (WOk x → wrap64 (x.1 + x.2.1) = x.1 + x.2.1 ∧ (1 ≤ x.2.2 ∧ x.2.2 ≤ 7)) := fun h => ⟨h.fit, h.2.2.2.2.2.1, h.2.2.2.2.2.2⟩
    obtain ⟨x1, x2, x3⟩ := x
    simp only at c0 c1 c2 HWO HHS HNO HYA HYB HQO HFIT
    have hal : Below wr.heap.size wr (wr.alloc (.cells #[.int .i64 x1, .int .i64 x2, .int .i64 x3] 89)) := (Below.refl _ _).alloc (Nat.le_refl _) _
    have HBV : Hid (Below w.heap.size w (wr.alloc (.cells #[.int .i64 x1, .int .i64 x2, .int .i64 x3] 89)) ∧ CellsAt (wr.alloc (.cells #[.int .i64 x1, .int .i64 x2, .int .i64 x3] 89)) w.heap.size 0 [.string nm, .int .i64 en, .int .i64 kd, .int .i64 ms, .slice (some ⟨b1, o1, none⟩) wn wc] ∧ CellsAt (wr.alloc (.cells #[.int .i64 x1, .int .i64 x2, .int .i64 x3] 89)) wr.heap.size 0 [.int .i64 x1, .int .i64 x2, .int .i64 x3]) := ⟨HR.out.1.trans (hal.mono HR.out.1.size), HR.out.2.1.below hal, CellsAt.new wr [.int .i64 x1, .int .i64 x2, .int .i64 x3] 89 _ rfl⟩
    clear p1 hbl1 hal HR
    go_wp2_with fail
    refine Calls.mono (HWO.out _) ?_
    rintro e w4 ⟨rfl, hb4⟩
    have HB4 : Hid (Below w.heap.size w w4 ∧ CellsAt w4 w.heap.size 0 [.string nm, .int .i64 en, .int .i64 kd, .int .i64 ms, .slice (some ⟨b1, o1, none⟩) wn wc] ∧ CellsAt w4 wr.heap.size 0 [.int .i64 x1, .int .i64 x2, .int .i64 x3]) := ⟨HBV.out.1.trans (hb4.mono HBV.out.1.size), HBV.out.2.1.below hb4, HBV.out.2.2.below hb4⟩
    clear hb4 HBV HWO c0 c1 c2 k1 k4
    generalize wr.heap.size = Bv at HB4 ⊢
    cases qo
    · have HT : Hid (q = false) := HNO.out (fun h => by have := HQO.out.2 h.1; cases this)
      go_wp2
      go_ret
      exact ⟨ret_bool HT.out.symm, HB4.out.1⟩
    have hwk := HQO.out.1 (by trivial)
    obtain ⟨hfit, hp1, hp7⟩ := HFIT.out hwk
    have HWK : Hid (WinOk x1 x2 x3) := hwk
    obtain ⟨ex, HEX⟩ : ∃ ex, Hid (x1 + x2 = ex) := ⟨_, rfl⟩
    rw [HEX.out] at HNO HYA
    have d0 : w4.cell? ⟨Bv, 0, none⟩ = some (.int .i64 x1) := cell0 HB4.out.2.2 0 rfl
    have d1 : w4.cell? ⟨Bv, 1, none⟩ = some (.int .i64 x2) := cell0 HB4.out.2.2 1 rfl
    have d2 : w4.cell? ⟨Bv, 2, none⟩ = some (.int .i64 x3) := cell0 HB4.out.2.2 2 rfl
    have k1 : w4.cell? ⟨w.heap.size, 1, none⟩ = some (.int .i64 en) := cell0 HB4.out.2.1 1 rfl
    rw [HEX.out] at hfit
    have hexw : wrap64 (x1 + x2) = ex := by rw [HEX.out]; exact hfit
    have hD := div4 x3 ⟨hp1, hp7⟩
    clear HFIT HQO hwk hp1 hp7 hfit
    by_cases hle : ex ≤ mem
    rotate_left
    · have HT : Hid (q = false) := HNO.out (fun h => hle h.2)
      have hgt : mem < ex := by omega
      clear hD
      go_wp2
      go_ret
      exact ⟨ret_bool HT.out.symm, HB4.out.1⟩
    have hgt : ¬ mem < ex := by omega
    have HYA2 : Hid _ := HYA.out ⟨HWK.out, hle⟩
    obtain ⟨r, hr⟩ := told (Has (x1, x2, x3) en)
    have HRr : Hid (r = true ↔ Has (x1, x2, x3) en) := hr
    have HCH : Hid _ := HHS.out HWK.out r hr
    clear hr HHS HYA HNO
    obtain ⟨d, HDd⟩ : ∃ d, Hid (decide (4 ≤ x3) = d) := ⟨_, rfl⟩
    rw [HDd.out] at hD
    obtain ⟨hD1, hD2, hD3⟩ := hD
    go_wp2_with fail
    refine Calls.mono (HCH.out _) ?_
    rintro e w5 ⟨rfl, hb5⟩
    have HB5 : Hid (Below w.heap.size w w5 ∧ CellsAt w5 w.heap.size 0 [.string nm, .int .i64 en, .int .i64 kd, .int .i64 ms, .slice (some ⟨b1, o1, none⟩) wn wc]) := ⟨HB4.out.1.trans (hb5.mono HB4.out.1.size), HB4.out.2.1.below hb5⟩
    have d2 : w5.cell? ⟨Bv, 2, none⟩ = some (.int .i64 x3) := cell0 (HB4.out.2.2.below hb5) 2 rfl
    clear hb5 HB4 d0 d1 k1 HCH hexw
    cases r
    · have HI : Hid (ins = true ↔ ∃ j, j < m + 1 ∧ Has (ws.getD j wi0) en ∧ 4 ≤ (ws.getD j wi0).2.2) := by
        have h9 := HYB.out false ⟨fun h => (by cases h), fun h => (by have := HRr.out.2 h.1; cases this)⟩
        have h8 : ins = true ↔ ∃ j, j < m + 1 ∧ Has (ws.getD j wi0) en ∧ 4 ≤ (ws.getD j wi0).2.2 := by simpa using h9
        exact h8
      clear HYB HRr hD1 hD2 hD3 HDd
      go_wp2
      go_roundw
      case rel => exact ⟨m + 1, ins, by omega, by go_num, rfl, HB5.out.1, HB5.out.2, HYA2.out, HI.out⟩
      case measure => simp [intOf]; omega
    · have HI : Hid ((d || ins) = true ↔ ∃ j, j < m + 1 ∧ Has (ws.getD j wi0) en ∧ 4 ≤ (ws.getD j wi0).2.2) := HYB.out d ⟨fun h => ⟨HRr.out.1 (by trivial), of_decide_eq_true (HDd.out.trans h)⟩, fun h => by rw [← HDd.out]; exact decide_eq_true h.2⟩
      clear HYB HRr HDd
      cases d
      · go_wp2
        go_roundw
        case rel => exact ⟨m + 1, ins, by omega, by go_num, rfl, HB5.out.1, HB5.out.2, HYA2.out, by simpa using HI.out⟩
        case measure => simp [intOf]; omega
      · go_wp2
        go_roundw
        case rel => exact ⟨m + 1, true, by omega, by go_num, rfl, HB5.out.1, HB5.out.2, HYA2.out, by simpa using HI.out⟩
        case measure => simp [intOf]; omega
end Go.Proofs.YtofibnmbgfggkaaGreatDoor
