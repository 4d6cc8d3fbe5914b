
/-
  A guest right or not for windows that are right: both sides. Conditions: the windows are right, the lists lie in memory.
-/
import Derived.Test.YtknipnenipdgiaaGreatDoorBas
import Derived.Test.YtknipnenipdgiaaGreatDoorWat
import Derived.Test.YtknipnenipdgiaaGreatDoorRul
import Derived.Test.YtknipnenipdgiaaGreatDoorGsa
import Derived.Test.YtknipnenipdgiaaGreatDoorApj
import Derived.Deep.QuietTactic
import Derived.Deep.RegionWith
import Derived.Deep.RegionHeld3
import Derived.BigQuiet
namespace Go.Proofs.YtknipnenipdgiaaGreatDoor
open Go.ChangeShapes Go.WideShapes Go.ChangeAt Go.RowKit Go.Deep Go.Joins
set_option linter.unusedVariables false

theorem allW_at {ps : List Pt} {i j : Nat} (hi : i < ps.length) (hj : j < (ps.getD i pt0).ws.length) : (allW (ps.take i)).length + j < (allW ps).length ∧ (allW ps).getD ((allW (ps.take i)).length + j) wi0 = (ps.getD i pt0).ws.getD j wi0 := by
  have e : allW ps = allW (ps.take i) ++ ((ps.getD i pt0).ws ++ allW (ps.drop (i + 1))) := by
    have h0 : ps.take i ++ (ps.getD i pt0 :: ps.drop (i + 1)) = ps := by
      have : ps.getD i pt0 = ps[i] := by simp [List.getD, hi]
      rw [this, ← List.drop_eq_getElem_cons hi, List.take_append_drop]
    have h1 : allW (ps.take i ++ (ps.getD i pt0 :: ps.drop (i + 1))) = allW (ps.take i) ++ ((ps.getD i pt0).ws ++ allW (ps.drop (i + 1))) := by simp only [allW, List.map_append, List.map_cons, List.flatten_append, List.flatten_cons]
    rw [h0] at h1
    exact h1
  generalize allW (ps.take i) = A at e ⊢
  generalize allW (ps.drop (i + 1)) = C at e
  generalize (ps.getD i pt0).ws = B at e hj ⊢
  rw [e]
  constructor
  · rw [List.length_append, List.length_append]; omega
  · simp only [List.getD]
    rw [List.getElem?_append_right (by omega), Nat.add_sub_cancel_left, List.getElem?_append_left hj]
theorem sd_wsok {t : Tb} (h : Sd t) {i : Nat} (hi : i < t.ps.length) : WsOk (t.ps.getD i pt0).ws := by
  have r12 := h 12 (by omega)
  have r13 := h 13 (by omega)
  have r14 := h 14 (by omega)
  simp only [R] at r12 r13 r14
  refine ⟨(r12 i hi).2, fun j hj => ⟨?_, fun k hk => ?_⟩⟩
  · have := (r13 _ (allW_at hi hj).1).1
    rw [(allW_at hi hj).2] at this
    exact this
  · have := r14 _ (allW_at hi hj).1 ((allW (t.ps.take i)).length + k) (by omega)
    rw [(allW_at hi hj).2, (allW_at hi (Nat.lt_trans hk hj)).2] at this
    exact this
theorem Good.aseg {lo : Nat} {w : World} {y : Rw} {p : Pt} (h : Good lo w y p) : ASeg w y.wa p.ws := by
  unfold ASeg
  rw [h.ln]
  exact h.sg.seg
/-- The windows up to the m-th are right and lie apart. -/
def WsTo (xs : List Wn) (m : Nat) : Prop := ∀ i, i < m → WOk (xs.getD i wn0) ∧ ∀ k, k < i → ApartP (xs.getD k wn0) (xs.getD i wn0)
set_option maxHeartbeats 4000000 in
theorem spec_wsok (a : Option Addr) (cap n : Nat) (xs : List Wn) (q : Bool) (w : World) (hs : ASeg w a xs) (hl : xs.length = n) (hn : n ≤ 9223372036854775807) (hq : q = true ↔ WsOk xs) :
    Calls Tryz.prog 123 #[.slice a n cap] w fun e w' => e = .returned (.bool q) ∧ Below w.heap.size w w' := by
  have HQ : Hid _ := hq
  have HS : Hid (ASeg w a xs) := hs
  have HL : Hid _ := hl
  clear hq hs hl
  by_cases h4 : n ≤ 4
  rotate_left
  · have h4' : (4 : Int) < (n : Int) := by omega
    have HT : Hid (q = false) := not_true HQ.out (fun h => h4 (by rw [← HL.out]; exact h.1))
    go_enter Tryz.func123, Tryz.ntmps123
    go_wp2
    go_ret
    exact ⟨ret_bool HT.out.symm, Below.refl _ _⟩
  have h4' : ¬ (4 : Int) < (n : Int) := by omega
  go_enter Tryz.func123, Tryz.ntmps123
  go_wp2
  go_loopw [3] (fun i wr => ∃ m : Nat, m ≤ n ∧ i = .int .i64 m ∧ Hid (Below w.heap.size w wr ∧ WsTo xs m)) (fun i _ => n - (intOf i).toNat)
  case atStart => exact ⟨0, by omega, rfl, Below.refl _ _, fun i hi => absurd hi (by omega)⟩
  case round =>
    obtain ⟨m, hm, rfl, HR⟩ := hrel
    by_cases hmn : m < n
    rotate_left
    · obtain rfl : m = n := by omega
      have HT : Hid (q = true) := HQ.out.2 ⟨by rw [HL.out]; exact h4, by rw [HL.out]; exact HR.out.2⟩
      go_wp2
      go_ret
      exact ⟨ret_bool HT.out.symm, HR.out.1⟩
    have hmn' : (m : Int) < (n : Int) := by omega
    obtain ⟨b1, o1, rfl, hbl1, p1⟩ := ASeg.at HS.out m (by rw [HL.out]; exact hmn)
    have hbl : b1 < wr.heap.size := Nat.lt_of_lt_of_le hbl1 HR.out.1.size
    have HP : Hid (∀ X, Below w.heap.size w X → ∀ i, i < n → P3 X b1 (o1 + i * 3) (xs.getD i wn0)) := fun X hX i hi => by
      obtain ⟨b2, o2, e, hbl2, p2⟩ := ASeg.at HS.out i (by rw [HL.out]; exact hi)
      cases e
      exact p2.of (fun j => hX.cell (p := ⟨b1, j, none⟩) hbl1)
    obtain ⟨c0, c1, c2⟩ := HP.out _ HR.out.1 m hmn
    obtain ⟨qo, hqo⟩ := told (WOk (xs.getD m wn0))
    have HQO : Hid _ := hqo
    obtain ⟨y, HY⟩ : ∃ y, Hid (xs.getD m wn0 = y) := ⟨_, rfl⟩
    rw [HY.out] at c0 c1 c2
    have HW : Hid (∀ X, Calls Tryz.prog 196 #[win y.1 y.2.1 y.2.2] X fun e w' => e = .returned (.bool qo) ∧ Below X.heap.size X w') := fun X => by
      rw [← HY.out]; exact spec_wok _ _ _ qo X HQO.out
    have HA : Hid (∀ (x : Wn) (r : Bool) X, (r = true ↔ ApartP x y) → Calls Tryz.prog 197 #[win x.1 x.2.1 x.2.2, win y.1 y.2.1 y.2.2] X fun e w' => e = .returned (.bool r) ∧ Below X.heap.size X w') := fun x r X h => spec_apart x y r X h
    have HYC : Hid (∀ X, Below w.heap.size w X → P3 X b1 (o1 + m * 3) y) := fun X hX => by rw [← HY.out]; exact HP.out X hX m hmn
    clear hqo p1 hbl1
    obtain ⟨y1, y2, y3⟩ := y
    simp only at c0 c1 c2 HW HA HYC
    go_wp2_with fail
    refine (HW.out _).mono ?_
    rintro u w1 ⟨rfl, hb1⟩
    have HB1 : Hid (Below w.heap.size w w1) := HR.out.1.trans (hb1.mono HR.out.1.size)
    clear hb1 c0 c1 c2 hbl
    cases qo
    · have HT : Hid (q = false) := not_true HQ.out (fun h => by
        have := HQO.out.2 (h.2 m (by rw [HL.out]; exact hmn)).1
        cases this)
      go_wp2
      go_ret
      exact ⟨ret_bool HT.out.symm, HB1.out⟩
    have HO : Hid (WOk (xs.getD m wn0)) := HQO.out.1 (by trivial)
    clear HQO
    go_wp2
    go_loopw [4] (fun i wr => ∃ k : Nat, k ≤ m ∧ i = .int .i64 k ∧ Hid (Below w.heap.size w wr ∧ ∀ j, j < k → ApartP (xs.getD j wn0) (xs.getD m wn0))) (fun i _ => m - (intOf i).toNat)
    case atStart => exact ⟨0, by omega, rfl, HB1.out, fun i hi => absurd hi (by omega)⟩
    case round =>
      obtain ⟨k, hk, rfl, HR2⟩ := hrel
      by_cases hkm : k < m
      rotate_left
      · obtain rfl : k = m := by omega
        have HR3 : Hid (WsTo xs (k + 1)) := fun i hi => by
          by_cases e : i = k
          · subst e; exact ⟨HO.out, HR2.out.2⟩
          · exact HR.out.2 i (by omega)
        go_wp2
        go_roundw
        case rel => exact ⟨k + 1, by omega, by go_num, HR2.out.1, HR3.out⟩
        case measure => simp [intOf]; omega
      have hkm' : (k : Int) < (m : Int) := by omega
      have hkn' : (k : Int) < (n : Int) := by omega
      obtain ⟨x, HX⟩ : ∃ x, Hid (xs.getD k wn0 = x) := ⟨_, rfl⟩
      obtain ⟨r, hr⟩ := told (ApartP x (y1, y2, y3))
      have HRR : Hid _ := hr
      have HAX : Hid _ := fun X => HA.out x r X hr
      clear hr
      have P1 := HP.out _ HR2.out.1 k (by omega)
      rw [HX.out] at P1
      have P2 := HYC.out _ HR2.out.1
      obtain ⟨x1, x2, x3⟩ := x
      simp only [P3] at P1 P2 HAX
      have c0 := fun X => gr_cell P1.1 X
      have c1 := fun X => gr_cell P1.2.1 X
      have c2 := fun X => gr_cell P1.2.2 X
      have d0 := fun X => gr_cell P2.1 X
      have d1 := fun X => gr_cell P2.2.1 X
      have d2 := fun X => gr_cell P2.2.2 X
      clear P1 P2
      go_wp2
      have hgr := gr_some wr
      refine region_alike (by kernel_rfl) (by kernel_rfl) ?_
      repeat (go_big_quiet_step (first | (go_at_call 197; exact gr_call (HAX.out _))))
      refine wpQuiet_nil ?_
      intro _ hw'
      obtain ⟨X1, rfl⟩ := hw'
      have hb2 := X1.h
      generalize X1.w = W1 at hb2 ⊢
      have HB2 : Hid (Below w.heap.size w W1) := HR2.out.1.trans (hb2.mono HR2.out.1.size)
      clear hb2 c0 c1 c2 d0 d1 d2
      cases r
      · have HT : Hid (q = false) := not_true HQ.out (fun h => by
          have h1 := (h.2 m (by rw [HL.out]; exact hmn)).2 k hkm
          rw [HX.out, HY.out] at h1
          have := HRR.out.2 h1
          cases this)
        go_wp2
        go_ret
        exact ⟨ret_bool HT.out.symm, HB2.out⟩
      · have HR3 : Hid (∀ j, j < k + 1 → ApartP (xs.getD j wn0) (xs.getD m wn0)) := fun j hj => by
          by_cases e : j = k
          · subst e
            rw [HX.out, HY.out]
            exact HRR.out.1 (by trivial)
          · exact HR2.out.2 j (by omega)
        go_wp2
        go_roundw
        case rel => exact ⟨k + 1, by omega, by go_num, HB2.out, HR3.out⟩
        case measure => simp [intOf]; omega
def GOk (xs : List Wn) (rs : List Int) (n : Nat) (D : Nat → List Int) : Prop := rs.length = 16 ∧ rs.getD 0 0 = 0 ∧ n = xs.length ∧ ∀ i, i < n → ((D i).length : Int) = (xs.getD i wn0).2.1
theorem op_no {a b : Int} (h : ¬ a = b) : (a == b) = false := beq_eq_false_iff_ne.2 h
set_option maxRecDepth 20000 in
set_option maxHeartbeats 2000000 in
theorem spec_gok (a ra ma : Option Addr) (cap wn rl rc n mc : Nat) (pc : Int) (xs : List Wn) (rs : List Int) (D : Nat → List Int) (q : Bool) (w : World) (hs : ASeg w a xs) (hl : xs.length = wn) (hn : wn ≤ 9223372036854775807) (hc : wn ≤ cap) (hg : XGSeg w ra ma rs n D) (hrl : rs.length = rl) (hok : WsOk xs) (hq : q = true ↔ GOk xs rs n D) :
    Calls Tryz.prog 42 #[.slice a wn cap, gst ra rl rc pc ma n mc] w fun e w' => e = .returned (.bool q) ∧ Below w.heap.size w w' := by
  have HQ : Hid _ := hq
  have HS : Hid (ASeg w a xs ∧ xs.length = wn) := ⟨hs, hl⟩
  have HG : Hid (XGSeg w ra ma rs n D ∧ rs.length = rl) := ⟨hg, hrl⟩
  have B0 := Bk.new w #[.slice ra rl rc, .int .u32 pc, .slice ma n mc] 62 w.heap.size rfl
  have HB : Hid (Below w.heap.size w (w.alloc (.cells #[.slice ra rl rc, .int .u32 pc, .slice ma n mc] 62))) := (Below.refl _ w).alloc (Nat.le_refl _) _
  have HW : Hid (Calls Tryz.prog 123 #[.slice a wn cap] (w.alloc (.cells #[.slice ra rl rc, .int .u32 pc, .slice ma n mc] 62)) fun e w' => e = .returned (.bool true) ∧ Below (w.alloc (.cells #[.slice ra rl rc, .int .u32 pc, .slice ma n mc] 62)).heap.size (w.alloc (.cells #[.slice ra rl rc, .int .u32 pc, .slice ma n mc] 62)) w') := spec_wsok a cap wn xs true _ (HS.out.1.below HB.out) HS.out.2 hn ⟨fun _ => hok, fun _ => rfl⟩
  clear hq hs hl hg hrl
  go_enter Tryz.func42, Tryz.ntmps42
  go_wp2_with fail
  refine HW.out.mono ?_
  rintro u w1 ⟨rfl, hb1⟩
  have HB1 : Hid (Below w.heap.size w w1) := HB.out.trans (hb1.mono HB.out.size)
  replace B0 := B0.below hb1
  clear hb1 HB HW
  have HOK : Hid (WsOk xs) := hok
  have c0 := B0.cell 0 _ rfl
  have c2 := B0.cell 2 _ rfl
  by_cases h16 : rl = 16
  rotate_left
  · have h16' : ((rl : Int) == 16) = false := op_no (by omega)
    have HT : Hid (q = false) := not_true HQ.out (fun h => h16 (by rw [← HG.out.2]; exact h.1))
    go_wp2
    go_ret
    exact ⟨ret_bool HT.out.symm, HB1.out⟩
  subst h16
  obtain ⟨b0, o0, rfl, hbl0, r0⟩ := Seg.at HG.out.1.1 0 (by have := HG.out.2; omega)
  replace r0 := (HB1.out.cell (p := ⟨b0, o0 + 0, none⟩) hbl0).trans r0
  rw [Nat.add_zero] at r0
  by_cases hr0 : rs.getD 0 0 = 0
  rotate_left
  · have hr0' : (rs.getD 0 0 == 0) = false := op_no hr0
    have HT : Hid (q = false) := not_true HQ.out (fun h => hr0 h.2.1)
    generalize rs.getD 0 0 = z at r0 hr0'
    clear hr0 hbl0
    go_wp2
    go_ret
    exact ⟨ret_bool HT.out.symm, HB1.out⟩
  have HR0 : Hid _ := hr0
  rw [hr0] at r0
  clear hr0 hbl0
  by_cases hnn : n = wn
  rotate_left
  · have hnn' : ((n : Int) == (wn : Int)) = false := op_no (by omega)
    have HT : Hid (q = false) := not_true HQ.out (fun h => hnn (by rw [← HS.out.2]; exact h.2.2.1))
    go_wp2
    go_ret
    exact ⟨ret_bool HT.out.symm, HB1.out⟩
  subst hnn
  go_wp2
  go_loopw [5] (fun i wr => ∃ k : Nat, k ≤ n ∧ i = .int .i64 k ∧ Hid (Below w1.heap.size w1 wr ∧ ∀ i, i < k → ((D i).length : Int) = (xs.getD i wn0).2.1)) (fun i _ => n - (intOf i).toNat)
  case atStart => exact ⟨0, by omega, rfl, Below.refl _ _, fun i hi => absurd hi (by omega)⟩
  case round =>
    obtain ⟨k, hk, rfl, HR⟩ := hrel
    by_cases hlt : k < n
    rotate_left
    · obtain rfl : k = n := by omega
      have HT : Hid (q = true) := HQ.out.2 ⟨HG.out.2, HR0.out, HS.out.2.symm, HR.out.2⟩
      go_wp2
      go_ret
      exact ⟨ret_bool HT.out.symm, HB1.out.trans (HR.out.1.mono HB1.out.size)⟩
    have hlt' : (k : Int) < (n : Int) := by omega
    have hb := HR.out.1
    obtain ⟨b1, o1, rfl, hbl1, p0, p1, p2⟩ := ASeg.at HS.out.1 k (by rw [HS.out.2]; exact hlt)
    obtain ⟨b2, o2, ai, ci, rfl, hbl2, e2, _⟩ := BSeg.at HG.out.1.2 k hlt
    have hbw := HB1.out.trans (hb.mono HB1.out.size)
    replace p0 := (hbw.cell (p := ⟨b1, o1 + k * 3, none⟩) hbl1).trans p0
    replace p1 := (hbw.cell (p := ⟨b1, o1 + k * 3 + 1, none⟩) hbl1).trans p1
    replace p2 := (hbw.cell (p := ⟨b1, o1 + k * 3 + 2, none⟩) hbl1).trans p2
    replace e2 := (hbw.cell (p := ⟨b2, o2 + k, none⟩) hbl2).trans e2
    replace c2 := kept_cell hb c2
    have HB2 : Hid _ := And.intro hb hbw
    have HY : Hid (((D k).length : Int) = (xs.getD k wn0).2.1 → ∀ i, i < k + 1 → ((D i).length : Int) = (xs.getD i wn0).2.1) := fun e i hi => by
      by_cases c : i = k
      · subst c; exact e
      · exact HR.out.2 i (by omega)
    have HN : Hid (¬ ((D k).length : Int) = (xs.getD k wn0).2.1 → q = false) := fun e => not_true HQ.out (fun h => e (h.2.2.2 k hlt))
    generalize (D k).length = len at e2 HY HN
    generalize xs.getD k wn0 = y at p0 p1 p2 HY HN
    obtain ⟨y1, y2, y3⟩ := y
    simp only at p0 p1 p2 HY HN
    clear hbl1 hbl2 hb hbw HR
    by_cases hz : (len : Int) = y2
    · subst hz
      have HT : Hid _ := HY.out rfl
      clear HY HN
      go_wp2
      go_quiet (fail)
      go_wp2
      go_roundw
      case rel => exact ⟨k + 1, by omega, by go_num, below_drewN HB2.out.1 _, HT.out⟩
      case measure => simp [intOf]; omega
    · have hz' : ((len : Int) == y2) = false := op_no hz
      have HT : Hid (q = false) := HN.out hz
      clear HY HN hz
      go_wp2
      go_quiet (fail)
      go_wp2
      go_ret
      exact ⟨ret_bool HT.out.symm, below_drewN HB2.out.2 _⟩
set_option maxRecDepth 20000 in
set_option maxHeartbeats 2000000 in
theorem impl_gok (a ra ma : Option Addr) (cap wn rl rc n mc : Nat) (pc : Int) (xs : List Wn) (rs : List Int) (D : Nat → List Int) (q : Bool) (w : World) (hs : ASeg w a xs) (hl : xs.length = wn) (hn : wn ≤ 9223372036854775807) (hc : wn ≤ cap) (hg : XGSeg w ra ma rs n D) (hrl : rs.length = rl) (hok : WsOk xs) (hq : q = true ↔ GOk xs rs n D) :
    Calls Tryz.prog 63 #[.slice a wn cap, gst ra rl rc pc ma n mc] w fun e w' => e = .returned (.bool q) ∧ Below w.heap.size w w' := by
  have HQ : Hid _ := hq
  have HS : Hid (ASeg w a xs ∧ xs.length = wn) := ⟨hs, hl⟩
  have HG : Hid (XGSeg w ra ma rs n D ∧ rs.length = rl) := ⟨hg, hrl⟩
  have B0 := Bk.new w #[.slice ra rl rc, .int .u32 pc, .slice ma n mc] 62 w.heap.size rfl
  have HB : Hid (Below w.heap.size w (w.alloc (.cells #[.slice ra rl rc, .int .u32 pc, .slice ma n mc] 62))) := (Below.refl _ w).alloc (Nat.le_refl _) _
  have HW : Hid (Calls Tryz.prog 138 #[.slice a wn cap] (w.alloc (.cells #[.slice ra rl rc, .int .u32 pc, .slice ma n mc] 62)) fun e w' => e = .returned (.bool true) ∧ Below (w.alloc (.cells #[.slice ra rl rc, .int .u32 pc, .slice ma n mc] 62)).heap.size (w.alloc (.cells #[.slice ra rl rc, .int .u32 pc, .slice ma n mc] 62)) w') := impl_wsok a cap wn xs _ (HS.out.1.below HB.out) HS.out.2 hn hc hok
  clear hq hs hl hg hrl
  go_enter Tryz.func63, Tryz.ntmps63
  go_wp2_with fail
  refine HW.out.mono ?_
  rintro u w1 ⟨rfl, hb1⟩
  have HB1 : Hid (Below w.heap.size w w1) := HB.out.trans (hb1.mono HB.out.size)
  replace B0 := B0.below hb1
  clear hb1 HB HW
  have HOK : Hid (WsOk xs) := hok
  have c0 := B0.cell 0 _ rfl
  have c2 := B0.cell 2 _ rfl
  by_cases h16 : rl = 16
  rotate_left
  · have h16' : ((rl : Int) == 16) = false := op_no (by omega)
    have HT : Hid (q = false) := not_true HQ.out (fun h => h16 (by rw [← HG.out.2]; exact h.1))
    go_wp2
    go_ret
    exact ⟨ret_bool HT.out.symm, HB1.out⟩
  subst h16
  obtain ⟨b0, o0, rfl, hbl0, r0⟩ := Seg.at HG.out.1.1 0 (by have := HG.out.2; omega)
  replace r0 := (HB1.out.cell (p := ⟨b0, o0 + 0, none⟩) hbl0).trans r0
  rw [Nat.add_zero] at r0
  by_cases hr0 : rs.getD 0 0 = 0
  rotate_left
  · have hr0' : (rs.getD 0 0 == 0) = false := op_no hr0
    have HT : Hid (q = false) := not_true HQ.out (fun h => hr0 h.2.1)
    generalize rs.getD 0 0 = z at r0 hr0'
    clear hr0 hbl0
    go_wp2
    go_ret
    exact ⟨ret_bool HT.out.symm, HB1.out⟩
  have HR0 : Hid _ := hr0
  rw [hr0] at r0
  clear hr0 hbl0
  by_cases hnn : n = wn
  rotate_left
  · have hnn' : ((n : Int) == (wn : Int)) = false := op_no (by omega)
    have HT : Hid (q = false) := not_true HQ.out (fun h => hnn (by rw [← HS.out.2]; exact h.2.2.1))
    go_wp2
    go_ret
    exact ⟨ret_bool HT.out.symm, HB1.out⟩
  subst hnn
  go_wp2
  go_loopw [33] (fun i wr => ∃ k : Nat, k ≤ n ∧ i = .int .i64 k ∧ Hid (Below w1.heap.size w1 wr ∧ ∀ i, i < k → ((D i).length : Int) = (xs.getD i wn0).2.1)) (fun i _ => n - (intOf i).toNat)
  case atStart => exact ⟨0, by omega, rfl, Below.refl _ _, fun i hi => absurd hi (by omega)⟩
  case round =>
    obtain ⟨k, hk, rfl, HR⟩ := hrel
    by_cases hlt : k < n
    rotate_left
    · obtain rfl : k = n := by omega
      have HT : Hid (q = true) := HQ.out.2 ⟨HG.out.2, HR0.out, HS.out.2.symm, HR.out.2⟩
      go_wp2
      go_ret
      exact ⟨ret_bool HT.out.symm, HB1.out.trans (HR.out.1.mono HB1.out.size)⟩
    have hlt' : (k : Int) < (n : Int) := by omega
    have hb := HR.out.1
    obtain ⟨b1, o1, rfl, hbl1, p0, p1, p2⟩ := ASeg.at HS.out.1 k (by rw [HS.out.2]; exact hlt)
    obtain ⟨b2, o2, ai, ci, rfl, hbl2, e2, _⟩ := BSeg.at HG.out.1.2 k hlt
    have hbw := HB1.out.trans (hb.mono HB1.out.size)
    replace p0 := (hbw.cell (p := ⟨b1, o1 + k * 3, none⟩) hbl1).trans p0
    replace p1 := (hbw.cell (p := ⟨b1, o1 + k * 3 + 1, none⟩) hbl1).trans p1
    replace p2 := (hbw.cell (p := ⟨b1, o1 + k * 3 + 2, none⟩) hbl1).trans p2
    replace e2 := (hbw.cell (p := ⟨b2, o2 + k, none⟩) hbl2).trans e2
    replace c2 := kept_cell hb c2
    have HB2 : Hid _ := And.intro hb hbw
    have HY : Hid (((D k).length : Int) = (xs.getD k wn0).2.1 → ∀ i, i < k + 1 → ((D i).length : Int) = (xs.getD i wn0).2.1) := fun e i hi => by
      by_cases c : i = k
      · subst c; exact e
      · exact HR.out.2 i (by omega)
    have HN : Hid (¬ ((D k).length : Int) = (xs.getD k wn0).2.1 → q = false) := fun e => not_true HQ.out (fun h => e (h.2.2.2 k hlt))
    generalize (D k).length = len at e2 HY HN
    generalize xs.getD k wn0 = y at p0 p1 p2 HY HN
    obtain ⟨y1, y2, y3⟩ := y
    simp only at p0 p1 p2 HY HN
    clear hbl1 hbl2 hb hbw HR
    by_cases hz : (len : Int) = y2
    · subst hz
      have HT : Hid _ := HY.out rfl
      clear HY HN
      have d1 := new_cell wr #[.int .i64 y1, .int .i64 (len : Int), .int .i64 y3] 192 1 _ rfl
      have c2' := cell_alloc_l (.cells #[.int .i64 y1, .int .i64 (len : Int), .int .i64 y3] 192) c2
      have e2' := cell_alloc_l (.cells #[.int .i64 y1, .int .i64 (len : Int), .int .i64 y3] 192) e2
      have HB3 : Hid (Below w1.heap.size w1 (wr.alloc (.cells #[.int .i64 y1, .int .i64 (len : Int), .int .i64 y3] 192)) ∧ Below w.heap.size w (wr.alloc (.cells #[.int .i64 y1, .int .i64 (len : Int), .int .i64 y3] 192))) := ⟨HB2.out.1.alloc HB2.out.1.size _, HB2.out.2.alloc HB2.out.2.size _⟩
      go_wp2
      go_quiet (fail)
      go_wp2
      go_roundw
      case rel => exact ⟨k + 1, by omega, by go_num, below_drewN HB3.out.1 _, HT.out⟩
      case measure => simp [intOf]; omega
    · have hz' : ((len : Int) == y2) = false := op_no hz
      have HT : Hid (q = false) := HN.out hz
      clear HY HN hz
      have d1 := new_cell wr #[.int .i64 y1, .int .i64 y2, .int .i64 y3] 192 1 _ rfl
      have c2' := cell_alloc_l (.cells #[.int .i64 y1, .int .i64 y2, .int .i64 y3] 192) c2
      have e2' := cell_alloc_l (.cells #[.int .i64 y1, .int .i64 y2, .int .i64 y3] 192) e2
      have HB3 : Hid (Below w1.heap.size w1 (wr.alloc (.cells #[.int .i64 y1, .int .i64 y2, .int .i64 y3] 192)) ∧ Below w.heap.size w (wr.alloc (.cells #[.int .i64 y1, .int .i64 y2, .int .i64 y3] 192))) := ⟨HB2.out.1.alloc HB2.out.1.size _, HB2.out.2.alloc HB2.out.2.size _⟩
      go_wp2
      go_quiet (fail)
      go_wp2
      go_ret
      exact ⟨ret_bool HT.out.symm, below_drewN HB3.out.2 _⟩
end Go.Proofs.YtknipnenipdgiaaGreatDoor
