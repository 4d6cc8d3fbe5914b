
/-
  Partitions that are right, one and all: the specification's own function. Conditions: names and windows are at most 1048576.
-/
import Derived.Test.YtofibnmbgfggkaaGreatDoorBas
import Derived.Test.YtofibnmbgfggkaaGreatDoorRul
import Derived.Test.YtofibnmbgfggkaaGreatDoorLrw
import Derived.BigQuiet
import Derived.Test.YtofibnmbgfggkaaGreatDoorSp2
import Derived.Test.YtofibnmbgfggkaaGreatDoorWal
import Derived.Test.YtofibnmbgfggkaaGreatDoorClo3
namespace Go.Proofs.YtofibnmbgfggkaaGreatDoor
open Go.ChangeShapes Go.WideShapes Go.ChangeAt Go.RowKit Go.Deep Go.Joins
set_option linter.unusedVariables false

def Meet (x y : wiT) : Prop := x.1 < y.1 + y.2.1 ∧ y.1 < x.1 + x.2.1
def PartsP (ps : List Pt) (mem : Int) : Prop := (1 ≤ ps.length ∧ ps.length ≤ 6) ∧ (∀ i, i < ps.length → PartP (ps.getD i pt0) mem ∧ ∀ j, j < i → (ps.getD j pt0).nm ≠ (ps.getD i pt0).nm) ∧ ∀ i, i < (allW ps).length → ∀ j, j < i → ¬ Meet ((allW ps).getD j wi0) ((allW ps).getD i wi0)
def strEq (x y : ByteArray) : Bool := x.toList == y.toList
theorem strEq_iff {x y : ByteArray} : strEq x y = true ↔ x = y := by
  unfold strEq
  rw [ByteArray.toList_eq, ByteArray.toList_eq]
  constructor
  · intro h
    have : x.data.toList = y.data.toList := by simpa using h
    exact ByteArray.ext (by simpa using congrArg List.toArray this)
  · intro h
    subst h
    simp
set_option maxRecDepth 40000 in
set_option maxHeartbeats 8000000 in
theorem spec_parts0 (t : Tb) (pa da ca sa : Option Addr) (n pc dn dc cn cc sn sc : Nat) (ps : List Pt) (Y : Nat → Rw) (q : Bool) (w : World) (hs : PSegL 0 w pa n ps Y) (hl : ps.length = n) (hn : n ≤ 9223372036854775807) (hw : ∀ i, i < n → (Y i).wn ≤ 1048576 ∧ (Y i).nm.size ≤ 1048576) (hq : q = true ↔ PartsP ps t.mem) :
    Calls Tryz.prog 26 #[.agg #[.int .i64 t.mem, .int .i64 t.s1, .int .i64 t.s2, .int .i64 t.s3, .int .i64 t.tlb, .int .i64 t.c1, .int .i64 t.c2, .int .i64 t.c3, .int .i64 t.c4, .int .i64 t.c5, .int .i64 t.c6, .int .i64 t.c7, .int .i64 t.pad, .int .i64 t.grd, .int .i64 t.maj, .slice pa n pc, .slice da dn dc, .slice ca cn cc, .slice sa sn sc]] w fun e w' => e = .returned (.bool q) ∧ Below w.heap.size w w' := by
  have HS : Hid (PSegL 0 w pa n ps Y) := hs
  have HL : Hid (ps.length = n) := hl
  have HW : Hid (∀ i, i < n → (Y i).wn ≤ 1048576 ∧ (Y i).nm.size ≤ 1048576) := hw
  have HQ : Hid (q = true ↔ PartsP ps t.mem) := hq
  have HN : Hid (∀ {P : Prop}, P → ¬ PartsP ps t.mem → q = false) := fun _ h => not_true hq h
  clear hs hl hw hq
  have HB0 : Hid (Below w.heap.size w (w.alloc (.cells #[.int .i64 t.mem, .int .i64 t.s1, .int .i64 t.s2, .int .i64 t.s3, .int .i64 t.tlb, .int .i64 t.c1, .int .i64 t.c2, .int .i64 t.c3, .int .i64 t.c4, .int .i64 t.c5, .int .i64 t.c6, .int .i64 t.c7, .int .i64 t.pad, .int .i64 t.grd, .int .i64 t.maj, .slice pa n pc, .slice da dn dc, .slice ca cn cc, .slice sa sn sc] 40))) := (Below.refl _ _).alloc (Nat.le_refl _) _
  have HK0 : Hid (CellsAt (w.alloc (.cells #[.int .i64 t.mem, .int .i64 t.s1, .int .i64 t.s2, .int .i64 t.s3, .int .i64 t.tlb, .int .i64 t.c1, .int .i64 t.c2, .int .i64 t.c3, .int .i64 t.c4, .int .i64 t.c5, .int .i64 t.c6, .int .i64 t.c7, .int .i64 t.pad, .int .i64 t.grd, .int .i64 t.maj, .slice pa n pc, .slice da dn dc, .slice ca cn cc, .slice sa sn sc] 40)) w.heap.size 0 [.int .i64 t.mem, .int .i64 t.s1, .int .i64 t.s2, .int .i64 t.s3, .int .i64 t.tlb, .int .i64 t.c1, .int .i64 t.c2, .int .i64 t.c3, .int .i64 t.c4, .int .i64 t.c5, .int .i64 t.c6, .int .i64 t.c7, .int .i64 t.pad, .int .i64 t.grd, .int .i64 t.maj, .slice pa n pc, .slice da dn dc, .slice ca cn cc, .slice sa sn sc]) := CellsAt.new w [.int .i64 t.mem, .int .i64 t.s1, .int .i64 t.s2, .int .i64 t.s3, .int .i64 t.tlb, .int .i64 t.c1, .int .i64 t.c2, .int .i64 t.c3, .int .i64 t.c4, .int .i64 t.c5, .int .i64 t.c6, .int .i64 t.c7, .int .i64 t.pad, .int .i64 t.grd, .int .i64 t.maj, .slice pa n pc, .slice da dn dc, .slice ca cn cc, .slice sa sn sc] 40 _ rfl
  obtain ⟨b2, H2⟩ : ∃ b, Hid (inr (n : Int) 1 6 = b) := ⟨_, rfl⟩
  go_enter Tryz.func26, Tryz.ntmps26
  go_wp2_with fail
  refine (in_any (n : Int) 1 6 _).mono ?_
  rintro e w1 ⟨rfl, rfl⟩
  rw [H2.out]
  cases b2
  · have HT : Hid (q = false) := HN.out trivial (fun h => by have := h.1; rw [HL.out] at this; rw [inr_yes (by omega)] at H2; exact absurd H2.out (by simp))
    go_wp2
    go_ret
    exact ⟨ret_bool HT.out.symm, HB0.out⟩
  have hn6 : 1 ≤ n ∧ n ≤ 6 := by have := of_inr H2.out; omega
  go_wp2
  go_loopw [3] (fun i wr => ∃ m : Nat, m ≤ n ∧ i = .int .i64 m ∧ Hid (Below w.heap.size w wr ∧ CellsAt wr w.heap.size 0 [.int .i64 t.mem, .int .i64 t.s1, .int .i64 t.s2, .int .i64 t.s3, .int .i64 t.tlb, .int .i64 t.c1, .int .i64 t.c2, .int .i64 t.c3, .int .i64 t.c4, .int .i64 t.c5, .int .i64 t.c6, .int .i64 t.c7, .int .i64 t.pad, .int .i64 t.grd, .int .i64 t.maj, .slice pa n pc, .slice da dn dc, .slice ca cn cc, .slice sa sn sc] ∧ ∀ i, i < m → PartP (ps.getD i pt0) t.mem ∧ ∀ j, j < i → (ps.getD j pt0).nm ≠ (ps.getD i pt0).nm)) (fun i _ => n - (intOf i).toNat)
  case atStart => exact ⟨0, by omega, rfl, HB0.out, HK0.out, fun i hi => absurd hi (by omega)⟩
  case round =>
    obtain ⟨m, hm, rfl, HR⟩ := hrel
    have k15 : wr.cell? ⟨w.heap.size, 15, none⟩ = some (.slice pa n pc) := cell0 HR.out.2.1 15 rfl
    by_cases hmn : m < n
    rotate_left
    · obtain rfl : m = n := by omega
      have HAL : Hid (Calls Tryz.prog 54 #[.slice pa m pc] wr fun e w' => (∃ A c, e = .returned (.slice A (allW ps).length c) ∧ (allW ps).length ≤ c ∧ GSeg 3 w' A (allW ps).length (wiX (allW ps))) ∧ Below wr.heap.size wr w') := spec_all pa pc m ps Y wr (HS.out.below HR.out.1) HL.out (by omega) (fun i hi => by have := (HR.out.2.2 i hi).1.2.2.1; rw [(HS.out.2 i hi).ln] at this; exact this)
      have HPA : Hid (∀ i, i < m → PartP (ps.getD i pt0) t.mem ∧ ∀ j, j < i → (ps.getD j pt0).nm ≠ (ps.getD i pt0).nm) := HR.out.2.2
      have hN : (allW ps).length ≤ 24 := by
        have := allW_len (ps := ps) (fun i hi => ((HR.out.2.2 i (by rw [← HL.out]; exact hi)).1.2.2.1).2) ps.length (Nat.le_refl _)
        rw [List.take_length, HL.out] at this
        omega
      have HWK : Hid (∀ i, i < (allW ps).length → WOk ((allW ps).getD i wi0)) := fun i hi => by
        have hmem : (allW ps).getD i wi0 ∈ allW ps := by simp [List.getD, hi]
        obtain ⟨p, hp, j, hj, e⟩ := allW_mem hmem
        rw [e]
        exact ((HPA.out p (by rw [← HL.out]; exact hp)).1.2.2.2.1 j hj).1
      have HBR : Hid (Below w.heap.size w wr) := HR.out.1
      clear HR
      go_wp2_with fail
      refine Calls.mono HAL.out ?_
      rintro e w2 ⟨⟨A, c, rfl, hAc, hAs⟩, hb2⟩
      have HB2 : Hid (Below w.heap.size w w2) := HBR.out.trans (hb2.mono HBR.out.size)
      have HAS : Hid (GSeg 3 w2 A (allW ps).length (wiX (allW ps))) := hAs
      obtain ⟨xs, HXS⟩ : ∃ xs, Hid (allW ps = xs) := ⟨_, rfl⟩
      have HFN : Hid ((∀ i, i < xs.length → ∀ j, j < i → ¬ Meet (xs.getD j wi0) (xs.getD i wi0)) → q = true) := fun h => HQ.out.2 ⟨by rw [HL.out]; exact hn6, by rw [HL.out]; exact HPA.out, by rw [HXS.out]; exact h⟩
      have HFM : Hid (∀ i, i < xs.length → ∀ j, j < i → Meet (xs.getD j wi0) (xs.getD i wi0) → q = false) := fun i hi j hj h => HN.out trivial (fun g => by have := g.2.2 i (by rw [HXS.out]; exact hi) j hj; rw [HXS.out] at this; exact this h)
      rw [HXS.out] at HAS HWK hN
      rw [HXS.out]
      clear hb2 hAc hAs HBR HAL HPA HXS HQ HN k15
      obtain ⟨N, HNN⟩ : ∃ N, Hid (xs.length = N) := ⟨_, rfl⟩
      rw [HNN.out] at HAS HWK hN HFN HFM
      rw [HNN.out]
      go_wp2
      go_loopw [6] (fun i wq => ∃ m : Nat, m ≤ N ∧ i = .int .i64 m ∧ Hid (Below w2.heap.size w2 wq ∧ ∀ i, i < m → ∀ j, j < i → ¬ Meet (xs.getD j wi0) (xs.getD i wi0))) (fun i _ => N - (intOf i).toNat)
      case atStart => exact ⟨0, by omega, rfl, Below.refl _ _, fun i hi => absurd hi (by omega)⟩
      case round =>
        rename World => wq
        obtain ⟨i, hi, rfl, HR⟩ := hrel
        by_cases hiN : i < N
        rotate_left
        · obtain rfl : i = N := by omega
          have HT : Hid (q = true) := HFN.out HR.out.2
          have HBF : Hid (Below w.heap.size w wq) := HB2.out.trans (HR.out.1.mono HB2.out.size)
          clear HR
          go_wp2
          go_ret
          exact ⟨ret_bool HT.out.symm, HBF.out⟩
        have hiN' : (i : Int) < (N : Int) := by omega
        go_wp2
        go_loopw [7] (fun v wz => ∃ k : Nat, k ≤ i ∧ v = .int .i64 k ∧ Hid (Below w2.heap.size w2 wz ∧ ∀ j, j < k → ¬ Meet (xs.getD j wi0) (xs.getD i wi0))) (fun v _ => i - (intOf v).toNat)
        case atStart => exact ⟨0, by omega, rfl, HR.out.1, fun j hj => absurd hj (by omega)⟩
        case round =>
          rename World => wz
          obtain ⟨k, hk, rfl, HR2⟩ := hrel
          by_cases hki : k < i
          rotate_left
          · obtain rfl : k = i := by omega
            have HR3 : Hid (∀ j, j < k + 1 → ∀ j', j' < j → ¬ Meet (xs.getD j' wi0) (xs.getD j wi0)) := fun j hj j' hj' => by
              by_cases e : j = k
              · subst e; exact HR2.out.2 j' hj'
              · exact HR.out.2 j (by omega) j' hj'
            go_wp2
            go_roundw
            case rel => exact ⟨k + 1, by omega, by go_num, HR2.out.1, HR3.out⟩
            case measure => simp [intOf]; omega
          have hki' : (k : Int) < (i : Int) := by omega
          have hkN' : (k : Int) < (N : Int) := by omega
          obtain ⟨b1, o1, rfl, hbl1, p1⟩ := HAS.out.at i hiN
          obtain ⟨b2, o2, hbe, hbl2, p2⟩ := HAS.out.at k (by omega)
          cases hbe
          replace p1 := p1.of (w' := wz) (fun j => HR2.out.1.cell (p := ⟨b1, j, none⟩) hbl1)
          replace p2 := p2.of (w' := wz) (fun j => HR2.out.1.cell (p := ⟨b1, j, none⟩) hbl1)
          have hwi := HWK.out i hiN
          have hwk := HWK.out k (by omega)
          have HM1 : Hid (Meet (xs.getD k wi0) (xs.getD i wi0) → q = false) := HFM.out i hiN k hki
          obtain ⟨PP, HPP⟩ : ∃ PP : Prop, Hid (PP ↔ ∀ j, j < k + 1 → ¬ Meet (xs.getD j wi0) (xs.getD i wi0)) := ⟨_, Iff.rfl⟩
          have HM2 : Hid (¬ Meet (xs.getD k wi0) (xs.getD i wi0) → PP) := fun h => HPP.out.2 (fun j hj => by
            by_cases e : j = k
            · subst e; exact h
            · exact HR2.out.2 j (by omega))
          have HBZ : Hid (Below w2.heap.size w2 wz) := HR2.out.1
          simp only [wiX] at p1 p2
          obtain ⟨x, HXI⟩ : ∃ x, Hid (xs.getD i wi0 = x) := ⟨_, rfl⟩
          obtain ⟨y, HYK⟩ : ∃ y, Hid (xs.getD k wi0 = y) := ⟨_, rfl⟩
          rw [HXI.out] at p1 hwi HM1 HM2
          rw [HYK.out] at p2 hwk HM1 HM2
          clear HXI HYK
          obtain ⟨c0, c1, c2⟩ := wi_cells p1
          obtain ⟨d0, d1, d2⟩ := wi_cells p2
          have hf1 := hwi.fit
          have hf2 := hwk.fit
          obtain ⟨x1, x2, x3⟩ := x
          obtain ⟨y1, y2, y3⟩ := y
          simp only [Meet] at c0 c1 c2 d0 d1 d2 hf1 hf2 HM1 HM2
          obtain ⟨ex, HEX⟩ : ∃ e, Hid (x1 + x2 = e) := ⟨_, rfl⟩
          obtain ⟨ey, HEY⟩ : ∃ e, Hid (y1 + y2 = e) := ⟨_, rfl⟩
          rw [HEX.out] at HM1 HM2
          rw [HEY.out] at HM1 HM2
          have hg1 : wrap64 (x1 + x2) = ex := hf1.trans HEX.out
          have hg2 : wrap64 (y1 + y2) = ey := hf2.trans HEY.out
          have hh1 : IntKind.i64.wrap (x1 + x2) = ex := by
            have g1 : 0 ≤ x1 := hwi.1
            have g2 : 4 ≤ x2 := hwi.2.1
            have g3 : x1 + x2 ≤ 2048 := hwi.2.2.2.2.1
            rw [← HEX.out, IntKind.wrap_i64]
            omega
          have hh2 : IntKind.i64.wrap (y1 + y2) = ey := by
            have g1 : 0 ≤ y1 := hwk.1
            have g2 : 4 ≤ y2 := hwk.2.1
            have g3 : y1 + y2 ≤ 2048 := hwk.2.2.2.2.1
            rw [← HEY.out, IntKind.wrap_i64]
            omega
          clear p1 p2 hbl1 hwi hwk hf1 hf2 HR2
          replace c0 := fun X => gr_cell c0 X
          replace c1 := fun X => gr_cell c1 X
          replace c2 := fun X => gr_cell c2 X
          replace d0 := fun X => gr_cell d0 X
          replace d1 := fun X => gr_cell d1 X
          replace d2 := fun X => gr_cell d2 X
          by_cases h1 : y1 < ex
          · by_cases h2 : x1 < ey
            · have HT : Hid (q = false) := HM1.out ⟨h1, h2⟩
              go_wp2
              have hgr := gr_some wz
              refine region_alike (by kernel_rfl) (by kernel_rfl) ?_
              repeat (go_big_quiet_step (fail))
              refine wpQuiet_nil ?_
              intro _ hw'
              obtain ⟨X1, rfl⟩ := hw'
              have hb9 := X1.h
              generalize X1.w = W1 at hb9 ⊢
              have HB9 : Hid (Below w.heap.size w W1) := HB2.out.trans ((HBZ.out.trans (hb9.mono HBZ.out.size)).mono HB2.out.size)
              clear hb9 c0 c1 c2 d0 d1 d2
              go_wp2
              go_ret
              exact ⟨ret_bool HT.out.symm, HB9.out⟩
            · have HT : Hid PP := HM2.out (fun h => h2 h.2)
              have h2' : decide (x1 < ey) = false := decide_eq_false h2
              clear h2
              go_wp2
              have hgr := gr_some wz
              refine region_alike (by kernel_rfl) (by kernel_rfl) ?_
              repeat (go_big_quiet_step (fail))
              refine wpQuiet_nil ?_
              intro _ hw'
              obtain ⟨X1, rfl⟩ := hw'
              have hb9 := X1.h
              generalize X1.w = W1 at hb9 ⊢
              have HB9 : Hid (Below w2.heap.size w2 W1) := HBZ.out.trans (hb9.mono HBZ.out.size)
              clear hb9 c0 c1 c2 d0 d1 d2
              go_wp2
              go_roundw
              case rel => exact ⟨k + 1, by omega, by go_num, HB9.out, HPP.out.1 HT.out⟩
              case measure => simp [intOf]; omega
          · have HT : Hid PP := HM2.out (fun h => h1 h.1)
            have h1' : decide (y1 < ex) = false := decide_eq_false h1
            clear h1
            go_wp2
            have hgr := gr_some wz
            refine region_alike (by kernel_rfl) (by kernel_rfl) ?_
            repeat (go_big_quiet_step (fail))
            refine wpQuiet_nil ?_
            intro _ hw'
            obtain ⟨X1, rfl⟩ := hw'
            have hb9 := X1.h
            generalize X1.w = W1 at hb9 ⊢
            have HB9 : Hid (Below w2.heap.size w2 W1) := HBZ.out.trans (hb9.mono HBZ.out.size)
            clear hb9 c0 c1 c2 d0 d1 d2
            go_wp2
            go_roundw
            case rel => exact ⟨k + 1, by omega, by go_num, HB9.out, HPP.out.1 HT.out⟩
            case measure => simp [intOf]; omega
    have hmn' : (m : Int) < (n : Int) := by omega
    obtain ⟨b1, o1, rfl, hbl1, p0⟩ := HS.out.1.seg.at m hmn
    have HP : Hid (∀ X, Below w.heap.size w X → ∀ i, i < n → CellsAt X b1 (o1 + i * 5) (rwL (Y i))) := fun X hX i hi => by
      obtain ⟨b2, o2, e, hbl2, p2⟩ := HS.out.1.seg.at i hi
      cases e
      exact p2.of (fun j => hX.cell (p := ⟨b1, j, none⟩) hbl1)
    obtain ⟨c0, c1, c2, c3, c4⟩ := rw_cells (HP.out _ HR.out.1 m hmn)
    obtain ⟨qp, hqp⟩ := told (PartP (ps.getD m pt0) t.mem)
    have HQP : Hid (qp = true ↔ PartP (ps.getD m pt0) t.mem) := hqp
    have HPT : Hid (∀ x : Gr wr, Calls Tryz.prog 53 #[rwV (Y m), .int .i64 t.mem] x.w fun e w' => e = .returned (.bool qp) ∧ Below x.w.heap.size x.w w') := fun x => spec_part (Y m) (ps.getD m pt0) t.mem qp x.w ((HS.out.2 m hmn).below (HR.out.1.trans (x.h.mono HR.out.1.size))) (HW.out m hmn).1 (HW.out m hmn).2 hqp
    clear hqp p0
    have k0 : wr.cell? ⟨w.heap.size, 0, none⟩ = some (.int .i64 t.mem) := cell0 HR.out.2.1 0 rfl
    generalize hYm : Y m = y at c0 c1 c2 c3 c4 HPT
    have HYm : Hid (Y m = y) := hYm
    clear hYm
    obtain ⟨nm, en, kd, ms, wa, wn, wc⟩ := y
    simp only [rwV] at c0 c1 c2 c3 c4 HPT
    have HBR : Hid (Below w.heap.size w wr ∧ CellsAt wr w.heap.size 0 [.int .i64 t.mem, .int .i64 t.s1, .int .i64 t.s2, .int .i64 t.s3, .int .i64 t.tlb, .int .i64 t.c1, .int .i64 t.c2, .int .i64 t.c3, .int .i64 t.c4, .int .i64 t.c5, .int .i64 t.c6, .int .i64 t.c7, .int .i64 t.pad, .int .i64 t.grd, .int .i64 t.maj, .slice (some ⟨b1, o1, none⟩) n pc, .slice da dn dc, .slice ca cn cc, .slice sa sn sc]) := ⟨HR.out.1, HR.out.2.1⟩
    have HPR : Hid (∀ i, i < m → PartP (ps.getD i pt0) t.mem ∧ ∀ j, j < i → (ps.getD j pt0).nm ≠ (ps.getD i pt0).nm) := HR.out.2.2
    clear HR
    have k15' := k15
    replace k15 := fun X => gr_cell k15 X
    replace k0 := fun X => gr_cell k0 X
    replace c0 := fun X => gr_cell c0 X
    replace c1 := fun X => gr_cell c1 X
    replace c2 := fun X => gr_cell c2 X
    replace c3 := fun X => gr_cell c3 X
    replace c4 := fun X => gr_cell c4 X
    go_wp2
    have hgr := gr_some wr
    refine region_alike (by kernel_rfl) (by kernel_rfl) ?_
    repeat (go_big_quiet_step (first | (go_at_call 53; exact gr_call (HPT.out _))))
    refine wpQuiet_nil ?_
    intro _ hw'
    obtain ⟨X1, rfl⟩ := hw'
    have hb9 := X1.h
    generalize X1.w = W1 at hb9 ⊢
    have HB9 : Hid (Below w.heap.size w W1 ∧ CellsAt W1 w.heap.size 0 [.int .i64 t.mem, .int .i64 t.s1, .int .i64 t.s2, .int .i64 t.s3, .int .i64 t.tlb, .int .i64 t.c1, .int .i64 t.c2, .int .i64 t.c3, .int .i64 t.c4, .int .i64 t.c5, .int .i64 t.c6, .int .i64 t.c7, .int .i64 t.pad, .int .i64 t.grd, .int .i64 t.maj, .slice (some ⟨b1, o1, none⟩) n pc, .slice da dn dc, .slice ca cn cc, .slice sa sn sc]) := ⟨HBR.out.1.trans (hb9.mono HBR.out.1.size), HBR.out.2.below hb9⟩
    clear hb9 c0 c1 c2 c3 c4 k15 k0 k15' HBR HPT
    cases qp
    · have HT : Hid (q = false) := HN.out trivial (fun h => by have := HQP.out.2 (h.2.1 m (by rw [HL.out]; exact hmn)).1; cases this)
      go_wp2
      go_ret
      exact ⟨ret_bool HT.out.symm, HB9.out.1⟩
    have HPm : Hid _ := HQP.out.1 (by trivial)
    clear HQP
    go_wp2
    go_loopw [4] (fun v wq => ∃ k : Nat, k ≤ m ∧ v = .int .i64 k ∧ Hid (Below w.heap.size w wq ∧ CellsAt wq w.heap.size 0 [.int .i64 t.mem, .int .i64 t.s1, .int .i64 t.s2, .int .i64 t.s3, .int .i64 t.tlb, .int .i64 t.c1, .int .i64 t.c2, .int .i64 t.c3, .int .i64 t.c4, .int .i64 t.c5, .int .i64 t.c6, .int .i64 t.c7, .int .i64 t.pad, .int .i64 t.grd, .int .i64 t.maj, .slice (some ⟨b1, o1, none⟩) n pc, .slice da dn dc, .slice ca cn cc, .slice sa sn sc] ∧ ∀ j, j < k → (ps.getD j pt0).nm ≠ (ps.getD m pt0).nm)) (fun v _ => m - (intOf v).toNat)
    case atStart => exact ⟨0, by omega, rfl, HB9.out.1, HB9.out.2, fun j hj => absurd hj (by omega)⟩
    case round =>
      rename World => wq
      obtain ⟨k, hk, rfl, HR2⟩ := hrel
      by_cases hkm : k < m
      rotate_left
      · obtain rfl : k = m := by omega
        have HR3 : Hid (∀ i, i < k + 1 → PartP (ps.getD i pt0) t.mem ∧ ∀ j, j < i → (ps.getD j pt0).nm ≠ (ps.getD i pt0).nm) := fun i hi => by
          by_cases e : i = k
          · subst e; exact ⟨HPm.out, HR2.out.2.2⟩
          · exact HPR.out i (by omega)
        go_wp2
        go_roundw
        case rel => exact ⟨k + 1, by omega, by go_num, HR2.out.1, HR2.out.2.1, HR3.out⟩
        case measure => simp [intOf]; omega
      have hkm' : (k : Int) < (m : Int) := by omega
      have hkn' : (k : Int) < (n : Int) := by omega
      have c0 := (rw_cells (HP.out _ HR2.out.1 m hmn)).1
      have d0 := (rw_cells (HP.out _ HR2.out.1 k (by omega))).1
      have k15 : wq.cell? ⟨w.heap.size, 15, none⟩ = some (.slice (some ⟨b1, o1, none⟩) n pc) := cell0 HR2.out.2.1 15 rfl
      have HNE : Hid (strEq (Y k).nm (Y m).nm = true → q = false) := fun h => HN.out trivial (fun g => (g.2.1 m (by rw [HL.out]; exact hmn)).2 k hkm (by rw [← (HS.out.2 k (by omega)).nm, ← (HS.out.2 m hmn).nm]; exact strEq_iff.1 h))
      have HNN : Hid (strEq (Y k).nm (Y m).nm = false → ∀ j, j < k + 1 → (ps.getD j pt0).nm ≠ (ps.getD m pt0).nm) := fun h j hj => by
        by_cases e : j = k
        · subst e
          rw [← (HS.out.2 j (by omega)).nm, ← (HS.out.2 m hmn).nm]
          intro g
          rw [strEq_iff.2 g] at h
          cases h
        · exact HR2.out.2.2 j (by omega)
      have HBQ : Hid (Below w.heap.size w wq ∧ CellsAt wq w.heap.size 0 [.int .i64 t.mem, .int .i64 t.s1, .int .i64 t.s2, .int .i64 t.s3, .int .i64 t.tlb, .int .i64 t.c1, .int .i64 t.c2, .int .i64 t.c3, .int .i64 t.c4, .int .i64 t.c5, .int .i64 t.c6, .int .i64 t.c7, .int .i64 t.pad, .int .i64 t.grd, .int .i64 t.maj, .slice (some ⟨b1, o1, none⟩) n pc, .slice da dn dc, .slice ca cn cc, .slice sa sn sc]) := ⟨HR2.out.1, HR2.out.2.1⟩
      generalize (Y m).nm = nm1 at c0 HNE HNN
      generalize (Y k).nm = nm2 at d0 HNE HNN
      obtain ⟨se, HSE⟩ : ∃ b, Hid (strEq nm2 nm1 = b) := ⟨_, rfl⟩
      rw [HSE.out] at HNE HNN
      have hse : (nm2.toList == nm1.toList) = se := HSE.out
      clear HR2
      have k15' := k15
      replace c0 := fun X => gr_cell c0 X
      replace d0 := fun X => gr_cell d0 X
      replace k15 := fun X => gr_cell k15 X
      go_wp2
      have hgr := gr_some wq
      refine region_alike (by kernel_rfl) (by kernel_rfl) ?_
      repeat (go_big_quiet_step (fail))
      refine wpQuiet_nil ?_
      intro _ hw'
      obtain ⟨X1, rfl⟩ := hw'
      have hb9 := X1.h
      generalize X1.w = W2 at hb9 ⊢
      have HB8 : Hid (Below w.heap.size w W2 ∧ CellsAt W2 w.heap.size 0 [.int .i64 t.mem, .int .i64 t.s1, .int .i64 t.s2, .int .i64 t.s3, .int .i64 t.tlb, .int .i64 t.c1, .int .i64 t.c2, .int .i64 t.c3, .int .i64 t.c4, .int .i64 t.c5, .int .i64 t.c6, .int .i64 t.c7, .int .i64 t.pad, .int .i64 t.grd, .int .i64 t.maj, .slice (some ⟨b1, o1, none⟩) n pc, .slice da dn dc, .slice ca cn cc, .slice sa sn sc]) := ⟨HBQ.out.1.trans (hb9.mono HBQ.out.1.size), HBQ.out.2.below hb9⟩
      clear hb9 c0 d0 k15 k15' HBQ hse HSE
      cases se
      · have HT : Hid _ := HNN.out (by trivial)
        go_wp2
        go_roundw
        case rel => exact ⟨k + 1, by omega, by go_num, HB8.out.1, HB8.out.2, HT.out⟩
        case measure => simp [intOf]; omega
      · have HT : Hid (q = false) := HNE.out (by trivial)
        go_wp2
        go_ret
        exact ⟨ret_bool HT.out.symm, HB8.out.1⟩
theorem spec_parts (t : Tb) (a : Ad) (q : Bool) (w : World) (hm : TM 0 w t a) (hw : TW t a) (hs : TS a) (hq : q = true ↔ PartsP t.ps t.mem) :
    Calls Tryz.prog 26 #[tbV t a] w fun e w' => e = .returned (.bool q) ∧ Below w.heap.size w w' :=
  spec_parts0 t a.pa a.da a.ca a.sa a.pn a.pc a.dn a.dc a.cn a.cc a.sn a.sc t.ps a.Y q w hm.p hw.pl hw.pb hs.w hq
end Go.Proofs.YtofibnmbgfggkaaGreatDoor
