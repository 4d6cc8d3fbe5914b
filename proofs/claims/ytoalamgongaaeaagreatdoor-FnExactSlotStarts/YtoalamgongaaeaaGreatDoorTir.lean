
/-
  The next first cycle of a slot: both sides, and the law, walked. Conditions: the lists lie in memory; the program's table of extras holds what the program's text lays.
-/
import Derived.Test.YtoalamgongaaeaaGreatDoorBas
import Derived.Test.YtoalamgongaaeaaGreatDoorLsw
import Derived.Test.YtoalamgongaaeaaGreatDoorTih
import Derived.Test.YtoalamgongaaeaaGreatDoorTio
namespace Go.Proofs.YtoalamgongaaeaaGreatDoor
open Go.ChangeShapes Go.WideShapes Go.ChangeAt Go.RowKit Go.Deep Go.Joins
set_option linter.unusedVariables false

/-- Whose slot begins at a place, or -1. -/
def firF (ss : List slT) (p : Int) : Nat → Int
  | 0 => -1
  | k + 1 => if 0 ≤ firF ss p k then firF ss p k else if (ss.getD k sl0).2.1 = p then (ss.getD k sl0).1 else -1
def firV (t : Tb) (p : Int) : Int := firF t.ss p t.ss.length
theorem firF_cases {t : Tb} (h : Tm t) (p : Int) : ∀ k, k ≤ t.ss.length → (firF t.ss p k = -1 ∧ ∀ i, i < k → (t.ss.getD i sl0).2.1 ≠ p) ∨ ∃ i : Nat, i < k ∧ (t.ss.getD i sl0).2.1 = p ∧ firF t.ss p k = (t.ss.getD i sl0).1 := by
  intro k
  induction k with
  | zero => intro _; exact .inl ⟨rfl, fun i hi => by omega⟩
  | succ k ih =>
    intro hk
    rcases ih (by omega) with ⟨g, hn⟩ | ⟨i, hi, hp, he⟩
    · by_cases q : (t.ss.getD k sl0).2.1 = p
      · refine .inr ⟨k, by omega, q, ?_⟩
        simp only [firF]
        rw [g, if_neg (by omega), if_pos q]
      · refine .inl ⟨?_, fun i hi => ?_⟩
        · simp only [firF]
          rw [g, if_neg (by omega), if_neg q]
        · by_cases e : i = k
          · subst e; exact q
          · exact hn i (by omega)
    · refine .inr ⟨i, by omega, hp, ?_⟩
      have := (h.pt i (by omega)).1
      simp only [firF]
      rw [he, if_pos this]
theorem firV_cases {t : Tb} (h : Tm t) (p : Int) : (firV t p = -1 ∧ ∀ i, i < t.ss.length → (t.ss.getD i sl0).2.1 ≠ p) ∨ ∃ i : Nat, i < t.ss.length ∧ (t.ss.getD i sl0).2.1 = p ∧ firV t p = (t.ss.getD i sl0).1 := firF_cases h p _ (Nat.le_refl _)
theorem firF_yes {t : Tb} (h : Tm t) {p : Int} {k : Nat} (hk : firF t.ss p k = -1) (hp : (t.ss.getD k sl0).2.1 = p) {n : Nat} (hn : k < n) (hl : n ≤ t.ss.length) : firF t.ss p n = (t.ss.getD k sl0).1 := by
  have h0 := (h.pt k (by omega)).1
  induction n with
  | zero => omega
  | succ n ih =>
    simp only [firF]
    by_cases e : k = n
    · subst e
      rw [hk, if_neg (by omega), if_pos hp]
    · rw [ih (by omega) (by omega), if_pos h0]
theorem firF_no {ss : List slT} {p : Int} {k : Nat} (h : firF ss p k = -1) (hp : ¬ (ss.getD k sl0).2.1 = p) : firF ss p (k + 1) = -1 := by
  simp only [firF]
  rw [h, if_neg (by omega), if_neg hp]
set_option maxRecDepth 40000 in
set_option maxHeartbeats 4000000 in
theorem spec_first (t : Tb) (a : Ad) (c : Int) (w : World) (hm : TM 0 w t a) (hw : TW t a) (hs : TS a) (ht : Tm t) (hc : 0 ≤ c) (hc2 : c ≤ 1000000) :
    Calls Tryz.prog 82 #[tbV t a, .int .i64 c] w fun e w' => e = .returned (.int .i64 (firV t (c % t.maj))) ∧ Below w.heap.size w w' := by
  have hL : t.ss.length = a.sn := hw.sl
  have hn : a.sn ≤ 1048576 := hs.s
  have HSL : Hid (∀ X, Below w.heap.size w X → GSeg 3 X a.sa a.sn (slX t.ss)) := fun X hX => (hm.below hX).s.seg
  have HTM : Hid (Tm t) := ht
  have hpp : 0 ≤ c % t.maj ∧ c % t.maj < t.maj := mod_lt ht.maj1
  have hmj : t.maj ≤ 5000 := ht.maj2
  have hm0 : ¬ (t.maj = 0) := by have := ht.maj1; omega
  have HB0 : Hid (Below w.heap.size w (w.alloc (.cells (tbA t a) 40))) := (Below.refl _ _).alloc (Nat.le_refl _) _
  have HX0 : Hid (TBx (w.alloc (.cells (tbA t a) 40)) w.heap.size t a) := TBx.new w t a _ rfl
  have k14 : (w.alloc (.cells (tbA t a) 40)).cell? ⟨w.heap.size, 14, none⟩ = some (.int .i64 t.maj) := HX0.out.cell 14 rfl
  have HV : Hid (firV t (c % t.maj) = firF t.ss (c % t.maj) a.sn) := by show _ = _; rw [← hL]; rfl
  rw [HV.out]
  obtain ⟨p, HP⟩ : ∃ p, Hid (c % t.maj = p) := ⟨_, rfl⟩
  rw [HP.out] at hpp ⊢
  clear hm hw hs ht HV
  go_enter Tryz.func82, Tryz.ntmps82
  go_wp2
  clear k14
  have HX1 : Hid (∀ X, Below (w.alloc (.cells (tbA t a) 40)).heap.size (w.alloc (.cells (tbA t a) 40)) X → TBx X w.heap.size t a) := fun X hX => HX0.out.below hX
  revert HB0 HX1
  clear HX0
  generalize w.alloc (.cells (tbA t a) 40) = V0
  intro HB0 HX1
  go_loopw [5] (fun i wr => ∃ m : Nat, m ≤ a.sn ∧ i = .int .i64 m ∧ Hid (firF t.ss p m = -1 ∧ Below V0.heap.size V0 wr)) (fun i _ => a.sn - (intOf i).toNat)
  case atStart => exact ⟨0, by omega, rfl, rfl, Below.refl _ _⟩
  case round =>
    obtain ⟨m, hm, rfl, HR⟩ := hrel
    have HBR : Hid (Below w.heap.size w wr) := HB0.out.trans (HR.out.2.mono HB0.out.size)
    have HXR : Hid (TBx wr w.heap.size t a) := HX1.out _ HR.out.2
    by_cases hmn : m < a.sn
    rotate_left
    · obtain rfl : m = a.sn := by omega
      have HT : Hid (-1 = firF t.ss p a.sn) := HR.out.1.symm
      have k18 : wr.cell? ⟨w.heap.size, 18, none⟩ = some (.slice a.sa a.sn a.sc) := HXR.out.cell 18 rfl
      clear HR HXR HX1
      go_wp2
      go_ret
      exact ⟨ret_int HT.out, HBR.out⟩
    have hmn' : (m : Int) < (a.sn : Int) := by omega
    have k14 : wr.cell? ⟨w.heap.size, 14, none⟩ = some (.int .i64 t.maj) := HXR.out.cell 14 rfl
    obtain ⟨b1, o1, hsa, hbl1, p1⟩ := (HSL.out _ HBR.out).at m hmn
    have k18 : wr.cell? ⟨w.heap.size, 18, none⟩ = some (.slice (some ⟨b1, o1, none⟩) a.sn a.sc) := by rw [← hsa]; exact HXR.out.cell 18 rfl
    have hx1 := HTM.out.st m (by omega)
    have hx2 := HTM.out.ln m (by omega)
    have hx3 := HTM.out.en m (by omega)
    have hq1 := HTM.out.pad1
    have hq2 := HTM.out.grd1
    have HY : Hid ((t.ss.getD m sl0).2.1 = p → (t.ss.getD m sl0).1 = firF t.ss p a.sn) := fun h => (firF_yes HTM.out HR.out.1 h hmn (by omega)).symm
    have HNO : Hid (¬ (t.ss.getD m sl0).2.1 = p → firF t.ss p (m + 1) = -1) := fun h => firF_no HR.out.1 h
    simp only [slX] at p1
    generalize t.ss.getD m sl0 = y at p1 hx1 hx2 hx3 HY HNO
    obtain ⟨c0, c1, c2⟩ := sl_cells p1
    obtain ⟨x1, x2, x3⟩ := y
    simp only at c0 c1 c2 hx1 hx2 hx3 HY HNO
    have hw1 : IntKind.i64.wrap (x2 + x3) = x2 + x3 := by rw [IntKind.wrap_i64]; omega
    have G18 := fun X => gr_cell (W0 := wr) k18 X
    have G14 := fun X => gr_cell (W0 := wr) k14 X
    have G0 := fun X => gr_cell (W0 := wr) c0 X
    have G1 := fun X => gr_cell (W0 := wr) c1 X
    have G2 := fun X => gr_cell (W0 := wr) c2 X
    clear p1 hbl1
    have HRB : Hid (Below V0.heap.size V0 wr) := HR.out.2
    have HBX : Hid (∀ X, Below wr.heap.size wr X → Below V0.heap.size V0 X) := fun X hX => HRB.out.trans (hX.mono HRB.out.size)
    have HC0 : Hid (∀ X, Below wr.heap.size wr X → X.cell? ⟨w.heap.size, 18, none⟩ = some (.slice (some ⟨b1, o1, none⟩) a.sn a.sc) ∧ X.cell? ⟨b1, o1 + m * 3, none⟩ = some (.int .i64 x1)) := fun X hX => ⟨kept_cell hX k18, kept_cell hX c0⟩
    clear HR
    by_cases h1 : x2 = c % t.maj
    · have HT : Hid (x1 = firF t.ss p a.sn) := HY.out (h1.trans HP.out)
      have hb : (x2 == c % t.maj) = true := by simpa using h1
      clear HY HNO
      go_wp2
      have hgr := gr_some wr
      refine region_alike (by kernel_rfl) (by kernel_rfl) ?_
      repeat (first | (go_big_quiet_step (fail)) | (rw [hb]))
      refine wpQuiet_nil ?_
      intro _ hw'
      obtain ⟨X1, rfl⟩ := hw'
      have HBE : Hid (Below w.heap.size w X1.w) := HBR.out.trans (X1.h.mono HBR.out.size)
      have d18 := (HC0.out _ X1.h).1
      have d0 := (HC0.out _ X1.h).2
      generalize X1.w = Wz at HBE d18 d0 ⊢
      clear hgr G18 G14 G0 G1 G2 HBX k18 k14 c0 c1 c2 HC0
      try rw [hb]
      go_wp2
      go_ret
      exact ⟨ret_int HT.out, HBE.out⟩
    · have HT : Hid (firF t.ss p (m + 1) = -1) := HNO.out (fun g => h1 (g.trans HP.out.symm))
      have hb : (x2 == c % t.maj) = false := by simpa using h1
      clear HY HNO
      go_wp2
      have hgr := gr_some wr
      refine region_alike (by kernel_rfl) (by kernel_rfl) ?_
      repeat (first | (go_big_quiet_step (fail)) | (rw [hb]))
      refine wpQuiet_nil ?_
      intro _ hw'
      obtain ⟨X1, rfl⟩ := hw'
      have HBE : Hid (Below V0.heap.size V0 X1.w) := HBX.out _ X1.h
      generalize X1.w = Wz at HBE ⊢
      clear hgr G18 G14 G0 G1 G2 HBX k18 k14 c0 c1 c2 HC0
      try rw [hb]
      go_wp2
      go_roundw
      case rel => exact ⟨m + 1, by omega, by go_num, HT.out, HBE.out⟩
      case measure => simp [intOf]; omega
/-- The answer of NextSwitch. -/
def NR (t : Tb) (c r : Int) : Prop := (¬ (Sd t ∧ IsC c) ∧ r = -1) ∨ ((Sd t ∧ IsC c) ∧ NX t c r)
theorem NR.unique {t : Tb} {c r s : Int} (h : NR t c r) (g : NR t c s) : r = s := by
  rcases h with ⟨h, rfl⟩ | ⟨h, h1⟩ <;> rcases g with ⟨g, rfl⟩ | ⟨g, g1⟩
  · rfl
  · exact absurd g h
  · exact absurd h g
  · exact h1.unique g1
set_option maxRecDepth 40000 in
set_option maxHeartbeats 4000000 in
theorem impl_nextswitch (t : Tb) (a : Ad) (c : Int) (w : World) (hm : TM 0 w t a) (hw : TW t a) (hs : TS a) (he : TabE w) (hcp : a.pn ≤ a.pc) (hcs : a.sn ≤ a.sc) :
    Calls Tryz.prog 36 #[tbV t a, .int .i64 c] w fun e w' => (∃ r : Int, e = .returned (.int .i64 r) ∧ NR t c r) ∧ Below w.heap.size w w' := by
  obtain ⟨q, hq⟩ := told (Sd t ∧ IsC c)
  have HB0 : Hid (Below w.heap.size w (w.alloc (.cells (tbA t a) 40))) := (Below.refl _ _).alloc (Nat.le_refl _) _
  have HX0 : Hid (TBx (w.alloc (.cells (tbA t a) 40)) w.heap.size t a) := TBx.new w t a _ rfl
  have hbA : Below (w.alloc (.cells (tbA t a) 40)).heap.size (w.alloc (.cells (tbA t a) 40)) ((w.alloc (.cells (tbA t a) 40)).alloc (.cells #[.int .i64 c] 3)) := (Below.refl _ _).alloc (Nat.le_refl _) _
  have HBA : Hid (Below w.heap.size w ((w.alloc (.cells (tbA t a) 40)).alloc (.cells #[.int .i64 c] 3))) := HB0.out.trans (hbA.mono HB0.out.size)
  have HXA : Hid (TBx ((w.alloc (.cells (tbA t a) 40)).alloc (.cells #[.int .i64 c] 3)) w.heap.size t a) := HX0.out.below hbA
  have KA : Hid (GSeg 1 ((w.alloc (.cells (tbA t a) 40)).alloc (.cells #[.int .i64 c] 3)) (some ⟨w.heap.size + 1, 0, none⟩) 1 (inX [c])) := fun _ => ⟨w.heap.size + 1, 0, rfl, by simp, fun i hi => by
    have : i = 0 := by omega
    subst this
    exact CellsAt.new (w.alloc (.cells (tbA t a) 40)) [.int .i64 c] _ _ (by simp)⟩
  have HK : Hid (Calls Tryz.prog 74 #[tbV t a, .slice (some ⟨w.heap.size + 1, 0, none⟩) 1 1] ((w.alloc (.cells (tbA t a) 40)).alloc (.cells #[.int .i64 c] 3)) fun e w' => e = .returned (.bool q) ∧ Below ((w.alloc (.cells (tbA t a) 40)).alloc (.cells #[.int .i64 c] 3)).heap.size ((w.alloc (.cells (tbA t a) 40)).alloc (.cells #[.int .i64 c] 3)) w') :=
    keeps t a [c] 1 1 _ q _ (hm.below HBA.out) hw hs (he.below HBA.out) hcp KA.out (by omega) (hq.trans ⟨fun h => ⟨fun i hi => by
      have : i = 0 := by omega
      subst this; exact h.2, h.1⟩, fun h => ⟨h.2, h.1 0 (by omega)⟩⟩)
  have HI : Hid (Sd t ∧ IsC c → ∀ X, Below w.heap.size w X → Calls Tryz.prog 83 #[tbV t a, .int .i64 c] X fun e w' => (∃ (i : Nat) (r : Int), e = .returned (.agg #[.int .i64 (t.ss.getD i sl0).1, .int .i64 r, .int .i64 (t.ss.getD i sl0).2.2]) ∧ TN t c i r) ∧ Below X.heap.size X w') := fun h X hX => next_turn t a c X (hm.below hX) hw hs hcs (sd_tm h.1) h.2.1 (by have := h.2.2; omega)
  have HQ : Hid (q = true ↔ (Sd t ∧ IsC c)) := hq
  clear hm hw hs hq he hcp hcs KA hbA HB0
  go_enter Tryz.func36, Tryz.ntmps36
  go_wp2_with (first | (refine wpList_load_row rfl 40 (.tmp 2) rfl w.heap.size rfl 40 (tbA t a) (0, 0) _ HX0.out Tryz.underlying40 rfl (by kernel_rfl) ?_) | fail)
  refine Calls.mono HK.out ?_
  rintro e w1 ⟨rfl, hb1⟩
  have HB1 : Hid (Below w.heap.size w w1) := HBA.out.trans (hb1.mono HBA.out.size)
  have HX1 : Hid (TBx w1 w.heap.size t a) := HXA.out.below hb1
  clear hb1 HBA HXA HK HX0
  cases q
  · have HT : Hid (¬ (Sd t ∧ IsC c)) := fun h => by have := HQ.out.2 h; cases this
    clear HQ HI HX1
    go_wp2
    go_ret
    exact ⟨⟨_, rfl, .inl ⟨HT.out, rfl⟩⟩, HB1.out⟩
  have HT : Hid (Sd t ∧ IsC c) := HQ.out.1 rfl
  clear HQ
  go_wp2_with (first | (refine wpList_load_row rfl 40 (.tmp 2) rfl w.heap.size rfl 40 (tbA t a) (0, 0) _ HX1.out Tryz.underlying40 rfl (by kernel_rfl) ?_) | fail)
  refine Calls.mono (HI.out HT.out _ HB1.out) ?_
  rintro e w2 ⟨⟨i, r, rfl, hr⟩, hb2⟩
  have HB2 : Hid (Below w.heap.size w w2) := HB1.out.trans (hb2.mono HB1.out.size)
  have HR : Hid (NX t c r) := hr.2.2.1
  clear hb2 HB1 HX1 HI hr
  generalize (t.ss.getD i sl0).1 = y1
  generalize (t.ss.getD i sl0).2.2 = y3
  have hfl : ∀ w, (Instr.field 77 (.agg #[.int .i64 y1, .int .i64 r, .int .i64 y3]) 1).run Tryz.prog w = .ok (.int .i64 r) w := fun w => by kernel_rfl
  go_wp2
  go_ret
  exact ⟨⟨_, rfl, .inr ⟨HT.out, HR.out⟩⟩, HB2.out⟩
set_option maxRecDepth 40000 in
set_option maxHeartbeats 4000000 in
theorem spec_nextswitch (t : Tb) (a : Ad) (c : Int) (w : World) (hm : TM 0 w t a) (hw : TW t a) (hs : TS a) :
    Calls Tryz.prog 35 #[tbV t a, .int .i64 c] w fun e w' => (∃ r : Int, e = .returned (.int .i64 r) ∧ NR t c r) ∧ Below w.heap.size w w' := by
  obtain ⟨q, hq⟩ := told (Sd t ∧ IsC c)
  have HB0 : Hid (Below w.heap.size w (w.alloc (.cells (tbA t a) 40))) := (Below.refl _ _).alloc (Nat.le_refl _) _
  have HX0 : Hid (TBx (w.alloc (.cells (tbA t a) 40)) w.heap.size t a) := TBx.new w t a _ rfl
  have HK : Hid (Calls Tryz.prog 73 #[tbV t a, .int .i64 c] (w.alloc (.cells (tbA t a) 40)) fun e w' => e = .returned (.bool q) ∧ Below (w.alloc (.cells (tbA t a) 40)).heap.size (w.alloc (.cells (tbA t a) 40)) w') := spec_tok t a c q _ (hm.below HB0.out) hw hs hq
  have HI : Hid (Sd t ∧ IsC c → ∀ d : Int, 0 ≤ d → d ≤ 1000000 → ∀ X, Below w.heap.size w X → Calls Tryz.prog 82 #[tbV t a, .int .i64 d] X fun e w' => e = .returned (.int .i64 (firV t (d % t.maj))) ∧ Below X.heap.size X w') := fun h d h1 h2 X hX => spec_first t a d X (hm.below hX) hw hs (sd_tm h.1) h1 h2
  have HQ : Hid (q = true ↔ (Sd t ∧ IsC c)) := hq
  have HEX : Hid (Sd t ∧ IsC c → ∃ r : Int, NX t c r ∧ r ≤ c + 5000) := fun h => by
    have ht := sd_tm h.1
    have hm2 := ht.maj2
    obtain ⟨r, hr, hk⟩ := start_first ht (c % t.maj)
    by_cases g : r < t.ss.length
    · have := next_here ht g hk
      exact ⟨_, this.2.2.1, by have := this.2.2.2; omega⟩
    · have := next_later ht (c := c) (fun k hk2 q => by have := (hk k hk2).1 q; omega)
      exact ⟨_, this.2.2.1, by have := this.2.2.2; omega⟩
  clear hm hw hs hq
  go_enter Tryz.func35, Tryz.ntmps35
  go_wp2_with (first | (refine wpList_load_row rfl 40 (.tmp 2) rfl w.heap.size rfl 40 (tbA t a) (0, 0) _ HX0.out Tryz.underlying40 rfl (by kernel_rfl) ?_) | fail)
  refine Calls.mono HK.out ?_
  rintro e w1 ⟨rfl, hb1⟩
  have HB1 : Hid (Below w.heap.size w w1) := HB0.out.trans (hb1.mono HB0.out.size)
  have HX1 : Hid (TBx w1 w.heap.size t a) := HX0.out.below hb1
  clear hb1 HB0 HX0 HK
  cases q
  · have HT : Hid (¬ (Sd t ∧ IsC c)) := fun h => by have := HQ.out.2 h; cases this
    clear HQ HI HX1
    go_wp2
    go_ret
    exact ⟨⟨_, rfl, .inl ⟨HT.out, rfl⟩⟩, HB1.out⟩
  have HT : Hid (Sd t ∧ IsC c) := HQ.out.1 rfl
  clear HQ
  obtain ⟨rr, HRR, hr5⟩ : ∃ r : Int, Hid (NX t c r) ∧ r ≤ c + 5000 := by
    obtain ⟨r, h1, h2⟩ := HEX.out HT.out
    exact ⟨r, h1, h2⟩
  have hc0 : 0 ≤ c := HT.out.2.1
  have hc1 : c ≤ 50000 := HT.out.2.2
  have hcr : c ≤ rr := HRR.out.1
  have HTM : Hid (Tm t) := sd_tm HT.out.1
  have HF : Hid (∀ d : Int, c ≤ d → d ≤ rr → ∀ X, Below w.heap.size w X → Calls Tryz.prog 82 #[tbV t a, .int .i64 d] X fun e w' => e = .returned (.int .i64 (firV t (d % t.maj))) ∧ Below X.heap.size X w') := fun d h1 h2 => HI.out HT.out d (by omega) (by omega)
  clear HI HEX
  go_wp2
  go_loopw [1] (fun v wr => ∃ d : Int, c ≤ d ∧ d ≤ rr ∧ v = .int .i64 d ∧ Hid (Below w1.heap.size w1 wr)) (fun v _ => (rr - intOf v).toNat)
  case atStart => exact ⟨c, Int.le_refl _, hcr, rfl, Below.refl _ _⟩
  case round =>
    obtain ⟨d, hd1, hd2, rfl, HR⟩ := hrel
    have HBR : Hid (Below w.heap.size w wr) := HB1.out.trans (HR.out.mono HB1.out.size)
    have HXR : Hid (TBx wr w.heap.size t a) := HX1.out.below HR.out
    have HFd : Hid _ := HF.out d hd1 hd2 wr HBR.out
    have hcs := firV_cases HTM.out (d % t.maj)
    have HQ1 : Hid (d < rr → ¬ ∃ i : Nat, i < t.ss.length ∧ (t.ss.getD i sl0).2.1 = d % t.maj) := fun g ⟨i, hi, e⟩ => HRR.out.2.2 d hd1 g i hi e
    have HQ2 : Hid (∃ i : Nat, i < t.ss.length ∧ (t.ss.getD i sl0).2.1 = rr % t.maj) := HRR.out.2.1
    by_cases hlt : d < rr
    · have hfv : firV t (d % t.maj) = -1 := by
        rcases hcs with ⟨g, _⟩ | ⟨i, hi, e, _⟩
        · exact g
        · exact absurd ⟨i, hi, e⟩ (HQ1.out hlt)
      rw [hfv] at HFd
      clear hcs hfv HQ1 HQ2
      go_wp2_with (first | (refine wpList_load_row rfl 40 (.tmp 2) rfl w.heap.size rfl 40 (tbA t a) (0, 0) _ HXR.out Tryz.underlying40 rfl (by kernel_rfl) ?_) | fail)
      refine Calls.mono HFd.out ?_
      rintro e w2 ⟨rfl, hb2⟩
      have HB2 : Hid (Below w1.heap.size w1 w2) := HR.out.trans (hb2.mono HR.out.size)
      clear hb2 HR HBR HXR HFd
      have hw1 : IntKind.i64.wrap (d + 1) = d + 1 := by rw [IntKind.wrap_i64]; omega
      go_wp2
      go_roundw
      case rel => exact ⟨d + 1, by omega, by omega, rfl, HB2.out⟩
      case measure => simp [intOf]; omega
    · obtain rfl : d = rr := by omega
      have hfv : 0 ≤ firV t (d % t.maj) := by
        rcases hcs with ⟨_, g⟩ | ⟨i, hi, e, h2⟩
        · obtain ⟨i, hi, e⟩ := HQ2.out
          exact absurd e (g i hi)
        · rw [h2]; exact (HTM.out.pt i hi).1
      clear hcs HQ1 HQ2
      generalize firV t (d % t.maj) = f at HFd hfv
      go_wp2_with (first | (refine wpList_load_row rfl 40 (.tmp 2) rfl w.heap.size rfl 40 (tbA t a) (0, 0) _ HXR.out Tryz.underlying40 rfl (by kernel_rfl) ?_) | fail)
      refine Calls.mono HFd.out ?_
      rintro e w2 ⟨rfl, hb2⟩
      have HB2 : Hid (Below w.heap.size w w2) := HBR.out.trans (hb2.mono HBR.out.size)
      clear hb2 HR HBR HXR HFd
      have hf0 : ¬ (f < 0) := by omega
      go_wp2
      go_ret
      exact ⟨⟨_, rfl, .inr ⟨HT.out, HRR.out⟩⟩, HB2.out⟩
set_option maxRecDepth 40000 in
set_option maxHeartbeats 8000000 in
theorem walk_nextswitch (t : Tb) (a : Ad) (c : Int) (w : World) (hm : TM 0 w t a) (hw : TW t a) (he : TabE w) : Calls Tryz.prog 10 #[tbV t a, .int .i64 c] w fun e w' => e = .returned (.bool true) ∧ Below w.heap.size w w' := by
  have HU : Hid (∀ X, Below w.heap.size w X → TM 0 X t a ∧ TabE X) := fun X hX => ⟨hm.below hX, he.below hX⟩
  have HW : Hid (TW t a) := hw
  have HB0 : Hid (Below w.heap.size w (w.alloc (.cells (tbA t a) 31))) := (Below.refl _ _).alloc (Nat.le_refl _) _
  have HX0 : Hid ((w.alloc (.cells (tbA t a) 31)).heap[w.heap.size]? = some (.cells (tbA t a) 31 (0, 0))) := new_row w _ _ _ rfl
  clear hm hw he
  go_enter Tryz.func10, Tryz.ntmps10
  go_wp2_with (first | (refine wpList_load_row rfl 31 (.tmp 2) rfl w.heap.size rfl 31 (tbA t a) (0, 0) _ HX0.out Tryz.underlying31 rfl (by kernel_rfl) ?_) | fail)
  refine Calls.mono (sz_tab t a _ (HU.out _ HB0.out).1 HW.out) ?_
  rintro e w1 ⟨⟨r, rfl, hr⟩, hb1⟩
  have HB1 : Hid (Below w.heap.size w w1) := HB0.out.trans (hb1.mono HB0.out.size)
  have HX1 : Hid (w1.heap[w.heap.size]? = some (.cells (tbA t a) 31 (0, 0))) := row_below HX0.out hb1
  clear hb1 HB0 HX0
  rcases hr with rfl | ⟨h0, hs⟩
  · go_wp2
    go_ret
    exact ⟨rfl, HB1.out⟩
  have HS : Hid (TS a) := hs
  clear hs
  have hr0 : ¬ (r < 0) := by omega
  go_wp2_with (first | (refine wpList_load_row rfl 31 (.tmp 2) rfl w.heap.size rfl 31 (tbA t a) (0, 0) _ HX1.out Tryz.underlying31 rfl (by kernel_rfl) ?_) | fail)
  refine Calls.mono (copy_tab t a _ (HU.out _ HB1.out).1 HW.out HS.out) ?_
  rintro e w2 ⟨a2, rfl, hb2, hc2⟩
  have HB2 : Hid (Below w.heap.size w w2) := HB1.out.trans (hb2.mono HB1.out.size)
  have HX2 : Hid (w2.heap[w.heap.size]? = some (.cells (tbA t a) 31 (0, 0))) := row_below HX1.out hb2
  have HC2 : Hid (Cpy w2 t a a2) := hc2
  clear hb2 hc2 HB1 HX1
  go_wp2_with fail
  refine Calls.mono (spec_nextswitch t a2 c _ HC2.out.m HC2.out.w HC2.out.s) ?_
  rintro e w3 ⟨⟨R1, rfl, hR1⟩, hb3⟩
  have HB3 : Hid (Below w.heap.size w w3) := HB2.out.trans (hb3.mono HB2.out.size)
  have HX3 : Hid (w3.heap[w.heap.size]? = some (.cells (tbA t a) 31 (0, 0))) := row_below HX2.out hb3
  have HR1 : Hid (NR t c R1) := hR1
  clear hb3 HB2 HX2 HC2 hR1
  go_wp2_with (first | (refine wpList_load_row rfl 31 (.tmp 2) rfl w.heap.size rfl 31 (tbA t a) (0, 0) _ HX3.out Tryz.underlying31 rfl (by kernel_rfl) ?_) | fail)
  refine Calls.mono (copy_tab t a _ (HU.out _ HB3.out).1 HW.out HS.out) ?_
  rintro e w4 ⟨a4, rfl, hb4, hc4⟩
  have HB4 : Hid (Below w.heap.size w w4) := HB3.out.trans (hb4.mono HB3.out.size)
  have HX4 : Hid (w4.heap[w.heap.size]? = some (.cells (tbA t a) 31 (0, 0))) := row_below HX3.out hb4
  have HC4 : Hid (Cpy w4 t a a4) := hc4
  clear hb4 hc4 HB3 HX3
  have HN : Hid ((w4.alloc (.cells #[.int .i64 0, .int .i64 0, .int .i64 0, .int .i64 0, .int .i64 0, .int .i64 0, .int .i64 0, .int .i64 0, .int .i64 0, .int .i64 0, .int .i64 0, .int .i64 0, .int .i64 0, .int .i64 0, .int .i64 0, .slice none 0 0, .slice none 0 0, .slice none 0 0, .slice none 0 0] 40)).heap[w4.heap.size]? = some (.cells #[.int .i64 0, .int .i64 0, .int .i64 0, .int .i64 0, .int .i64 0, .int .i64 0, .int .i64 0, .int .i64 0, .int .i64 0, .int .i64 0, .int .i64 0, .int .i64 0, .int .i64 0, .int .i64 0, .int .i64 0, .slice none 0 0, .slice none 0 0, .slice none 0 0, .slice none 0 0] 40 (0, 0))) := new_row w4 _ _ _ rfl
  have hbV : Below w4.heap.size w4 ((w4.alloc (.cells #[.int .i64 0, .int .i64 0, .int .i64 0, .int .i64 0, .int .i64 0, .int .i64 0, .int .i64 0, .int .i64 0, .int .i64 0, .int .i64 0, .int .i64 0, .int .i64 0, .int .i64 0, .int .i64 0, .int .i64 0, .slice none 0 0, .slice none 0 0, .slice none 0 0, .slice none 0 0] 40)).setRow w4.heap.size (tbA t a4)) := below_setRow ((Below.refl _ _).alloc (Nat.le_refl _) _) (Nat.le_refl _) _
  have HXB : Hid (((w4.alloc (.cells #[.int .i64 0, .int .i64 0, .int .i64 0, .int .i64 0, .int .i64 0, .int .i64 0, .int .i64 0, .int .i64 0, .int .i64 0, .int .i64 0, .int .i64 0, .int .i64 0, .int .i64 0, .int .i64 0, .int .i64 0, .slice none 0 0, .slice none 0 0, .slice none 0 0, .slice none 0 0] 40)).setRow w4.heap.size (tbA t a4)).heap[w4.heap.size]? = some (.cells (tbA t a4) 40 (0, 0))) := setRow_heap _ _ _ _ _ _ HN.out
  have HBV : Hid (Below w.heap.size w ((w4.alloc (.cells #[.int .i64 0, .int .i64 0, .int .i64 0, .int .i64 0, .int .i64 0, .int .i64 0, .int .i64 0, .int .i64 0, .int .i64 0, .int .i64 0, .int .i64 0, .int .i64 0, .int .i64 0, .int .i64 0, .int .i64 0, .slice none 0 0, .slice none 0 0, .slice none 0 0, .slice none 0 0] 40)).setRow w4.heap.size (tbA t a4))) := HB4.out.trans (hbV.mono HB4.out.size)
  have HXV : Hid (((w4.alloc (.cells #[.int .i64 0, .int .i64 0, .int .i64 0, .int .i64 0, .int .i64 0, .int .i64 0, .int .i64 0, .int .i64 0, .int .i64 0, .int .i64 0, .int .i64 0, .int .i64 0, .int .i64 0, .int .i64 0, .int .i64 0, .slice none 0 0, .slice none 0 0, .slice none 0 0, .slice none 0 0] 40)).setRow w4.heap.size (tbA t a4)).heap[w.heap.size]? = some (.cells (tbA t a) 31 (0, 0))) := row_below HX4.out hbV
  have HCV : Hid (Cpy ((w4.alloc (.cells #[.int .i64 0, .int .i64 0, .int .i64 0, .int .i64 0, .int .i64 0, .int .i64 0, .int .i64 0, .int .i64 0, .int .i64 0, .int .i64 0, .int .i64 0, .int .i64 0, .int .i64 0, .int .i64 0, .int .i64 0, .slice none 0 0, .slice none 0 0, .slice none 0 0, .slice none 0 0] 40)).setRow w4.heap.size (tbA t a4)) t a a4) := HC4.out.below hbV
  clear hbV HB4 HX4 HC4
  go_wp2_with (first | (refine wpList_store_row rfl 40 (.tmp 7) (.tmp 19) rfl w4.heap.size (tbA t a4) rfl rfl 40 #[.int .i64 0, .int .i64 0, .int .i64 0, .int .i64 0, .int .i64 0, .int .i64 0, .int .i64 0, .int .i64 0, .int .i64 0, .int .i64 0, .int .i64 0, .int .i64 0, .int .i64 0, .int .i64 0, .int .i64 0, .slice none 0 0, .slice none 0 0, .slice none 0 0, .slice none 0 0] HN.out (by kernel_rfl) rfl (by simp [Value.oneCell']) ?_) | (refine wpList_load_row rfl 40 (.tmp 7) rfl w4.heap.size rfl 40 (tbA t a4) (0, 0) _ HXB.out Tryz.underlying40 rfl (by kernel_rfl) ?_) | fail)
  clear HN
  revert HXB HBV HXV HCV
  generalize (w4.alloc (.cells #[.int .i64 0, .int .i64 0, .int .i64 0, .int .i64 0, .int .i64 0, .int .i64 0, .int .i64 0, .int .i64 0, .int .i64 0, .int .i64 0, .int .i64 0, .int .i64 0, .int .i64 0, .int .i64 0, .int .i64 0, .slice none 0 0, .slice none 0 0, .slice none 0 0, .slice none 0 0] 40)).setRow w4.heap.size (tbA t a4) = V
  intro HXB HBV HXV HCV
  obtain ⟨N, hN⟩ : ∃ N, w4.heap.size = N := ⟨_, rfl⟩
  rw [hN] at HXB
  rw [hN]
  clear hN
  refine Calls.mono (impl_nextswitch t a4 c _ HCV.out.m HCV.out.w HCV.out.s (HU.out _ HBV.out).2 HCV.out.c HCV.out.c2) ?_
  rintro e w5 ⟨⟨R2, rfl, hR2⟩, hb5⟩
  obtain rfl : R1 = R2 := NR.unique HR1.out hR2
  have HB5 : Hid (Below w.heap.size w w5) := HBV.out.trans (hb5.mono HBV.out.size)
  have HX5 : Hid (∀ X, Below w5.heap.size w5 X → X.heap[w.heap.size]? = some (.cells (tbA t a) 31 (0, 0))) := fun X hX => row_below (row_below HXV.out hb5) hX
  have HY5 : Hid (∀ X, Below w5.heap.size w5 X → X.heap[N]? = some (.cells (tbA t a4) 40 (0, 0))) := fun X hX => row_below (row_below HXB.out hb5) hX
  have HC5 : Hid (∀ X, Below w5.heap.size w5 X → Cpy X t a a4) := fun X hX => (HCV.out.below hb5).below hX
  clear hb5 HBV HXV HXB HCV HR1 hR2
  go_wp2
  refine wp_region_inv (by kernel_rfl) (by kernel_rfl) (fun A ℓ a' w' => ∃ (x26 x27 x28 x29 x30 : Value), a' = (((((A.put (some 26) x26).put (some 27) x27).put (some 28) x28).put (some 29) x29).put (some 30) x30) ∧ TI t a a4 w5 w' (ℓ 0) (ℓ 1) (ℓ 2) (ℓ 3) (ℓ 4) x26 x27 x28 x29 x30) ?_ ?_ ?_ ?_
  · exact ⟨undef, undef, undef, undef, undef, (by simp only [Act.put, List.setIfInBounds_toArray, List.set_cons_zero, List.set_cons_succ]), ⟨(Below.refl _ _).drew, (fun g => by cases g), (fun g => by cases g), (fun g => by cases g), (fun g => by cases g), (fun g => by cases g)⟩⟩
  · intro ℓ a' w' hI hall
    obtain ⟨x26, x27, x28, x29, x30, rfl, hr⟩ := hI
    have hall' : ∀ i, i < 5 → ℓ i = true := hall
    obtain rfl := hr.f4 (hall' 4 (by omega))
    have HE : Hid (Below w.heap.size w w') := HB5.out.trans (hr.gb.mono HB5.out.size)
    clear hr hall hall'
    simp only [Act.put, List.setIfInBounds_toArray, List.set_cons_zero, List.set_cons_succ]
    go_wp2
    go_ret
    exact ⟨rfl, HE.out⟩
  · intro ℓ a' w' i o hI ho hi hL hdep K hK
    obtain ⟨x26, x27, x28, x29, x30, rfl, hr⟩ := hI
    have hi7 : i < 5 := hi
    have hcs : i = 0 ∨ i = 1 ∨ i = 2 ∨ i = 3 ∨ i = 4 := by omega
    clear hi hi7
    rcases hcs with rfl | rfl | rfl | rfl | rfl
    · replace ho : some ({ dst := some 26, op := .load 40 (.tmp 7), type := 40, pos := "exact.go:5882", after := #[], guard := none } : Oper) = some o := ho
      obtain rfl := Option.some.inj ho
      clear hdep ho
      rw [if_pos (by rfl)]
      try simp only [Act.put, List.setIfInBounds_toArray, List.set_cons_zero, List.set_cons_succ]
      refine wp_load_row (P := Tryz.prog) 40 (.tmp 7) rfl N rfl 40 (tbA t a4) (0, 0) _ (HY5.out _ hr.gb) Tryz.underlying40 rfl (by kernel_rfl) ?_
      exact hK.out _ _ (fun j => if j = 0 then true else ℓ j) ⟨tbV t a4, x27, x28, x29, x30, (by simp only [Act.put, List.setIfInBounds_toArray, List.set_cons_zero, List.set_cons_succ]), ⟨hr.gb, (fun _ => rfl), hr.f1, hr.f2, hr.f3, hr.f4⟩⟩ (if_pos rfl) (fun j hj => if_neg hj)
    · replace ho : some ({ dst := some 27, op := .load 31 (.tmp 2), type := 31, pos := "exact.go:5882", after := #[], guard := none } : Oper) = some o := ho
      obtain rfl := Option.some.inj ho
      clear hdep ho
      rw [if_pos (by rfl)]
      try simp only [Act.put, List.setIfInBounds_toArray, List.set_cons_zero, List.set_cons_succ]
      refine wp_load_row (P := Tryz.prog) 31 (.tmp 2) rfl w.heap.size rfl 31 (tbA t a) (0, 0) _ (HX5.out _ hr.gb) Tryz.underlying31 rfl (by kernel_rfl) ?_
      exact hK.out _ _ (fun j => if j = 1 then true else ℓ j) ⟨x26, tbV t a, x28, x29, x30, (by simp only [Act.put, List.setIfInBounds_toArray, List.set_cons_zero, List.set_cons_succ]), ⟨hr.gb, hr.f0, (fun _ => rfl), hr.f2, hr.f3, hr.f4⟩⟩ (if_pos rfl) (fun j hj => if_neg hj)
    · obtain rfl := Option.some.inj ho
      have g : ℓ 1 = true := hdep { on := 1, ground := Ground.data } (by simp) rfl
      clear hdep ho
      obtain rfl := hr.f1 g
      rw [if_pos (by rfl)]
      try simp only [Act.put, List.setIfInBounds_toArray, List.set_cons_zero, List.set_cons_succ]
      go_simp
      refine Calls.mono (copy_tab t a _ (HU.out _ (HB5.out.trans (hr.gb.mono HB5.out.size))).1 HW.out HS.out) ?_
      rintro e w9 ⟨a9, rfl, hb9, hc9⟩
      have hr9 := hr.below hb9
      exact hK.out _ _ (fun j => if j = 2 then true else ℓ j) ⟨x26, tbV t a, tbV t a9, x29, x30, (by simp only [Act.put, List.setIfInBounds_toArray, List.set_cons_zero, List.set_cons_succ]), ⟨hr9.gb, hr9.f0, hr9.f1, (fun _ => ⟨a9, rfl, hc9⟩), hr9.f3, hr9.f4⟩⟩ (if_pos rfl) (fun j hj => if_neg hj)
    · obtain rfl := Option.some.inj ho
      have g0 : ℓ 0 = true := hdep { on := 0, ground := Ground.data } (by simp) rfl
      have g2 : ℓ 2 = true := hdep { on := 2, ground := Ground.data } (by simp) rfl
      clear hdep ho
      obtain rfl := hr.f0 g0
      obtain ⟨a9, rfl, hc9⟩ := hr.f2 g2
      have hc4 := HC5.out _ hr.gb
      rw [if_pos (by rfl)]
      try simp only [Act.put, List.setIfInBounds_toArray, List.set_cons_zero, List.set_cons_succ]
      go_simp
      refine Calls.mono (eq_tab t a4 a9 _ hc4.m hc9.m hc4.s (hc9.p1.trans hc4.p1.symm) (hc9.p2.trans hc4.p2.symm) (hc9.p3.trans hc4.p3.symm) (hc9.p4.trans hc4.p4.symm)) ?_
      rintro e w9 ⟨rfl, hb9⟩
      have hr9 := hr.below hb9
      exact hK.out _ _ (fun j => if j = 3 then true else ℓ j) ⟨tbV t a4, x27, tbV t a9, .bool true, x30, (by simp only [Act.put, List.setIfInBounds_toArray, List.set_cons_zero, List.set_cons_succ]), ⟨hr9.gb, hr9.f0, hr9.f1, hr9.f2, (fun _ => rfl), hr9.f4⟩⟩ (if_pos rfl) (fun j hj => if_neg hj)
    · obtain rfl := Option.some.inj ho
      have g : ℓ 3 = true := hdep { on := 3, ground := Ground.data } (by simp) rfl
      clear hdep ho
      obtain rfl := hr.f3 g
      rw [if_pos (by rfl)]
      try simp only [Act.put, List.setIfInBounds_toArray, List.set_cons_zero, List.set_cons_succ]
      go_simp
      exact hK.out _ _ (fun j => if j = 4 then true else ℓ j) ⟨x26, x27, x28, .bool true, .bool false, (by simp only [Act.put, List.setIfInBounds_toArray, List.set_cons_zero, List.set_cons_succ]), ⟨hr.gb, hr.f0, hr.f1, hr.f2, hr.f3, (fun _ => rfl)⟩⟩ (if_pos rfl) (fun j hj => if_neg hj)
  · rintro a' w' ℓ ℓ' hℓ hI
    rw [← show ℓ = ℓ' from funext hℓ]
    exact hI
end Go.Proofs.YtoalamgongaaeaaGreatDoor
