
/-
  The gap of a major frame: both sides, and the law, walked. Conditions: the lists lie in memory; the program's table of extras holds what the program's text lays.
-/
import Derived.Test.YtlomcdgfcocmmaaGreatDoorBas
import Derived.Test.YtlomcdgfcocmmaaGreatDoorLsw
namespace Go.Proofs.YtlomcdgfcocmmaaGreatDoor
open Go.ChangeShapes Go.WideShapes Go.ChangeAt Go.RowKit Go.Deep Go.Joins
set_option linter.unusedVariables false

/-- What soundness says of slots, in numbers. -/
theorem sd_slots2 {t : Tb} (h : Sd t) : (1 ≤ t.pad ∧ t.pad ≤ 5000) ∧ (1 ≤ t.grd ∧ t.grd ≤ 5000) ∧ (1 ≤ t.maj ∧ t.maj ≤ 5000) ∧ t.ss.length ≤ 16 ∧ ∀ i, i < t.ss.length → 0 ≤ freeN t.ss i ∧ freeN t.ss i ≤ (t.ss.getD i sl0).2.1 ∧ t.pad + t.grd < (t.ss.getD i sl0).2.2 ∧ (t.ss.getD i sl0).2.1 + (t.ss.getD i sl0).2.2 ≤ t.maj := by
  have h4 : 1 ≤ t.pad ∧ t.pad ≤ 5000 := h 4 (by omega)
  have h5 : 1 ≤ t.grd ∧ t.grd ≤ 5000 := h 5 (by omega)
  have h6 : 1 ≤ t.maj ∧ t.maj ≤ 5000 := h 6 (by omega)
  have h21 := h 21 (by omega)
  have h23 := h 23 (by omega)
  have h24 := h 24 (by omega)
  simp only [R] at h21 h23 h24
  have hf := free_pos (ss := t.ss) (n := t.ss.length) (fun i hi => ⟨(h24 i hi).1, by have := h23 i hi; omega⟩)
  exact ⟨h4, h5, h6, h21.2, fun i hi => ⟨hf i (by omega), (h24 i hi).1, h23 i hi, (h24 i hi).2⟩⟩
/-- Whether a cycle lies in one of the first k slots. -/
def insd (ss : List slT) (c : Int) : Nat → Bool
  | 0 => false
  | k + 1 => insd ss c k || (decide ((ss.getD k sl0).2.1 ≤ c) && decide (c < (ss.getD k sl0).2.1 + (ss.getD k sl0).2.2))
/-- How many of the first c cycles lie in none of the first k slots. -/
def gapN (ss : List slT) (k : Nat) : Nat → Int
  | 0 => 0
  | c + 1 => gapN ss k c + (if insd ss (c : Int) k = true then 0 else 1)
def lenN (ss : List slT) : Nat → Int
  | 0 => 0
  | i + 1 => lenN ss i + (ss.getD i sl0).2.2
theorem insd_free {ss : List slT} {n : Nat} (h : ∀ i, i < n → 0 ≤ freeN ss i ∧ freeN ss i ≤ (ss.getD i sl0).2.1 ∧ 0 < (ss.getD i sl0).2.2) : ∀ k, k ≤ n → ∀ c : Int, freeN ss k ≤ c → insd ss c k = false := by
  intro k
  induction k with
  | zero => intro _ _ _; rfl
  | succ k ih =>
    intro hk c hc
    have h1 := h k (by omega)
    have h2 : (ss.getD k sl0).2.1 + (ss.getD k sl0).2.2 ≤ c := hc
    show (insd ss c k || _) = false
    rw [ih (by omega) c (by omega)]
    have : ¬ c < (ss.getD k sl0).2.1 + (ss.getD k sl0).2.2 := by omega
    simp only [decide_eq_false this, Bool.and_false, Bool.or_false]
theorem gap_step {ss : List slT} {n : Nat} (h : ∀ i, i < n → 0 ≤ freeN ss i ∧ freeN ss i ≤ (ss.getD i sl0).2.1 ∧ 0 < (ss.getD i sl0).2.2) (k : Nat) (hk : k < n) : ∀ c : Nat, gapN ss (k + 1) c = gapN ss k c - (if (c : Int) ≤ (ss.getD k sl0).2.1 then 0 else if (c : Int) ≤ (ss.getD k sl0).2.1 + (ss.getD k sl0).2.2 then (c : Int) - (ss.getD k sl0).2.1 else (ss.getD k sl0).2.2) := by
  have h1 := h k hk
  have hfr := insd_free h k (by omega)
  intro c
  induction c with
  | zero =>
    rw [if_pos (by show (0 : Int) ≤ _; omega)]
    rfl
  | succ c ih =>
    have hi : insd ss (c : Int) (k + 1) = (insd ss c k || (decide ((ss.getD k sl0).2.1 ≤ (c : Int)) && decide ((c : Int) < (ss.getD k sl0).2.1 + (ss.getD k sl0).2.2))) := rfl
    show gapN ss (k + 1) c + (if insd ss (c : Int) (k + 1) = true then 0 else 1) = gapN ss k c + (if insd ss (c : Int) k = true then 0 else 1) - _
    rw [ih, hi]
    generalize (ss.getD k sl0).2.1 = s at *
    generalize (ss.getD k sl0).2.2 = l at *
    have hcc : ((c + 1 : Nat) : Int) = (c : Int) + 1 := by omega
    rw [hcc]
    by_cases g1 : s ≤ (c : Int)
    · have hno := hfr c (by omega)
      by_cases g2 : (c : Int) < s + l
      · rw [hno]
        simp only [decide_eq_true g1, decide_eq_true g2, Bool.and_true, Bool.or_true, if_true, Bool.false_eq_true, if_false]
        split <;> split <;> (try split) <;> (try split) <;> omega
      · simp only [decide_eq_false g2, Bool.and_false, Bool.or_false]
        split <;> split <;> (try split) <;> (try split) <;> (try split) <;> omega
    · simp only [decide_eq_false g1, Bool.false_and, Bool.or_false]
      split <;> split <;> (try split) <;> (try split) <;> (try split) <;> omega
theorem gap_all {ss : List slT} {n M : Nat} (h : ∀ i, i < n → 0 ≤ freeN ss i ∧ freeN ss i ≤ (ss.getD i sl0).2.1 ∧ 0 < (ss.getD i sl0).2.2 ∧ (ss.getD i sl0).2.1 + (ss.getD i sl0).2.2 ≤ (M : Int)) : ∀ k, k ≤ n → gapN ss k M = (M : Int) - lenN ss k := by
  intro k
  induction k with
  | zero =>
    intro _
    have : ∀ c : Nat, gapN ss 0 c = (c : Int) := by
      intro c
      induction c with
      | zero => rfl
      | succ c ih =>
        show gapN ss 0 c + (if insd ss (c : Int) 0 = true then 0 else 1) = _
        rw [ih]
        simp only [insd, Bool.false_eq_true, if_false]
        omega
    rw [this]
    show _ = (M : Int) - 0
    omega
  | succ k ih =>
    intro hk
    have h1 := h k (by omega)
    rw [gap_step (n := n) (fun i hi => ⟨(h i hi).1, (h i hi).2.1, (h i hi).2.2.1⟩) k (by omega), ih (by omega)]
    show _ = (M : Int) - (lenN ss k + (ss.getD k sl0).2.2)
    split
    · omega
    · split <;> omega
def GR (t : Tb) (r : Int) : Prop := (¬ Sd t ∧ r = 0) ∨ (Sd t ∧ r = t.maj - lenN t.ss t.ss.length)
theorem GR.unique {t : Tb} {r s : Int} (h : GR t r) (g : GR t s) : r = s := by
  rcases h with ⟨h, rfl⟩ | ⟨h, h1⟩ <;> rcases g with ⟨g, rfl⟩ | ⟨g, g1⟩
  · rfl
  · exact absurd g h
  · exact absurd h g
  · rw [h1, g1]
set_option maxRecDepth 40000 in
set_option maxHeartbeats 8000000 in
theorem impl_gap0 (t : Tb) (pa da ca sa : Option Addr) (pn pc dn dc cn cc n sc : Nat) (Y : Nat → Rw) (w : World) (hm : TM 0 w t ⟨pa, pn, pc, da, dn, dc, ca, cn, cc, sa, n, sc, Y⟩) (hw : TW t ⟨pa, pn, pc, da, dn, dc, ca, cn, cc, sa, n, sc, Y⟩) (hs : TS ⟨pa, pn, pc, da, dn, dc, ca, cn, cc, sa, n, sc, Y⟩) (he : TabE w) (hcp : pn ≤ pc) :
    Calls Tryz.prog 15 #[.agg #[.int .i64 t.mem, .int .i64 t.s1, .int .i64 t.s2, .int .i64 t.s3, .int .i64 t.tlb, .int .i64 t.c1, .int .i64 t.c2, .int .i64 t.c3, .int .i64 t.c4, .int .i64 t.c5, .int .i64 t.c6, .int .i64 t.c7, .int .i64 t.pad, .int .i64 t.grd, .int .i64 t.maj, .slice pa pn pc, .slice da dn dc, .slice ca cn cc, .slice sa n sc]] w fun e w' => (∃ r : Int, e = .returned (.int .i64 r) ∧ GR t r) ∧ Below w.heap.size w w' := by
  obtain ⟨q, hq⟩ := told (Sd t)
  have HB0 : Hid (Below w.heap.size w (w.alloc (.cells #[.int .i64 t.mem, .int .i64 t.s1, .int .i64 t.s2, .int .i64 t.s3, .int .i64 t.tlb, .int .i64 t.c1, .int .i64 t.c2, .int .i64 t.c3, .int .i64 t.c4, .int .i64 t.c5, .int .i64 t.c6, .int .i64 t.c7, .int .i64 t.pad, .int .i64 t.grd, .int .i64 t.maj, .slice pa pn pc, .slice da dn dc, .slice ca cn cc, .slice sa n sc] 33))) := (Below.refl _ _).alloc (Nat.le_refl _) _
  have HX0 : Hid (TBx (w.alloc (.cells #[.int .i64 t.mem, .int .i64 t.s1, .int .i64 t.s2, .int .i64 t.s3, .int .i64 t.tlb, .int .i64 t.c1, .int .i64 t.c2, .int .i64 t.c3, .int .i64 t.c4, .int .i64 t.c5, .int .i64 t.c6, .int .i64 t.c7, .int .i64 t.pad, .int .i64 t.grd, .int .i64 t.maj, .slice pa pn pc, .slice da dn dc, .slice ca cn cc, .slice sa n sc] 33)) w.heap.size t ⟨pa, pn, pc, da, dn, dc, ca, cn, cc, sa, n, sc, Y⟩) := TBx.new w t ⟨pa, pn, pc, da, dn, dc, ca, cn, cc, sa, n, sc, Y⟩ _ rfl
  have HSP : Hid (Calls Tryz.prog 13 #[.agg #[.int .i64 t.mem, .int .i64 t.s1, .int .i64 t.s2, .int .i64 t.s3, .int .i64 t.tlb, .int .i64 t.c1, .int .i64 t.c2, .int .i64 t.c3, .int .i64 t.c4, .int .i64 t.c5, .int .i64 t.c6, .int .i64 t.c7, .int .i64 t.pad, .int .i64 t.grd, .int .i64 t.maj, .slice pa pn pc, .slice da dn dc, .slice ca cn cc, .slice sa n sc]] (w.alloc (.cells #[.int .i64 t.mem, .int .i64 t.s1, .int .i64 t.s2, .int .i64 t.s3, .int .i64 t.tlb, .int .i64 t.c1, .int .i64 t.c2, .int .i64 t.c3, .int .i64 t.c4, .int .i64 t.c5, .int .i64 t.c6, .int .i64 t.c7, .int .i64 t.pad, .int .i64 t.grd, .int .i64 t.maj, .slice pa pn pc, .slice da dn dc, .slice ca cn cc, .slice sa n sc] 33)) fun e w' => e = .returned (.bool q) ∧ Below (w.alloc (.cells #[.int .i64 t.mem, .int .i64 t.s1, .int .i64 t.s2, .int .i64 t.s3, .int .i64 t.tlb, .int .i64 t.c1, .int .i64 t.c2, .int .i64 t.c3, .int .i64 t.c4, .int .i64 t.c5, .int .i64 t.c6, .int .i64 t.c7, .int .i64 t.pad, .int .i64 t.grd, .int .i64 t.maj, .slice pa pn pc, .slice da dn dc, .slice ca cn cc, .slice sa n sc] 33)).heap.size (w.alloc (.cells #[.int .i64 t.mem, .int .i64 t.s1, .int .i64 t.s2, .int .i64 t.s3, .int .i64 t.tlb, .int .i64 t.c1, .int .i64 t.c2, .int .i64 t.c3, .int .i64 t.c4, .int .i64 t.c5, .int .i64 t.c6, .int .i64 t.c7, .int .i64 t.pad, .int .i64 t.grd, .int .i64 t.maj, .slice pa pn pc, .slice da dn dc, .slice ca cn cc, .slice sa n sc] 33)) w') := impl_sound t ⟨pa, pn, pc, da, dn, dc, ca, cn, cc, sa, n, sc, Y⟩ q _ (hm.below HB0.out) hw hs (he.below HB0.out) hcp hq
  have HS : Hid (GSeg 3 w sa n (slX t.ss)) := hm.s.seg
  have HL : Hid (t.ss.length = n) := hw.sl
  have hn : n ≤ 1048576 := hs.s
  have HQ : Hid (q = true ↔ Sd t) := hq
  clear hm hw hs hq he hcp
  go_enter Tryz.func15, Tryz.ntmps15
  go_wp2_with (first | (refine wpList_load_row rfl 33 (.tmp 1) rfl w.heap.size rfl 33 #[.int .i64 t.mem, .int .i64 t.s1, .int .i64 t.s2, .int .i64 t.s3, .int .i64 t.tlb, .int .i64 t.c1, .int .i64 t.c2, .int .i64 t.c3, .int .i64 t.c4, .int .i64 t.c5, .int .i64 t.c6, .int .i64 t.c7, .int .i64 t.pad, .int .i64 t.grd, .int .i64 t.maj, .slice pa pn pc, .slice da dn dc, .slice ca cn cc, .slice sa n sc] (0, 0) _ HX0.out Tryz.underlying33 rfl (by kernel_rfl) ?_) | fail)
  refine Calls.mono HSP.out ?_
  rintro e w1 ⟨rfl, hb1⟩
  have HB1 : Hid (Below w.heap.size w w1) := HB0.out.trans (hb1.mono HB0.out.size)
  have HX1 : Hid (TBx w1 w.heap.size t ⟨pa, pn, pc, da, dn, dc, ca, cn, cc, sa, n, sc, Y⟩) := HX0.out.below hb1
  clear hb1 HB0 HX0 HSP
  cases q
  · have HT : Hid (¬ Sd t) := fun h => by have := HQ.out.2 h; cases this
    go_wp2
    go_ret
    exact ⟨⟨_, rfl, .inl ⟨HT.out, rfl⟩⟩, HB1.out⟩
  have HT : Hid (Sd t) := HQ.out.1 rfl
  clear HQ
  obtain ⟨_, ⟨hg1, hg2⟩, ⟨hj1, hj2⟩, hn16, hlf⟩ := sd_slots2 HT.out
  have hp1 := (sd_slots2 HT.out).1
  rw [HL.out] at hn16 hlf
  have HLF : Hid (∀ i, i < n → 0 < (t.ss.getD i sl0).2.2 ∧ (t.ss.getD i sl0).2.2 ≤ 5000) := fun i hi => by
    have := hlf i hi
    omega
  clear hlf hp1
  have k18 : w1.cell? ⟨w.heap.size, 18, none⟩ = some (.slice sa n sc) := HX1.out.cell 18 rfl
  have k14 : w1.cell? ⟨w.heap.size, 14, none⟩ = some (.int .i64 t.maj) := HX1.out.cell 14 rfl
  go_wp2
  clear k18 k14
  go_loopw [3, 14] (fun v i wr => ∃ (m : Nat) (f : Int), m ≤ n ∧ -5000 * (m : Int) ≤ f ∧ f ≤ 5000 ∧ i = .int .i64 m ∧ v = .int .i64 f ∧ Hid (f = t.maj - lenN t.ss m ∧ Below w1.heap.size w1 wr)) (fun _ i _ => n - (intOf i).toNat)
  case atStart => exact ⟨0, t.maj, by omega, by omega, by omega, rfl, rfl, (show t.maj = t.maj - 0 by omega), Below.refl _ _⟩
  case round =>
    obtain ⟨m, f, hm, hf0, hf1, rfl, rfl, HR⟩ := hrel
    have HBR : Hid (Below w.heap.size w wr) := HB1.out.trans (HR.out.2.mono HB1.out.size)
    by_cases hmn : m < n
    rotate_left
    · obtain rfl : m = n := by omega
      have HF : Hid (GR t f) := .inr ⟨HT.out, by rw [HL.out]; exact HR.out.1⟩
      go_wp2
      go_ret
      exact ⟨⟨_, rfl, HF.out⟩, HBR.out⟩
    have hmn' : (m : Int) < (n : Int) := by omega
    obtain ⟨b1, o1, rfl, hbl1, p1⟩ := HS.out.at m hmn
    replace p1 := p1.of (w' := wr) (fun j => HBR.out.cell (p := ⟨b1, j, none⟩) hbl1)
    have hlf := HLF.out m hmn
    have HY : Hid (f - (t.ss.getD m sl0).2.2 = t.maj - lenN t.ss (m + 1)) := by
      have := HR.out.1
      show _ = t.maj - (lenN t.ss m + (t.ss.getD m sl0).2.2)
      omega
    have HRB : Hid (Below w1.heap.size w1 wr) := HR.out.2
    simp only [slX] at p1
    generalize t.ss.getD m sl0 = y at p1 hlf HY
    obtain ⟨c0, c1, c2⟩ := sl_cells p1
    obtain ⟨x1, x2, x3⟩ := y
    simp only at c0 c1 c2 hlf HY
    obtain ⟨hl1, hl2⟩ := hlf
    have hal : Below wr.heap.size wr (wr.alloc (.cells #[.int .i64 x1, .int .i64 x2, .int .i64 x3] 42)) := (Below.refl _ _).alloc (Nat.le_refl _) _
    have HRV : Hid (Below w1.heap.size w1 (wr.alloc (.cells #[.int .i64 x1, .int .i64 x2, .int .i64 x3] 42))) := HRB.out.trans (hal.mono HRB.out.size)
    clear p1 hbl1 HR hal
    have hw1 : IntKind.i64.wrap (f - x3) = f - x3 := by rw [IntKind.wrap_i64]; omega
    have hfe0 : -5000 * ((m + 1 : Nat) : Int) ≤ f - x3 := by omega
    have hfe1 : f - x3 ≤ 5000 := by omega
    go_wp2
    go_roundw
    case rel => exact ⟨m + 1, f - x3, by omega, hfe0, hfe1, by go_num, rfl, HY.out, HRV.out⟩
    case measure => simp [intOf]; omega
theorem impl_gap (t : Tb) (a : Ad) (w : World) (hm : TM 0 w t a) (hw : TW t a) (hs : TS a) (he : TabE w) (hcp : a.pn ≤ a.pc) :
    Calls Tryz.prog 15 #[tbV t a] w fun e w' => (∃ r : Int, e = .returned (.int .i64 r) ∧ GR t r) ∧ Below w.heap.size w w' :=
  impl_gap0 t a.pa a.da a.ca a.sa a.pn a.pc a.dn a.dc a.cn a.cc a.sn a.sc a.Y w hm hw hs he hcp
end Go.Proofs.YtlomcdgfcocmmaaGreatDoor
