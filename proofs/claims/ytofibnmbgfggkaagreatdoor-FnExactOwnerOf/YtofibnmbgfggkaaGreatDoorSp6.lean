
/-
  Whether tables are sound: the specification's own function. Conditions: the lists lie in memory, the lengths are at most 1048576.
-/
import Derived.Test.YtofibnmbgfggkaaGreatDoorBas
import Derived.Test.YtofibnmbgfggkaaGreatDoorRul
import Derived.Test.YtofibnmbgfggkaaGreatDoorLrw
import Derived.BigQuiet
import Derived.Test.YtofibnmbgfggkaaGreatDoorSp1
import Derived.Test.YtofibnmbgfggkaaGreatDoorSp3
import Derived.Test.YtofibnmbgfggkaaGreatDoorSp4
import Derived.Test.YtofibnmbgfggkaaGreatDoorSp5
namespace Go.Proofs.YtofibnmbgfggkaaGreatDoor
open Go.ChangeShapes Go.WideShapes Go.ChangeAt Go.RowKit Go.Deep Go.Joins
set_option linter.unusedVariables false

theorem free_pos {ss : List slT} {n : Nat} (h : ∀ i, i < n → freeN ss i ≤ (ss.getD i sl0).2.1 ∧ 0 < (ss.getD i sl0).2.2) : ∀ i, i ≤ n → 0 ≤ freeN ss i := by
  intro i
  induction i with
  | zero => intro _; exact Int.le_refl _
  | succ i ih =>
    intro hi
    have h1 := ih (by omega)
    have h2 := h i (by omega)
    show 0 ≤ (ss.getD i sl0).2.1 + (ss.getD i sl0).2.2
    omega
theorem sd_iff {t : Tb} {a : Ad} (hw : TW t a) : Sd t ↔ (HeadP t ∧ PartsP t.ps t.mem ∧ ChansP t a.pn t.ds a.dn t.cs a.cn ∧ SlotsP t a.pn t.ss a.sn) := by
  have hpl := hw.pl
  have hdl := hw.dl
  have hcl := hw.cl
  have hsl := hw.sl
  constructor
  · intro h
    have r0 := h 0 (by omega); have r1 := h 1 (by omega); have r2 := h 2 (by omega); have r3 := h 3 (by omega); have r4 := h 4 (by omega); have r5 := h 5 (by omega); have r6 := h 6 (by omega); have r7 := h 7 (by omega)
    have r8 := h 8 (by omega); have r9 := h 9 (by omega); have r10 := h 10 (by omega); have r11 := h 11 (by omega); have r12 := h 12 (by omega); have r13 := h 13 (by omega); have r14 := h 14 (by omega); have r15 := h 15 (by omega)
    have r16 := h 16 (by omega); have r17 := h 17 (by omega); have r18 := h 18 (by omega); have r19 := h 19 (by omega); have r20 := h 20 (by omega); have r21 := h 21 (by omega); have r22 := h 22 (by omega); have r23 := h 23 (by omega); have r24 := h 24 (by omega)
    clear h
    simp only [R] at r0 r1 r2 r3 r4 r5 r6 r7 r8 r9 r10 r11 r12 r13 r14 r15 r16 r17 r18 r19 r20 r21 r22 r23 r24
    refine ⟨⟨r0.2, r0.1, r1, r2, r3, r4, r5, r6, r7⟩, ⟨r8, fun i hi => ⟨⟨r9 i hi, r11 i hi, r12 i hi, fun j hj => ?_, (r15 i hi).2, (r15 i hi).1⟩, r10 i hi⟩, fun i hi j hj => ?_⟩, ⟨by omega, by omega, fun i hi => ?_, fun i hi => ?_, ?_⟩, ⟨by omega, fun i hi => ?_⟩⟩
    · obtain ⟨k, hk, e⟩ := mem_allW (ps := t.ps) hi hj
      rw [← e]
      exact r13 k hk
    · have := r14 i hi j hj
      unfold ApartP at this
      unfold Meet
      omega
    · have := r17 i (by omega)
      rw [hpl] at this
      omega
    · have := r19 i (by omega)
      rw [hpl] at this
      exact ⟨this.1, this.2.1.2, this.2.2.2⟩
    · rw [← hcl]; exact r20
    · have g1 := r22 i (by omega)
      have g2 := r23 i (by omega)
      have g3 := r24 i (by omega)
      rw [hpl] at g1
      have g4 := free_pos (ss := t.ss) (n := a.sn) (fun j hj => ⟨(r24 j (by omega)).1, by have := r23 j (by omega); omega⟩) i (by omega)
      exact ⟨by omega, ⟨g3.1, by omega⟩, ⟨by omega, by omega⟩, g3.2⟩
  · rintro ⟨hd, hp, hc, hs⟩ i hi
    have hwk : ∀ k, k < (allW t.ps).length → WOk ((allW t.ps).getD k wi0) ∧ ((allW t.ps).getD k wi0).1 + ((allW t.ps).getD k wi0).2.1 ≤ t.mem := fun k hk => by
      have hmem : (allW t.ps).getD k wi0 ∈ allW t.ps := by simp [List.getD, hk]
      obtain ⟨p, hp', j, hj, e⟩ := allW_mem hmem
      rw [e]
      exact (hp.2.1 p hp').1.2.2.2.1 j hj
    match i, hi with
    | 0, _ => exact ⟨hd.2.1, hd.1⟩
    | 1, _ => exact hd.2.2.1
    | 2, _ => exact hd.2.2.2.1
    | 3, _ => exact hd.2.2.2.2.1
    | 4, _ => exact hd.2.2.2.2.2.1
    | 5, _ => exact hd.2.2.2.2.2.2.1
    | 6, _ => exact hd.2.2.2.2.2.2.2.1
    | 7, _ => exact hd.2.2.2.2.2.2.2.2
    | 8, _ => exact hp.1
    | 9, _ => exact fun i hi => (hp.2.1 i hi).1.1
    | 10, _ => exact fun i hi j hj => (hp.2.1 i hi).2 j hj
    | 11, _ => exact fun i hi => (hp.2.1 i hi).1.2.1
    | 12, _ => exact fun i hi => (hp.2.1 i hi).1.2.2.1
    | 13, _ => exact hwk
    | 14, _ => exact fun i hi j hj => ⟨(hwk j (by omega)).1, (hwk i hi).1, by have := hp.2.2 i hi j hj; unfold Meet at this; omega⟩
    | 15, _ => exact fun i hi => ⟨(hp.2.1 i hi).1.2.2.2.2.2, (hp.2.1 i hi).1.2.2.2.2.1⟩
    | 16, _ => show t.ds.length ≤ 8; rw [hdl]; exact hc.1
    | 17, _ => exact fun i hi => by have := hc.2.2.1 i (by omega); rw [hpl]; omega
    | 18, _ => show t.cs.length ≤ 8; rw [hcl]; exact hc.2.1
    | 19, _ =>
      · intro i hi
        have g := hc.2.2.2.1 i (by omega)
        have g2 := g.1
        unfold chOkT chOk at g2
        simp only [Bool.and_eq_true, inr_iff] at g2
        rw [hpl]
        exact ⟨g.1, ⟨g2.1.1, g.2.1⟩, ⟨g2.2.1.1, g.2.2⟩⟩
    | 20, _ => show padV t ≤ t.pad; unfold padV; rw [hcl]; exact hc.2.2.2.2
    | 21, _ => show 1 ≤ t.ss.length ∧ t.ss.length ≤ 16; rw [hsl]; exact hs.1
    | 22, _ => exact fun i hi => by have := (hs.2 i (by omega)).1; rw [hpl]; omega
    | 23, _ => exact fun i hi => by have := (hs.2 i (by omega)).2.2.1; omega
    | 24, _ => exact fun i hi => by have := hs.2 i (by omega); exact ⟨this.2.1.1, this.2.2.2⟩
    | i + 25, hi => exact absurd hi (by omega)
set_option maxRecDepth 40000 in
set_option maxHeartbeats 8000000 in
theorem spec_sound (t : Tb) (a : Ad) (q : Bool) (w : World) (hm : TM 0 w t a) (hw : TW t a) (hs : TS a) (hq : q = true ↔ Sd t) :
    Calls Tryz.prog 9 #[tbV t a] w fun e w' => e = .returned (.bool q) ∧ Below w.heap.size w w' := by
  have HQ : Hid (q = true ↔ (HeadP t ∧ PartsP t.ps t.mem ∧ ChansP t a.pn t.ds a.dn t.cs a.cn ∧ SlotsP t a.pn t.ss a.sn)) := hq.trans (sd_iff hw)
  have HMM : Hid (∀ X, Below w.heap.size w X → TM 0 X t a) := fun X hX => hm.below hX
  have HWW : Hid (TW t a ∧ TS a) := ⟨hw, hs⟩
  clear hq hm hw hs
  obtain ⟨b1, h1⟩ := told (HeadP t)
  obtain ⟨b2, h2⟩ := told (PartsP t.ps t.mem)
  obtain ⟨b3, h3⟩ := told (ChansP t a.pn t.ds a.dn t.cs a.cn)
  obtain ⟨b4, h4⟩ := told (SlotsP t a.pn t.ss a.sn)
  have HN : Hid (b1 = false ∨ b2 = false ∨ b3 = false → q = false) := fun h => not_true HQ.out (fun g => by
    rcases h with h | h | h
    · rw [h1.2 g.1] at h; cases h
    · rw [h2.2 g.2.1] at h; cases h
    · rw [h3.2 g.2.2.1] at h; cases h)
  have HY : Hid (b1 = true → b2 = true → b3 = true → b4 = q) := fun g1 g2 g3 => bool_is HQ.out ⟨fun g4 => ⟨h1.1 g1, h2.1 g2, h3.1 g3, h4.1 g4⟩, fun g => h4.2 g.2.2.2⟩
  have C1 : Hid (∀ X, Below w.heap.size w X → Calls Tryz.prog 25 #[tbV t a] X fun e w' => e = .returned (.bool b1) ∧ Below X.heap.size X w') := fun X hX => spec_head t a b1 X h1
  have C2 : Hid (∀ X, Below w.heap.size w X → Calls Tryz.prog 26 #[tbV t a] X fun e w' => e = .returned (.bool b2) ∧ Below X.heap.size X w') := fun X hX => spec_parts t a b2 X (HMM.out X hX) HWW.out.1 HWW.out.2 h2
  have C3 : Hid (b1 = true → ∀ X, Below w.heap.size w X → Calls Tryz.prog 27 #[tbV t a] X fun e w' => e = .returned (.bool b3) ∧ Below X.heap.size X w') := fun g X hX => spec_chans0 t a.pa a.da a.ca a.sa a.pn a.pc a.dn a.dc a.cn a.cc a.sn a.sc t.ds t.cs b3 X (HMM.out X hX).d.seg (HMM.out X hX).c.seg HWW.out.1.db HWW.out.1.cb HWW.out.1.pb (h1.1 g).2.2.2.2.1 (h1.1 g).2.2.1 h3
  have C4 : Hid (b1 = true → ∀ X, Below w.heap.size w X → Calls Tryz.prog 28 #[tbV t a] X fun e w' => e = .returned (.bool b4) ∧ Below X.heap.size X w') := fun g X hX => spec_slots0 t a.pa a.da a.ca a.sa a.pn a.pc a.dn a.dc a.cn a.cc a.sn a.sc t.ss b4 X (HMM.out X hX).s.seg HWW.out.1.sb HWW.out.1.pb (h1.1 g).2.2.2.2.2.1 (h1.1 g).2.2.2.2.2.2.1 (h1.1 g).2.2.2.2.2.2.2.1 h4
  clear h1 h2 h3 h4 HQ HMM HWW
  have HB0 : Hid (Below w.heap.size w (w.alloc (.cells (tbA t a) 40))) := (Below.refl _ _).alloc (Nat.le_refl _) _
  have HX0 : Hid ((w.alloc (.cells (tbA t a) 40)).heap[w.heap.size]? = some (.cells (tbA t a) 40 (0, 0))) := TBx.new w t a _ rfl
  go_enter Tryz.func9, Tryz.ntmps9
  go_wp2_with (first | (refine wpList_load_rowG rfl 40 (.tmp 1) rfl w.heap.size rfl 40 (tbA t a) (0, 0) _ HX0.out Tryz.underlying40 rfl (by kernel_rfl) ?_) | fail)
  refine Calls.mono (C1.out _ HB0.out) ?_
  rintro e w1 ⟨rfl, hb1⟩
  have HB1 : Hid (Below w.heap.size w w1) := HB0.out.trans (hb1.mono HB0.out.size)
  have HX1 : Hid (w1.heap[w.heap.size]? = some (.cells (tbA t a) 40 (0, 0))) := TBx.below (t := t) (a := a) HX0.out hb1
  clear hb1 HB0 HX0
  cases b1
  · have HT : Hid (q = false) := HN.out (.inl (by trivial))
    go_wp2
    go_ret
    exact ⟨ret_bool HT.out.symm, HB1.out⟩
  have C3' : Hid _ := C3.out (by trivial)
  have C4' : Hid _ := C4.out (by trivial)
  go_wp2_with (first | (refine wpList_load_rowG rfl 40 (.tmp 1) rfl w.heap.size rfl 40 (tbA t a) (0, 0) _ HX1.out Tryz.underlying40 rfl (by kernel_rfl) ?_) | fail)
  refine Calls.mono (C2.out _ HB1.out) ?_
  rintro e w2 ⟨rfl, hb2⟩
  have HB2 : Hid (Below w.heap.size w w2) := HB1.out.trans (hb2.mono HB1.out.size)
  have HX2 : Hid (w2.heap[w.heap.size]? = some (.cells (tbA t a) 40 (0, 0))) := TBx.below (t := t) (a := a) HX1.out hb2
  clear hb2 HB1 HX1
  cases b2
  · have HT : Hid (q = false) := HN.out (.inr (.inl (by trivial)))
    go_wp2
    go_ret
    exact ⟨ret_bool HT.out.symm, HB2.out⟩
  go_wp2_with (first | (refine wpList_load_rowG rfl 40 (.tmp 1) rfl w.heap.size rfl 40 (tbA t a) (0, 0) _ HX2.out Tryz.underlying40 rfl (by kernel_rfl) ?_) | fail)
  refine Calls.mono (C3'.out _ HB2.out) ?_
  rintro e w3 ⟨rfl, hb3⟩
  have HB3 : Hid (Below w.heap.size w w3) := HB2.out.trans (hb3.mono HB2.out.size)
  have HX3 : Hid (w3.heap[w.heap.size]? = some (.cells (tbA t a) 40 (0, 0))) := TBx.below (t := t) (a := a) HX2.out hb3
  clear hb3 HB2 HX2
  cases b3
  · have HT : Hid (q = false) := HN.out (.inr (.inr (by trivial)))
    go_wp2
    go_ret
    exact ⟨ret_bool HT.out.symm, HB3.out⟩
  go_wp2_with (first | (refine wpList_load_rowG rfl 40 (.tmp 1) rfl w.heap.size rfl 40 (tbA t a) (0, 0) _ HX3.out Tryz.underlying40 rfl (by kernel_rfl) ?_) | fail)
  refine Calls.mono (C4'.out _ HB3.out) ?_
  rintro e w4 ⟨rfl, hb4⟩
  have HB4 : Hid (Below w.heap.size w w4) := HB3.out.trans (hb4.mono HB3.out.size)
  have HT : Hid (b4 = q) := HY.out (by trivial) (by trivial) (by trivial)
  clear hb4 HB3 HX3
  rw [HT.out]
  go_wp2
  go_ret
  exact ⟨rfl, HB4.out⟩
end Go.Proofs.YtofibnmbgfggkaaGreatDoor
