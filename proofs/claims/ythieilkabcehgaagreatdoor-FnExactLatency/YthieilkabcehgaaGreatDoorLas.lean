
/-
  How long a partition waits at most, by the specification. Conditions: the lists lie in memory.
-/
import Derived.Test.YthieilkabcehgaaGreatDoorBas
import Derived.Test.YthieilkabcehgaaGreatDoorLat
import Derived.Test.YthieilkabcehgaaGreatDoorTig
import Derived.Test.YthieilkabcehgaaGreatDoorSp6
namespace Go.Proofs.YthieilkabcehgaaGreatDoor
open Go.ChangeShapes Go.WideShapes Go.ChangeAt Go.RowKit Go.Deep Go.Joins
set_option linter.unusedVariables false

set_option maxRecDepth 40000 in
set_option maxHeartbeats 4000000 in
theorem spec_lat (t : Tb) (a : Ad) (p : Int) (w : World) (hm : TM 0 w t a) (hw : TW t a) (hs : TS a) :
    Calls Tryz.prog 22 #[tbV t a, .int .i64 p] w fun e w' => (∃ r : Int, e = .returned (.int .i64 r) ∧ La.LR t p r) ∧ Below w.heap.size w w' := by
  obtain ⟨q, hq⟩ := told (Sd t)
  have HB0 : Hid (Below w.heap.size w (w.alloc (.cells (tbA t a) 39))) := (Below.refl _ _).alloc (Nat.le_refl _) _
  have HX0 : Hid (TBx (w.alloc (.cells (tbA t a) 39)) w.heap.size t a) := TBx.new w t a _ rfl
  have HSP : Hid (Calls Tryz.prog 30 #[tbV t a] (w.alloc (.cells (tbA t a) 39)) fun e w' => e = .returned (.bool q) ∧ Below (w.alloc (.cells (tbA t a) 39)).heap.size (w.alloc (.cells (tbA t a) 39)) w') := spec_sound t a q _ (hm.below HB0.out) hw hs hq
  have HSB : Hid (Sd t → ∀ c : Int, 0 ≤ c → c < t.maj → ∀ X, Below w.heap.size w X → Calls Tryz.prog 61 #[tbV t a, .int .i64 c] X fun e w' => e = .returned (.int .i64 (begV t c)) ∧ Below X.heap.size X w') := fun h c h1 h2 X hX => by
    have := spec_begin t a c X (hm.below hX) hw hs (sd_tm h) h1 (by have := (sd_tm h).maj2; omega)
    rw [Int.emod_eq_of_lt h1 h2] at this
    exact this
  have HQ : Hid (q = true ↔ Sd t) := hq
  clear hq hm hw hs
  go_enter Tryz.func22, Tryz.ntmps22
  go_wp2_with (first | (refine wpList_load_row rfl 39 (.tmp 2) rfl w.heap.size rfl 39 (tbA t a) (0, 0) _ HX0.out Tryz.underlying39 rfl (by kernel_rfl) ?_) | fail)
  refine Calls.mono HSP.out ?_
  rintro e w1 ⟨rfl, hb1⟩
  have HB1 : Hid (Below w.heap.size w w1) := HB0.out.trans (hb1.mono HB0.out.size)
  have HX1 : Hid (TBx w1 w.heap.size t a) := HX0.out.below hb1
  clear hb1 HB0 HX0 HSP
  cases q
  · have HN : Hid (La.LR t p (-1)) := Or.inl ⟨fun h => (by have := HQ.out.2 h; cases this), rfl⟩
    go_wp2
    go_ret
    exact ⟨⟨_, rfl, HN.out⟩, HB1.out⟩
  have HSD : Hid (Sd t) := HQ.out.1 rfl
  have HTM : Hid (Tm t) := sd_tm HSD.out
  have hmj1 := HTM.out.maj1
  have hmj2 := HTM.out.maj2
  obtain ⟨M, HM⟩ : ∃ M : Nat, Hid (t.maj = (M : Int)) := ⟨t.maj.toNat, by show _ = _; omega⟩
  clear HQ
  go_wp2
  go_loopw [5, 6, 7, 8] (fun vl vf vm vc wr => ∃ (c : Nat) (l f m : Int), (c : Int) ≤ t.maj ∧ vl = .int .i64 l ∧ vf = .int .i64 f ∧ vm = .int .i64 m ∧ vc = .int .i64 c ∧ Hid (La.SI t p c f l m) ∧ Hid (Below w.heap.size w wr) ∧ Hid (TBx wr w.heap.size t a)) (fun _ _ _ vc _ => M - (intOf vc).toNat)
  case atStart => exact ⟨0, -1, -1, 0, by omega, rfl, rfl, rfl, rfl, La.SI.start HTM.out p, HB1.out, HX1.out⟩
  case round =>
    clear HB1 HX1
    obtain ⟨c, l, f, m, hc, rfl, rfl, rfl, rfl, HI, HBW, HXW⟩ := hrel
    have hrg := HI.out.rng HTM.out (by omega) hc
    have k14 : wr.cell? ⟨w.heap.size, 14, none⟩ = some (.int .i64 t.maj) := HXW.out.cell 14 rfl
    by_cases hlt : (c : Int) < t.maj
    rotate_left
    · have hce : (c : Int) = t.maj := by omega
      have HE : Hid (La.SI t p t.maj f l m) := by
        show La.SI _ _ _ _ _ _
        rw [← hce]
        exact HI.out
      clear hce HI HXW HSB
      by_cases hf : f < 0
      · have HN : Hid (La.LR t p (-1)) := Or.inr ⟨HSD.out, HE.out.none HTM.out hf⟩
        go_wp2
        go_ret
        exact ⟨⟨_, rfl, HN.out⟩, HBW.out⟩
      have HN : Hid (La.LN t p t.ss.length (if m < t.maj - 1 - l + f then t.maj - 1 - l + f else m)) := HE.out.done HTM.out hf
      have hw1 : IntKind.i64.wrap (t.maj - 1) = t.maj - 1 := by rw [IntKind.wrap_i64]; omega
      have hw2 : IntKind.i64.wrap (t.maj - 1 - l) = t.maj - 1 - l := by rw [IntKind.wrap_i64]; omega
      have hw3 : IntKind.i64.wrap (t.maj - 1 - l + f) = t.maj - 1 - l + f := by rw [IntKind.wrap_i64]; omega
      clear HE
      by_cases hg : m < t.maj - 1 - l + f
      · rw [if_pos hg] at HN
        have HF : Hid (La.LR t p (t.maj - 1 - l + f)) := Or.inr ⟨HSD.out, HN.out⟩
        clear HN
        go_wp2
        go_ret
        exact ⟨⟨_, rfl, HF.out⟩, HBW.out⟩
      · rw [if_neg hg] at HN
        have HF : Hid (La.LR t p m) := Or.inr ⟨HSD.out, HN.out⟩
        clear HN
        go_wp2
        go_ret
        exact ⟨⟨_, rfl, HF.out⟩, HBW.out⟩
    have HCB : Hid (∀ X, Below w.heap.size w X → Calls Tryz.prog 61 #[tbV t a, .int .i64 c] X fun e w' => e = .returned (.int .i64 (begV t c)) ∧ Below X.heap.size X w') := fun X hX => HSB.out HSD.out c (by omega) hlt X hX
    have HHY : Hid (begV t c = p → 0 ≤ p → ∃ i, La.Ows t p i ∧ La.fF t i ≤ c ∧ c < La.eE t i) := fun h h0 => La.beg_hit HTM.out h0 h
    have HHN : Hid (∀ i, La.Ows t p i → La.fF t i ≤ c ∧ c < La.eE t i → begV t c = p ∧ 0 ≤ p) := fun i ho hh => ⟨La.hit_beg HTM.out ho hh.1 hh.2, by have := HTM.out.pt i ho.1; have := ho.2; omega⟩
    obtain ⟨b, HBE⟩ : ∃ b, Hid (begV t c = b) := ⟨_, rfl⟩
    rw [HBE.out] at HCB HHY HHN
    clear HBE HSB
    go_wp2_with (first | (refine wpList_load_row rfl 39 (.tmp 2) rfl w.heap.size rfl 39 (tbA t a) (0, 0) _ HXW.out Tryz.underlying39 rfl (by kernel_rfl) ?_) | fail)
    refine Calls.mono (HCB.out _ HBW.out) ?_
    rintro e w2 ⟨rfl, hb2⟩
    have HBV : Hid (Below w.heap.size w w2) := HBW.out.trans (hb2.mono HBW.out.size)
    have HXV : Hid (TBx w2 w.heap.size t a) := HXW.out.below hb2
    clear hb2 HCB HBW HXW k14
    by_cases hb : b = p
    rotate_left
    · have HS2 : Hid (La.SI t p ((c : Int) + 1) f l m) := HI.out.no HTM.out fun i ho hh => hb (HHN.out i ho hh).1
      have hbn : (b != p) = true := by simp [hb]
      clear HI HHY HHN
      go_wp2
      go_roundw
      case rel => exact ⟨c + 1, l, f, m, by omega, rfl, rfl, rfl, by first | rfl | go_num, HS2.out, HBV.out, HXV.out⟩
      case measure => have hM := HM.out; simp [intOf]; omega
    have hbn : (b != p) = false := by simp [hb]
    have HHY2 : Hid (0 ≤ p → ∃ i, La.Ows t p i ∧ La.fF t i ≤ c ∧ c < La.eE t i) := fun h0 => HHY.out hb h0
    clear HHY hb
    by_cases hp0 : p < 0
    · have HS2 : Hid (La.SI t p ((c : Int) + 1) f l m) := HI.out.no HTM.out fun i ho hh => by have := (HHN.out i ho hh).2; omega
      have hp1 : decide (p < 0) = true := decide_eq_true hp0
      clear HI HHY2 HHN
      go_wp2
      go_roundw
      case rel => exact ⟨c + 1, l, f, m, by omega, rfl, rfl, rfl, by first | rfl | go_num, HS2.out, HBV.out, HXV.out⟩
      case measure => have hM := HM.out; simp [intOf]; omega
    have HY : Hid (∃ i, La.Ows t p i ∧ La.fF t i ≤ c ∧ c < La.eE t i) := HHY2.out (by omega)
    have hp1 : decide (p < 0) = false := decide_eq_false hp0
    clear HHY2 HHN
    by_cases hf : f < 0
    · have HS2 : Hid (La.SI t p ((c : Int) + 1) c c m) := HI.out.first HTM.out hf HY.out
      clear HI HY
      go_wp2
      go_roundw
      case rel => exact ⟨c + 1, c, c, m, by omega, rfl, rfl, rfl, by first | rfl | go_num, HS2.out, HBV.out, HXV.out⟩
      case measure => have hM := HM.out; simp [intOf]; omega
    have HS3 : Hid (La.SI t p ((c : Int) + 1) f c (if m < c - l - 1 then c - l - 1 else m)) := HI.out.more HTM.out hf HY.out
    have hw1 : IntKind.i64.wrap ((c : Int) - l) = c - l := by rw [IntKind.wrap_i64]; omega
    have hw2 : IntKind.i64.wrap ((c : Int) - l - 1) = c - l - 1 := by rw [IntKind.wrap_i64]; omega
    clear HI HY
    by_cases hg : m < (c : Int) - l - 1
    · have HS2 : Hid (La.SI t p ((c : Int) + 1) f c (c - l - 1)) := by
        have := HS3.out
        rw [if_pos hg] at this
        exact this
      clear HS3
      go_wp2
      go_roundw
      case rel => exact ⟨c + 1, c, f, c - l - 1, by omega, rfl, rfl, rfl, by first | rfl | go_num, HS2.out, HBV.out, HXV.out⟩
      case measure => have hM := HM.out; simp [intOf]; omega
    · have HS2 : Hid (La.SI t p ((c : Int) + 1) f c m) := by
        have := HS3.out
        rw [if_neg hg] at this
        exact this
      clear HS3
      go_wp2
      go_roundw
      case rel => exact ⟨c + 1, c, f, m, by omega, rfl, rfl, rfl, by first | rfl | go_num, HS2.out, HBV.out, HXV.out⟩
      case measure => have hM := HM.out; simp [intOf]; omega
end Go.Proofs.YthieilkabcehgaaGreatDoor
