/-
  Slots that are right: the specification's own function. Conditions: the list lies in memory; pad, guard and major are right.
  Devices and channels that are right: the specification's own function. Conditions: the lists lie in memory; costs and shape are right.
  Whether tables are sound: the specification's own function. Conditions: the lists lie in memory, the lengths are at most 1048576.
-/
import Derived.Test.YtfejlmoambidaaaGreatDoorBas
import Derived.Test.YtfejlmoambidaaaGreatDoorRul
import Derived.BigQuiet
import Derived.Test.YtfejlmoambidaaaGreatDoorSp3
namespace Go.Proofs.YtfejlmoambidaaaGreatDoor
open Go.ChangeShapes Go.WideShapes Go.ChangeAt Go.RowKit Go.Deep Go.Joins
set_option linter.unusedVariables false

def SlotP (t : Tb) (np : Nat) (ss : List slT) (i : Nat) : Prop := (0 ≤ (ss.getD i sl0).1 ∧ (ss.getD i sl0).1 ≤ (np : Int) - 1) ∧ (freeN ss i ≤ (ss.getD i sl0).2.1 ∧ (ss.getD i sl0).2.1 ≤ 5000) ∧ (t.pad + t.grd + 1 ≤ (ss.getD i sl0).2.2 ∧ (ss.getD i sl0).2.2 ≤ 5000) ∧ (ss.getD i sl0).2.1 + (ss.getD i sl0).2.2 ≤ t.maj
def SlotsP (t : Tb) (np : Nat) (ss : List slT) (sn : Nat) : Prop := (1 ≤ sn ∧ sn ≤ 16) ∧ ∀ i, i < sn → SlotP t np ss i
end Go.Proofs.YtfejlmoambidaaaGreatDoor
namespace Go.Proofs.YtfejlmoambidaaaGreatDoor
open Go.ChangeShapes Go.WideShapes Go.ChangeAt Go.RowKit Go.Deep Go.Joins
set_option linter.unusedVariables false

def ChanP (np : Nat) (x : chT) : Prop := chOkT x = true ∧ x.2.1 < (np : Int) ∧ x.2.2.1 < (np : Int)
def ChansP (t : Tb) (np : Nat) (ds : List Int) (dn : Nat) (cs : List chT) (cn : Nat) : Prop := dn ≤ 8 ∧ cn ≤ 8 ∧ (∀ i, i < dn → 0 ≤ ds.getD i 0 ∧ ds.getD i 0 ≤ (np : Int) - 1) ∧ (∀ i, i < cn → ChanP np (cs.getD i ch0)) ∧ t.c1 * (16 + mostN cs cn) + t.c7 * (t.s1 * t.s2) ≤ t.pad
end Go.Proofs.YtfejlmoambidaaaGreatDoor
namespace Go.Proofs.YtfejlmoambidaaaGreatDoor
open Go.ChangeShapes Go.WideShapes Go.ChangeAt Go.RowKit Go.Deep Go.Joins
set_option linter.unusedVariables false

theorem free_pos {ss : List slT} {n : Nat} (h : ∀ i, i < n → freeN ss i ≤ (ss.getD i sl0).2.1 ∧ 0 < (ss.getD i sl0).2.2) : ∀ i, i ≤ n → 0 ≤ freeN ss i := by
  intro i
  induction i with
  | zero => intro _; exact Int.le_refl _
  | succ i ih =>
    intro hi
    have h1 := ih (by omega)
    have h2 := h i (by omega)
    show 0 ≤ (ss.getD i sl0).2.1 + (ss.getD i sl0).2.2
    omega
theorem sd_iff {t : Tb} {a : Ad} (hw : TW t a) : Sd t ↔ (HeadP t ∧ PartsP t.ps t.mem ∧ ChansP t a.pn t.ds a.dn t.cs a.cn ∧ SlotsP t a.pn t.ss a.sn) := by
  have hpl := hw.pl
  have hdl := hw.dl
  have hcl := hw.cl
  have hsl := hw.sl
  constructor
  · intro h
    have r0 := h 0 (by omega); have r1 := h 1 (by omega); have r2 := h 2 (by omega); have r3 := h 3 (by omega); have r4 := h 4 (by omega); have r5 := h 5 (by omega); have r6 := h 6 (by omega); have r7 := h 7 (by omega)
    have r8 := h 8 (by omega); have r9 := h 9 (by omega); have r10 := h 10 (by omega); have r11 := h 11 (by omega); have r12 := h 12 (by omega); have r13 := h 13 (by omega); have r14 := h 14 (by omega); have r15 := h 15 (by omega)
    have r16 := h 16 (by omega); have r17 := h 17 (by omega); have r18 := h 18 (by omega); have r19 := h 19 (by omega); have r20 := h 20 (by omega); have r21 := h 21 (by omega); have r22 := h 22 (by omega); have r23 := h 23 (by omega); have r24 := h 24 (by omega)
    clear h
    simp only [R] at r0 r1 r2 r3 r4 r5 r6 r7 r8 r9 r10 r11 r12 r13 r14 r15 r16 r17 r18 r19 r20 r21 r22 r23 r24
    refine ⟨⟨r0.2, r0.1, r1, r2, r3, r4, r5, r6, r7⟩, ⟨r8, fun i hi => ⟨⟨r9 i hi, r11 i hi, r12 i hi, fun j hj => ?_, (r15 i hi).2, (r15 i hi).1⟩, r10 i hi⟩, fun i hi j hj => ?_⟩, ⟨by omega, by omega, fun i hi => ?_, fun i hi => ?_, ?_⟩, ⟨by omega, fun i hi => ?_⟩⟩
    · obtain ⟨k, hk, e⟩ := mem_allW (ps := t.ps) hi hj
      rw [← e]
      exact r13 k hk
    · have := r14 i hi j hj
      unfold ApartP at this
      unfold Meet
      omega
    · have := r17 i (by omega)
      rw [hpl] at this
      omega
    · have := r19 i (by omega)
      rw [hpl] at this
      exact ⟨this.1, this.2.1.2, this.2.2.2⟩
    · rw [← hcl]; exact r20
    · have g1 := r22 i (by omega)
      have g2 := r23 i (by omega)
      have g3 := r24 i (by omega)
      rw [hpl] at g1
      have g4 := free_pos (ss := t.ss) (n := a.sn) (fun j hj => ⟨(r24 j (by omega)).1, by have := r23 j (by omega); omega⟩) i (by omega)
      exact ⟨by omega, ⟨g3.1, by omega⟩, ⟨by omega, by omega⟩, g3.2⟩
  · rintro ⟨hd, hp, hc, hs⟩ i hi
    have hwk : ∀ k, k < (allW t.ps).length → WOk ((allW t.ps).getD k wi0) ∧ ((allW t.ps).getD k wi0).1 + ((allW t.ps).getD k wi0).2.1 ≤ t.mem := fun k hk => by
      have hmem : (allW t.ps).getD k wi0 ∈ allW t.ps := by simp [List.getD, hk]
      obtain ⟨p, hp', j, hj, e⟩ := allW_mem hmem
      rw [e]
      exact (hp.2.1 p hp').1.2.2.2.1 j hj
    match i, hi with
    | 0, _ => exact ⟨hd.2.1, hd.1⟩
    | 1, _ => exact hd.2.2.1
    | 2, _ => exact hd.2.2.2.1
    | 3, _ => exact hd.2.2.2.2.1
    | 4, _ => exact hd.2.2.2.2.2.1
    | 5, _ => exact hd.2.2.2.2.2.2.1
    | 6, _ => exact hd.2.2.2.2.2.2.2.1
    | 7, _ => exact hd.2.2.2.2.2.2.2.2
    | 8, _ => exact hp.1
    | 9, _ => exact fun i hi => (hp.2.1 i hi).1.1
    | 10, _ => exact fun i hi j hj => (hp.2.1 i hi).2 j hj
    | 11, _ => exact fun i hi => (hp.2.1 i hi).1.2.1
    | 12, _ => exact fun i hi => (hp.2.1 i hi).1.2.2.1
    | 13, _ => exact hwk
    | 14, _ => exact fun i hi j hj => ⟨(hwk j (by omega)).1, (hwk i hi).1, by have := hp.2.2 i hi j hj; unfold Meet at this; omega⟩
    | 15, _ => exact fun i hi => ⟨(hp.2.1 i hi).1.2.2.2.2.2, (hp.2.1 i hi).1.2.2.2.2.1⟩
    | 16, _ => show t.ds.length ≤ 8; rw [hdl]; exact hc.1
    | 17, _ => exact fun i hi => by have := hc.2.2.1 i (by omega); rw [hpl]; omega
    | 18, _ => show t.cs.length ≤ 8; rw [hcl]; exact hc.2.1
    | 19, _ =>
      · intro i hi
        have g := hc.2.2.2.1 i (by omega)
        have g2 := g.1
        unfold chOkT chOk at g2
        simp only [Bool.and_eq_true, inr_iff] at g2
        rw [hpl]
        exact ⟨g.1, ⟨g2.1.1, g.2.1⟩, ⟨g2.2.1.1, g.2.2⟩⟩
    | 20, _ => show padV t ≤ t.pad; unfold padV; rw [hcl]; exact hc.2.2.2.2
    | 21, _ => show 1 ≤ t.ss.length ∧ t.ss.length ≤ 16; rw [hsl]; exact hs.1
    | 22, _ => exact fun i hi => by have := (hs.2 i (by omega)).1; rw [hpl]; omega
    | 23, _ => exact fun i hi => by have := (hs.2 i (by omega)).2.2.1; omega
    | 24, _ => exact fun i hi => by have := hs.2 i (by omega); exact ⟨this.2.1.1, this.2.2.2⟩
    | i + 25, hi => exact absurd hi (by omega)
end Go.Proofs.YtfejlmoambidaaaGreatDoor
