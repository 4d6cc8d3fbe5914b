
/-
  Sound tables have small numbers and short lists. No function of the program in sight; no conditions.
-/
import Derived.Test.YtmnoghhdkdjnmaaGreatDoorBas
import Derived.Test.YtmnoghhdkdjnmaaGreatDoorRul
namespace Go.Proofs.YtmnoghhdkdjnmaaGreatDoor
open Go.ChangeShapes Go.WideShapes Go.ChangeAt Go.RowKit Go.Deep Go.Joins
set_option linter.unusedVariables false

def sm (x : Int) : Prop := -1000000 ≤ x ∧ x ≤ 1000000
theorem sm.lo {x : Int} (h : sm x) : -9223372036854775808 ≤ x := by unfold sm at h; omega
theorem sm.hi {x : Int} (h : sm x) : x ≤ 9223372036854775807 := by unfold sm at h; omega
/-- What a sound table's partition is. -/
structure BP (p : Pt) : Prop where
  nm : p.nm.size ≤ 8
  en : sm p.en
  kd : p.kd = 0 ∨ p.kd = 1 ∨ p.kd = 2
  ms : sm p.ms
  wl : p.ws.length ≤ 4
  w : ∀ j, j < p.ws.length → sm (p.ws.getD j wi0).1 ∧ sm (p.ws.getD j wi0).2.1 ∧ sm (p.ws.getD j wi0).2.2
/-- What sound tables are, in small. -/
structure BT (t : Tb) : Prop where
  mem : sm t.mem
  s1 : sm t.s1
  s2 : sm t.s2
  s3 : sm t.s3
  tlb : sm t.tlb
  c1 : sm t.c1
  c2 : sm t.c2
  c3 : sm t.c3
  c4 : sm t.c4
  c5 : sm t.c5
  c6 : sm t.c6
  c7 : sm t.c7
  pad : sm t.pad
  grd : sm t.grd
  maj : sm t.maj
  pl : 1 ≤ t.ps.length ∧ t.ps.length ≤ 6
  p : ∀ i, i < t.ps.length → BP (t.ps.getD i pt0)
  dl : t.ds.length ≤ 8
  d : ∀ i, i < t.ds.length → 0 ≤ t.ds.getD i 0 ∧ t.ds.getD i 0 < (t.ps.length : Int)
  cl : t.cs.length ≤ 8
  c : ∀ i, i < t.cs.length → ((t.cs.getD i ch0).1 = 0 ∨ (t.cs.getD i ch0).1 = 1) ∧ (0 ≤ (t.cs.getD i ch0).2.1 ∧ (t.cs.getD i ch0).2.1 < (t.ps.length : Int)) ∧ (0 ≤ (t.cs.getD i ch0).2.2.1 ∧ (t.cs.getD i ch0).2.2.1 < (t.ps.length : Int)) ∧ sm (t.cs.getD i ch0).2.2.2
  sl : 1 ≤ t.ss.length ∧ t.ss.length ≤ 16
  s : ∀ i, i < t.ss.length → (0 ≤ (t.ss.getD i sl0).1 ∧ (t.ss.getD i sl0).1 < (t.ps.length : Int)) ∧ sm (t.ss.getD i sl0).2.1 ∧ sm (t.ss.getD i sl0).2.2
theorem getD_in {α : Type} (xs : List α) (d : α) (i : Nat) (hi : i < xs.length) : xs.getD i d ∈ xs := by
  rw [List.getD_eq_getElem?_getD, List.getElem?_eq_getElem hi]
  exact List.getElem_mem hi
theorem in_getD {α : Type} (xs : List α) (d x : α) (h : x ∈ xs) : ∃ i, i < xs.length ∧ xs.getD i d = x := by
  obtain ⟨i, hi, e⟩ := List.mem_iff_getElem.1 h
  exact ⟨i, hi, by rw [List.getD_eq_getElem?_getD, List.getElem?_eq_getElem hi, ← e]; rfl⟩
theorem in_allW (ps : List Pt) (i j : Nat) (hi : i < ps.length) (hj : j < (ps.getD i pt0).ws.length) : (ps.getD i pt0).ws.getD j wi0 ∈ allW ps := by
  unfold allW
  exact List.mem_flatten.2 ⟨_, List.mem_map.2 ⟨_, getD_in ps pt0 i hi, rfl⟩, getD_in _ _ _ hj⟩
theorem bt_of (t : Tb) (h : Sd t) : BT t := by
  have h0 := h 0 (by omega)
  have h1 := shapeOk_parts (h 1 (by omega))
  have h2 := h 2 (by omega)
  have h3 := costsOk_parts (h 3 (by omega))
  have h4 := h 4 (by omega)
  have h5 := h 5 (by omega)
  have h6 := h 6 (by omega)
  have h8 := h 8 (by omega)
  have h9 := h 9 (by omega)
  have h11 := h 11 (by omega)
  have h12 := h 12 (by omega)
  have h13 := h 13 (by omega)
  have h15 := h 15 (by omega)
  have h16 := h 16 (by omega)
  have h17 := h 17 (by omega)
  have h18 := h 18 (by omega)
  have h19 := h 19 (by omega)
  have h21 := h 21 (by omega)
  have h22 := h 22 (by omega)
  have h23 := h 23 (by omega)
  have h24 := h 24 (by omega)
  simp only [R] at h0 h2 h4 h5 h6 h8 h9 h11 h12 h13 h15 h16 h17 h18 h19 h21 h22 h23 h24
  have hwin : ∀ i, i < t.ps.length → ∀ j, j < (t.ps.getD i pt0).ws.length → WOk ((t.ps.getD i pt0).ws.getD j wi0) ∧ ((t.ps.getD i pt0).ws.getD j wi0).1 + ((t.ps.getD i pt0).ws.getD j wi0).2.1 ≤ t.mem := fun i hi j hj => by
    obtain ⟨k, hk, e⟩ := in_getD (allW t.ps) wi0 _ (in_allW t.ps i j hi hj)
    rw [← e]
    exact h13 k hk
  have hst : ∀ i, i < t.ss.length → 0 ≤ (t.ss.getD i sl0).2.1 := by
    intro i
    induction i with
    | zero =>
      intro hi
      have := (h24 0 hi).1
      simpa [freeN] using this
    | succ i ih =>
      intro hi
      have a1 := ih (by omega)
      have a2 := (h24 (i + 1) hi).1
      have a3 := h23 i (by omega)
      simp only [freeN] at a2
      omega
  constructor
  case pl => exact h8
  case dl => exact h16
  case d => exact h17
  case cl => exact h18
  case sl => exact h21
  case p =>
    intro i hi
    have p9 := h9 i hi
    have p11 := h11 i hi
    have p12 := h12 i hi
    have p15 := h15 i hi
    have pw := hwin i hi
    generalize t.ps.getD i pt0 = p at p9 p11 p12 p15 pw
    obtain ⟨_, j, hj, hh, _⟩ := p15
    have pj := pw j hj
    constructor
    · unfold Lab.nok at p9
      simp only [Bool.and_eq_true, decide_eq_true_eq, Tx.nums_len] at p9
      omega
    · simp only [WOk, WinOk, Has, sm] at pj hh ⊢
      omega
    · simp [polOk, inr] at p11
      omega
    · simp [polOk, inr] at p11
      simp only [sm]
      omega
    · omega
    · intro j hj
      have := pw j hj
      simp only [WOk, WinOk, sm] at this ⊢
      omega
  case c =>
    intro i hi
    obtain ⟨g1, g2, g3⟩ := h19 i hi
    have g4 := chOk_k (show chOk _ _ _ _ = true from g1)
    refine ⟨by omega, g2, g3, ?_⟩
    simp only [sm]
    omega
  case s =>
    intro i hi
    have g1 := h24 i hi
    have g2 := h23 i hi
    have g3 := hst i hi
    refine ⟨h22 i hi, ?_, ?_⟩ <;> simp only [sm] <;> omega
  all_goals
    simp only [sm]
    omega
end Go.Proofs.YtmnoghhdkdjnmaaGreatDoor
