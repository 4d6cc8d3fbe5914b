
/-
  Tables as they are drawn, as numbers and lists, and that they are sound. No function of the program in sight; no conditions but those that each fact names.
-/
import Derived.Test.YtlomcdgfcocmmaaGreatDoorBas
import Derived.Test.YtlomcdgfcocmmaaGreatDoorRul
import Derived.Test.YtlomcdgfcocmmaaGreatDoorNam
namespace Go.Proofs.YtlomcdgfcocmmaaGreatDoor
open Go.ChangeShapes Go.WideShapes Go.ChangeAt Go.RowKit Go.Deep
set_option linter.unusedVariables false

def nmL : List ByteArray := [⟨#[97, 108, 112, 104, 97]⟩, ⟨#[98, 101, 116, 97]⟩, ⟨#[103, 97, 109, 109, 97]⟩, ⟨#[100, 101, 108, 116, 97]⟩, ⟨#[101, 112, 115]⟩, ⟨#[122, 101, 116, 97]⟩]
/-- A partition as it is drawn at an address, and the address behind it. -/
def PD (i : Nat) (at0 : Int) (p : Pt) (at1 : Int) : Prop :=
  ∃ x y z e : Int, (x = 0 ∨ x = 1) ∧ (0 ≤ y ∧ y < 4) ∧ (0 ≤ z ∧ z < 3) ∧ (e = 0 ∨ e = 1) ∧ p.nm = nmL.getD i ByteArray.empty ∧ p.en = at0 + 4 * e ∧ polOk p.kd p.ms = true ∧ p.ws = [(at0, 128, 5), (at0 + 128 + 4 * x, 32 + 4 * y, 3)] ∧ at1 = at0 + 128 + 4 * x + (32 + 4 * y) + 4 * z
/-- Partitions as they are drawn, from an address on. -/
structure PDs (ps : List Pt) (A : Nat → Int) : Prop where
  a0 : 0 ≤ A 0 ∧ A 0 ≤ 12 ∧ A 0 % 4 = 0
  st : ∀ i, i < ps.length → PD i (A i) (ps.getD i pt0) (A (i + 1))
theorem PDs.at {ps : List Pt} {A : Nat → Int} (h : PDs ps A) : ∀ i, i ≤ ps.length → 0 ≤ A i ∧ A i ≤ 12 + 188 * (i : Int) ∧ A i % 4 = 0 := by
  intro i
  induction i with
  | zero => intro _; have := h.a0; omega
  | succ i ih =>
    intro hi
    have h1 := ih (by omega)
    obtain ⟨x, y, z, e, hx, hy, hz, he, _, _, _, _, e1⟩ := h.st i (by omega)
    omega
/-- The k-th window of all. -/
def wk (ps : List Pt) (k : Nat) : wiT := (ps.getD (k / 2) pt0).ws.getD (k % 2) wi0
theorem allW_two : ∀ (ps : List Pt), (∀ i, i < ps.length → (ps.getD i pt0).ws.length = 2) → (allW ps).length = 2 * ps.length ∧ ∀ k, k < 2 * ps.length → (allW ps).getD k wi0 = wk ps k := by
  intro ps
  induction ps with
  | nil => intro _; exact ⟨rfl, fun k hk => by simp at hk⟩
  | cons p ps ih =>
    intro h
    have h0 : p.ws.length = 2 := h 0 (by simp)
    obtain ⟨g1, g2⟩ := ih (fun i hi => by have := h (i + 1) (by simp; omega); simpa using this)
    have e : allW (p :: ps) = p.ws ++ allW ps := by simp [allW]
    refine ⟨by rw [e, List.length_append, h0, g1]; simp; omega, fun k hk => ?_⟩
    rw [e]
    by_cases hk2 : k < 2
    · have e1 : k / 2 = 0 := by omega
      have e2 : k % 2 = k := by omega
      unfold wk
      rw [e1, e2]
      simp [List.getD, List.getElem?_append_left (by omega : k < p.ws.length)]
    · obtain ⟨k', rfl⟩ : ∃ k', k = k' + 2 := ⟨k - 2, by omega⟩
      have e1 : (k' + 2) / 2 = k' / 2 + 1 := by omega
      have e2 : (k' + 2) % 2 = k' % 2 := by omega
      have g3 := g2 k' (by simp at hk; omega)
      unfold wk at g3 ⊢
      rw [e1, e2]
      simp only [List.getD] at g3 ⊢
      rw [List.getElem?_append_right (by omega), h0, show k' + 2 - 2 = k' by omega]
      simpa using g3
/-- Slots as they are drawn. -/
structure SDs (t : Tb) (S : Nat → Int) : Prop where
  s0 : S 0 = 0 ∨ S 0 = 5
  st : ∀ i, i < t.ss.length → ∃ x g : Int, (0 ≤ x ∧ x < 90) ∧ (g = 0 ∨ g = 3) ∧ (0 ≤ (t.ss.getD i sl0).1 ∧ (t.ss.getD i sl0).1 < (t.ps.length : Int)) ∧ (t.ss.getD i sl0).2.1 = S i ∧ (t.ss.getD i sl0).2.2 = t.pad + t.grd + 1 + x ∧ S (i + 1) = S i + (t.pad + t.grd + 1 + x) + g
/-- Tables as they are drawn. -/
structure DT (t : Tb) : Prop where
  s1 : t.s1 = 1 ∨ t.s1 = 2 ∨ t.s1 = 4
  s2 : t.s2 = 1 ∨ t.s2 = 2
  s3 : t.s3 = 4 ∨ t.s3 = 8 ∨ t.s3 = 16
  tlb : 1 ≤ t.tlb ∧ t.tlb ≤ 4
  c1 : 1 ≤ t.c1 ∧ t.c1 ≤ 2
  c2 : 0 ≤ t.c2 ∧ t.c2 ≤ 3
  c3 : 0 ≤ t.c3 ∧ t.c3 ≤ 2
  c4 : 0 ≤ t.c4 ∧ t.c4 ≤ 5
  c5 : 0 ≤ t.c5 ∧ t.c5 ≤ 3
  c6 : 0 ≤ t.c6 ∧ t.c6 ≤ 2
  c7 : 0 ≤ t.c7 ∧ t.c7 ≤ 2
  n : 2 ≤ t.ps.length ∧ t.ps.length ≤ 4
  p : ∃ A, PDs t.ps A ∧ t.mem = A t.ps.length + 64
  d : t.ds.length ≤ 3 ∧ ∀ i, i < t.ds.length → 0 ≤ t.ds.getD i 0 ∧ t.ds.getD i 0 < (t.ps.length : Int)
  c : t.cs.length ≤ 4 ∧ ∀ i, i < t.cs.length → chOkT (t.cs.getD i ch0) = true ∧ (0 ≤ (t.cs.getD i ch0).2.1 ∧ (t.cs.getD i ch0).2.1 < (t.ps.length : Int)) ∧ (0 ≤ (t.cs.getD i ch0).2.2.1 ∧ (t.cs.getD i ch0).2.2.1 < (t.ps.length : Int))
  g : ∃ x : Int, (x = 0 ∨ x = 1 ∨ x = 5) ∧ t.grd = worstStep t.c1 t.c2 t.c3 t.c4 t.c5 t.c6 t.c7 + x
  pd : ∃ x : Int, (x = 0 ∨ x = 1 ∨ x = 7) ∧ t.pad = padV t + x
  m : t.ps.length ≤ t.ss.length ∧ t.ss.length ≤ t.ps.length + 2
  s : ∃ S, SDs t S
  j : ∃ x : Int, (x = 0 ∨ x = 1 ∨ x = 20) ∧ t.maj = (t.ss.getD (t.ss.length - 1) sl0).2.1 + (t.ss.getD (t.ss.length - 1) sl0).2.2 + x
theorem PDs.mono {ps : List Pt} {A : Nat → Int} (h : PDs ps A) : ∀ j i, i ≤ j → j ≤ ps.length → A i ≤ A j := by
  intro j
  induction j with
  | zero => intro i hi _; have : i = 0 := by omega
            subst this; exact Int.le_refl _
  | succ j ih =>
    intro i hi hj
    by_cases e : i = j + 1
    · subst e; exact Int.le_refl _
    · have h1 := ih i (by omega) (by omega)
      obtain ⟨x, y, z, e', hx, hy, hz, he, _, _, _, _, e1⟩ := h.st j (by omega)
      omega
/-- What a window of all is, in numbers. -/
theorem PDs.win {ps : List Pt} {A : Nat → Int} (h : PDs ps A) (hn : ps.length ≤ 4) (k : Nat) (hk : k < 2 * ps.length) : WOk (wk ps k) ∧ A (k / 2) ≤ (wk ps k).1 ∧ (wk ps k).1 + (wk ps k).2.1 ≤ A (k / 2 + 1) ∧ (k % 2 = 0 → (wk ps k).1 + (wk ps k).2.1 = A (k / 2) + 128) ∧ (k % 2 = 1 → A (k / 2) + 128 ≤ (wk ps k).1) := by
  have hp : k / 2 < ps.length := by omega
  obtain ⟨x, y, z, e', hx, hy, hz, he, _, _, _, hws, e1⟩ := h.st (k / 2) hp
  have hA := h.at (k / 2) (by omega)
  have hk2 : k % 2 = 0 ∨ k % 2 = 1 := by omega
  unfold wk
  rw [hws]
  unfold WOk WinOk
  rcases hk2 with e | e
  · rw [e]
    refine ⟨⟨by show 0 ≤ A (k / 2); omega, by show (4 : Int) ≤ 128; omega, by show A (k / 2) % 4 = 0; omega, by show (128 : Int) % 4 = 0; omega, by show A (k / 2) + 128 ≤ 2048; omega, by show (1 : Int) ≤ 5; omega, by show (5 : Int) ≤ 7; omega⟩, Int.le_refl _, by show A (k / 2) + 128 ≤ _; omega, fun _ => rfl, fun g => by omega⟩
  · rw [e]
    refine ⟨⟨by show 0 ≤ A (k / 2) + 128 + 4 * x; omega, by show (4 : Int) ≤ 32 + 4 * y; omega, by show (A (k / 2) + 128 + 4 * x) % 4 = 0; omega, by show (32 + 4 * y) % 4 = 0; omega, by show A (k / 2) + 128 + 4 * x + (32 + 4 * y) ≤ 2048; omega, by show (1 : Int) ≤ 3; omega, by show (3 : Int) ≤ 7; omega⟩, by show _ ≤ A (k / 2) + 128 + 4 * x; omega, by show A (k / 2) + 128 + 4 * x + (32 + 4 * y) ≤ _; omega, fun g => by omega, fun _ => by show _ ≤ A (k / 2) + 128 + 4 * x; omega⟩
theorem SDs.at {t : Tb} {S : Nat → Int} (h : SDs t S) (hp : 0 ≤ t.pad ∧ t.pad ≤ 200) (hg : 0 ≤ t.grd ∧ t.grd ≤ 200) : ∀ i, i ≤ t.ss.length → 0 ≤ S i ∧ S i ≤ 5 + 500 * (i : Int) := by
  intro i
  induction i with
  | zero => intro _; have := h.s0; omega
  | succ i ih =>
    intro hi
    have h1 := ih (by omega)
    obtain ⟨x, g, hx, hgg, _, _, _, e⟩ := h.st i (by omega)
    omega
theorem SDs.mono {t : Tb} {S : Nat → Int} (h : SDs t S) (hp : 0 ≤ t.pad ∧ t.pad ≤ 200) (hg : 0 ≤ t.grd ∧ t.grd ≤ 200) : ∀ j i, i ≤ j → j < t.ss.length → (t.ss.getD i sl0).2.1 + (t.ss.getD i sl0).2.2 ≤ (t.ss.getD j sl0).2.1 + (t.ss.getD j sl0).2.2 := by
  intro j
  induction j with
  | zero => intro i hi _; have : i = 0 := by omega
            subst this; exact Int.le_refl _
  | succ j ih =>
    intro i hi hj
    by_cases e : i = j + 1
    · subst e; exact Int.le_refl _
    · have h1 := ih i (by omega) (by omega)
      obtain ⟨x, g, hx, hgg, _, e1, e2, e3⟩ := h.st j (by omega)
      obtain ⟨x', g', hx', hgg', _, e1', e2', e3'⟩ := h.st (j + 1) hj
      omega
theorem DT.costs {t : Tb} (h : DT t) : costsOk t.c1 t.c2 t.c3 t.c4 t.c5 t.c6 t.c7 = true := by
  have h1 := h.c1
  have h2 := h.c2
  have h3 := h.c3
  have h4 := h.c4
  have h5 := h.c5
  have h6 := h.c6
  have h7 := h.c7
  unfold costsOk
  rw [inr_yes (by omega), inr_yes (by omega), inr_yes (by omega), inr_yes (by omega), inr_yes (by omega), inr_yes (by omega), inr_yes (by omega)]
  rfl
theorem DT.shape {t : Tb} (h : DT t) : shapeOk t.s1 t.s2 t.s3 = true := by
  rcases h.s1 with e1 | e1 | e1 <;> rcases h.s2 with e2 | e2 <;> rcases h.s3 with e3 | e3 | e3 <;> rw [e1, e2, e3] <;> rfl
theorem DT.worst {t : Tb} (h : DT t) : 1 ≤ worstStep t.c1 t.c2 t.c3 t.c4 t.c5 t.c6 t.c7 ∧ worstStep t.c1 t.c2 t.c3 t.c4 t.c5 t.c6 t.c7 ≤ 92 := by
  have hc := h.costs
  have hm := mostOp_range hc
  have h0 := (opC_range hc 0).1
  have h1 : opC t.c1 t.c2 t.c3 t.c6 0 ≤ mostOp t.c1 t.c2 t.c3 t.c6 := most_mem _ _ _ (by unfold ocs; exact List.mem_map.2 ⟨0, by simp, rfl⟩)
  have h4 := h.c4
  have h5 := h.c5
  have h6 := h.c6
  have h7 := h.c7
  unfold worstStep
  rw [if_pos hc]
  omega
theorem DT.padv {t : Tb} (h : DT t) : 16 ≤ padV t ∧ padV t ≤ 112 := by
  have hm := most_rng (xs := t.cs) (n := t.cs.length) (fun i hi => (h.c.2 i hi).1) t.cs.length (Nat.le_refl _)
  have hl := h.c.1
  have h1 := h.c1
  have h7 := h.c7
  unfold padV
  generalize mostN t.cs t.cs.length = M at hm
  have e1 : t.c1 = 1 ∨ t.c1 = 2 := by omega
  have e7 : t.c7 = 0 ∨ t.c7 = 1 ∨ t.c7 = 2 := by omega
  rcases e1 with e1 | e1 <;> rcases e7 with e7 | e7 | e7 <;> rcases h.s1 with e2 | e2 | e2 <;> rcases h.s2 with e3 | e3 <;> rw [e1, e7, e2, e3] <;> omega
theorem names_ok : ∀ i, i < 4 → Lab.nok (Tx.nums (nmL.getD i ByteArray.empty)) = true := by
  intro i hi
  have : i = 0 ∨ i = 1 ∨ i = 2 ∨ i = 3 := by omega
  rcases this with rfl | rfl | rfl | rfl <;> rfl
theorem names_two : ∀ i, i < 4 → ∀ j, j < i → nmL.getD j ByteArray.empty ≠ nmL.getD i ByteArray.empty := by
  intro i hi j hj
  have h1 : i = 1 ∨ i = 2 ∨ i = 3 := by omega
  rcases h1 with rfl | rfl | rfl
  · have : j = 0 := by omega
    subst this
    decide
  · have : j = 0 ∨ j = 1 := by omega
    rcases this with rfl | rfl <;> decide
  · have : j = 0 ∨ j = 1 ∨ j = 2 := by omega
    rcases this with rfl | rfl | rfl <;> decide
/-- Tables as they are drawn are sound. -/
theorem DT.sd {t : Tb} (h : DT t) : Sd t := by
  obtain ⟨A, hP, hmem⟩ := h.p
  obtain ⟨S, hS⟩ := h.s
  obtain ⟨xg, hxg, hg⟩ := h.g
  obtain ⟨xp, hxp, hpd⟩ := h.pd
  obtain ⟨xj, hxj, hj⟩ := h.j
  have hw := h.worst
  have hv := h.padv
  have hn := h.n
  have hm := h.m
  have hg2 : 1 ≤ t.grd ∧ t.grd ≤ 200 := by omega
  have hp2 : 1 ≤ t.pad ∧ t.pad ≤ 200 := by omega
  have hA := hP.at t.ps.length (Nat.le_refl _)
  have hL2 : ∀ i, i < t.ps.length → (t.ps.getD i pt0).ws.length = 2 := fun i hi => by
    obtain ⟨x, y, z, e, _, _, _, _, _, _, _, hws, _⟩ := hP.st i hi
    rw [hws]; rfl
  obtain ⟨hW1, hW2⟩ := allW_two t.ps hL2
  have hlast : t.ss.length - 1 < t.ss.length := by omega
  obtain ⟨xl, gl, hxl, hgl, _, l1, l2, l3⟩ := hS.st _ hlast
  have hSl := hS.at (by omega) (by omega) (t.ss.length - 1) (by omega)
  have hss : ((t.ss.length - 1 : Nat) : Int) ≤ 5 := by omega
  have hmaj : 1 ≤ t.maj ∧ t.maj ≤ 5000 := by omega
  intro i hi
  match i, hi with
  | 0, _ => exact ⟨by omega, by omega, by omega⟩
  | 1, _ => exact h.shape
  | 2, _ => exact ⟨h.tlb.1, by have := h.tlb.2; omega⟩
  | 3, _ => exact h.costs
  | 4, _ => exact ⟨by omega, by omega⟩
  | 5, _ => exact ⟨by omega, by omega⟩
  | 6, _ => exact hmaj
  | 7, _ => show _ ≤ t.grd; omega
  | 8, _ => exact ⟨by omega, by omega⟩
  | 9, _ =>
      intro i hi
      obtain ⟨x, y, z, e, _, _, _, _, hnm, _⟩ := hP.st i hi
      rw [hnm]; exact names_ok i (by omega)
  | 10, _ =>
      intro i hi j hj
      obtain ⟨x, y, z, e, _, _, _, _, hnm, _⟩ := hP.st i hi
      obtain ⟨x', y', z', e', _, _, _, _, hnm', _⟩ := hP.st j (by omega)
      rw [hnm, hnm']; exact names_two i (by omega) j hj
  | 11, _ =>
      intro i hi
      obtain ⟨x, y, z, e, _, _, _, _, _, _, hpo, _⟩ := hP.st i hi
      exact hpo
  | 12, _ =>
      intro i hi
      rw [hL2 i hi]
      exact ⟨by omega, by omega⟩
  | 13, _ =>
      intro i hi
      rw [hW1] at hi
      rw [hW2 i hi]
      obtain ⟨g1, g2, g3, _⟩ := hP.win (by omega) i hi
      have g4 := hP.mono t.ps.length (i / 2 + 1) (by omega) (Nat.le_refl _)
      exact ⟨g1, by omega⟩
  | 14, _ =>
      intro i hi j hj
      rw [hW1] at hi
      rw [hW2 i hi, hW2 j (by omega)]
      obtain ⟨g1, g2, g3, g5, g6⟩ := hP.win (by omega) i hi
      obtain ⟨q1, q2, q3, q5, q6⟩ := hP.win (by omega) j (by omega)
      refine ⟨q1, g1, .inl ?_⟩
      by_cases e : j / 2 = i / 2
      · have := q5 (by omega)
        have := g6 (by omega)
        rw [e] at *
        omega
      · have := hP.mono (i / 2) (j / 2 + 1) (by omega) (by omega)
        omega
  | 15, _ =>
      intro i hi
      have hA' := hP.at i (by omega)
      obtain ⟨x, y, z, e, _, _, _, he, _, hen, _, hws, _⟩ := hP.st i hi
      rw [hen, hws]
      refine ⟨by omega, 0, by simp, ⟨?_, ?_⟩, ?_⟩
      · show A i ≤ _; omega
      · show _ < A i + 128; omega
      · show (4 : Int) ≤ 5; omega
  | 16, _ => show t.ds.length ≤ 8; have := h.d.1; omega
  | 17, _ => exact h.d.2
  | 18, _ => show t.cs.length ≤ 8; have := h.c.1; omega
  | 19, _ => exact h.c.2
  | 20, _ => show padV t ≤ t.pad; omega
  | 21, _ => exact ⟨by omega, by omega⟩
  | 22, _ =>
      intro i hi
      obtain ⟨x, g, _, _, hpp, _⟩ := hS.st i hi
      exact hpp
  | 23, _ =>
      intro i hi
      obtain ⟨x, g, hx, _, _, _, e2, _⟩ := hS.st i hi
      omega
  | 24, _ =>
      intro i hi
      have hmo := hS.mono (by omega) (by omega) (t.ss.length - 1) i (by omega) hlast
      refine ⟨?_, by omega⟩
      cases i with
      | zero =>
        obtain ⟨x, g, _, _, _, e1, _⟩ := hS.st 0 hi
        have := hS.s0
        show (0 : Int) ≤ _
        omega
      | succ i =>
        obtain ⟨x, g, _, hgg, _, e1, e2, e3⟩ := hS.st i (by omega)
        obtain ⟨x', g', _, _, _, e1', _⟩ := hS.st (i + 1) hi
        show (t.ss.getD i sl0).2.1 + (t.ss.getD i sl0).2.2 ≤ _
        omega
  | k + 25, hk => omega
end Go.Proofs.YtlomcdgfcocmmaaGreatDoor
