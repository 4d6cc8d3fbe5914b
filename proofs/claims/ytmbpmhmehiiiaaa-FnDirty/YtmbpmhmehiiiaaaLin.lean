
/-
  The lines of a cache, in the order of its rows and sorted: plain facts on lists. No function of the program in sight; no conditions but those that each fact names.
-/
import Derived.Test.YtmbpmhmehiiiaaaCok
namespace Go.Proofs.Ytmbpmhmehiiiaaa
set_option linter.unusedVariables false

def rowL (s : Int) (ws : List Wy) (r : Nat) (i : Nat) : List Int := (List.range i).map fun j => tg ws j * s + (r : Int)
def allL (s : Int) (D : Nat → List Wy) : Nat → List Int
  | 0 => []
  | r + 1 => allL s D r ++ rowL s (D r) r (D r).length
theorem rowL_succ (s : Int) (ws : List Wy) (r i : Nat) : rowL s ws r (i + 1) = rowL s ws r i ++ [tg ws i * s + (r : Int)] := by
  simp [rowL, List.range_succ]
theorem rowL_len (s : Int) (ws : List Wy) (r i : Nat) : (rowL s ws r i).length = i := by simp [rowL]
theorem allL_len (s : Int) (D : Nat → List Wy) (r : Nat) : (allL s D r).length = tot D r := by
  induction r with
  | zero => rfl
  | succ r ih => simp [allL, tot, rowL_len, ih]
theorem mem_allL {s : Int} {D : Nat → List Wy} {n : Nat} {x : Int} : x ∈ allL s D n ↔ ∃ r i, r < n ∧ i < (D r).length ∧ x = tg (D r) i * s + (r : Int) := by
  induction n with
  | zero => simp [allL]
  | succ n ih =>
    simp only [allL, List.mem_append, ih, rowL, List.mem_map, List.mem_range]
    constructor
    · rintro (⟨r, i, h1, h2, h3⟩ | ⟨i, h1, h2⟩)
      · exact ⟨r, i, by omega, h2, h3⟩
      · exact ⟨n, i, by omega, h1, h2.symm⟩
    · rintro ⟨r, i, h1, h2, h3⟩
      by_cases e : r = n
      · subst e; exact .inr ⟨i, h2, h3.symm⟩
      · exact .inl ⟨r, i, by omega, h2, h3⟩
/-- A line tells its row and its tag. -/
theorem line_parts {s t t' : Int} {r r' : Int} (hr : 0 ≤ r ∧ r < s) (hr' : 0 ≤ r' ∧ r' < s) (h : t * s + r = t' * s + r') : t = t' ∧ r = r' := by
  have e1 : (t * s + r) % s = r := by rw [Int.add_comm, Int.add_mul_emod_self_right]; exact Int.emod_eq_of_lt hr.1 hr.2
  have e2 : (t' * s + r') % s = r' := by rw [Int.add_comm, Int.add_mul_emod_self_right]; exact Int.emod_eq_of_lt hr'.1 hr'.2
  have hrr : r = r' := by rw [← e1, ← e2, h]
  refine ⟨?_, hrr⟩
  have h2 : t * s = t' * s := by omega
  exact Int.eq_of_mul_eq_mul_right (by omega) h2
theorem allL_nodup {s y l : Int} {n : Nat} {D : Nat → List Wy} (h : CacheOkP s y l n D) : (allL s D n).Nodup := by
  have hs : (n : Int) = s := h.2.1
  suffices g : ∀ m, m ≤ n → (allL s D m).Nodup from g n (Nat.le_refl _)
  intro m
  induction m with
  | zero => intro _; exact List.nodup_nil
  | succ m ih =>
    intro hm
    refine List.nodup_append.2 ⟨ih (by omega), ?_, ?_⟩
    · unfold rowL
      refine List.pairwise_map.2 (List.Pairwise.imp_of_mem ?_ (List.nodup_range (n := (D m).length)))
      intro i j hi hj hne e
      have hi' := List.mem_range.1 hi
      have hj' := List.mem_range.1 hj
      have ht := (line_parts (s := s) ⟨by omega, by omega⟩ ⟨by omega, by omega⟩ e).1
      have hok := (h.2.2 m (by omega)).2
      rcases Nat.lt_or_gt_of_ne hne with c | c
      · exact (hok j hj').2 i c ht
      · exact (hok i hi').2 j c ht.symm
    · intro x hx y' hy e
      subst e
      obtain ⟨r, i, h1, h2, h3⟩ := mem_allL.1 hx
      obtain ⟨j, hj, h4⟩ := List.mem_map.1 hy
      have := (line_parts (s := s) (r := (r : Int)) (r' := (m : Int)) ⟨by omega, by omega⟩ ⟨by omega, by omega⟩ (h3.symm.trans h4.symm)).2
      omega
theorem allL_low {s y l : Int} {n : Nat} {D : Nat → List Wy} (h : CacheOkP s y l n D) : ∀ x ∈ allL s D n, 0 ≤ x ∧ x ≤ 1048576 := by
  intro x hx
  obtain ⟨r, i, h1, h2, rfl⟩ := mem_allL.1 hx
  have hp := (shapeOk_parts h.1).1
  have hg := ((h.2.2 r h1).2 i h2).1
  have hs : (n : Int) = s := h.2.1
  have m1 : 0 ≤ tg (D r) i * s := Int.mul_nonneg hg.1 (by omega)
  have m2 : tg (D r) i * s ≤ 65535 * s := Int.mul_le_mul_of_nonneg_right hg.2 (by omega)
  omega
theorem len_of_sub : ∀ {xs ys : List Int}, xs.Nodup → (∀ x ∈ xs, x ∈ ys) → xs.length ≤ ys.length
  | [], ys, _, _ => Nat.zero_le _
  | a :: t, ys, hn, hs => by
    have ha := hs a (by simp)
    have hn' := List.nodup_cons.1 hn
    have hp := (List.perm_cons_erase ha).length_eq
    have := len_of_sub (xs := t) (ys := ys.erase a) hn'.2 (fun x hx => (List.mem_erase_of_ne (show x ≠ a from fun e => hn'.1 (by rw [← e]; exact hx))).2 (hs x (by simp [hx])))
    simp only [List.length_cons] at hp ⊢
    omega
theorem perm_of_sub : ∀ {xs ys : List Int}, xs.Nodup → (∀ x ∈ xs, x ∈ ys) → xs.length = ys.length → xs.Perm ys
  | [], ys, _, _, h => by
    have : ys = [] := List.eq_nil_of_length_eq_zero h.symm
    subst this
    exact List.Perm.refl _
  | a :: t, ys, hn, hs, h => by
    have ha := hs a (by simp)
    have hn' := List.nodup_cons.1 hn
    have hp := List.perm_cons_erase ha
    have hl := hp.length_eq
    have := perm_of_sub (xs := t) (ys := ys.erase a) hn'.2 (fun x hx => (List.mem_erase_of_ne (show x ≠ a from fun e => hn'.1 (by rw [← e]; exact hx))).2 (hs x (by simp [hx]))) (by simp only [List.length_cons] at hl h; omega)
    exact (List.Perm.cons a this).trans hp.symm
def sortL (xs : List Int) : List Int := xs.mergeSort (fun a b => decide (a ≤ b))
/-- What has been chosen so far: the least ones, in their order. -/
structure Sel (all out : List Int) : Prop where
  up : out.Pairwise (· < ·)
  sub : ∀ x ∈ out, x ∈ all
  down : ∀ x ∈ all, ∀ z ∈ out, x ≤ z → x ∈ out
theorem Sel.nil (all : List Int) : Sel all [] := ⟨List.Pairwise.nil, by simp, by simp⟩
def Cand (out : List Int) (x : Int) : Prop := ∀ z ∈ out, z < x
theorem cand_last {out : List Int} (h : out.Pairwise (· < ·)) (k : Nat) (hk : out.length = k + 1) (x : Int) : Cand out x ↔ out.getD k 0 < x := by
  have hmem : out.getD k 0 ∈ out := by simp [List.getD, hk]
  refine ⟨fun g => g _ hmem, fun g z hz => ?_⟩
  obtain ⟨j, hj, rfl⟩ := List.mem_iff_getElem.1 hz
  by_cases e : j = k
  · subst e; simpa [List.getD, hj] using g
  · have := List.pairwise_iff_getElem.1 h j k hj (by omega) (by omega)
    have hk' : k < out.length := by omega
    simp only [List.getD, List.getElem?_eq_getElem hk', Option.getD_some] at g
    omega
def BestP (all out : List Int) (i : Nat) (best : Int) : Prop :=
  (best = -1 ∧ ∀ j, j < i → ¬ Cand out (all.getD j 0)) ∨ (0 ≤ best ∧ best ∈ all ∧ Cand out best ∧ ∀ j, j < i → Cand out (all.getD j 0) → best ≤ all.getD j 0)
theorem BestP.start (all out : List Int) : BestP all out 0 (-1) := .inl ⟨rfl, fun j hj => absurd hj (by omega)⟩
theorem BestP.skip {all out : List Int} {i : Nat} {best : Int} (h : BestP all out i best) (hc : Cand out (all.getD i 0) → 0 ≤ best ∧ best ≤ all.getD i 0) : BestP all out (i + 1) best := by
  rcases h with ⟨h1, h2⟩ | ⟨h1, h2, h3, h4⟩
  · refine .inl ⟨h1, fun j hj => ?_⟩
    by_cases e : j = i
    · subst e; intro c; have := (hc c).1; omega
    · exact h2 j (by omega)
  · refine .inr ⟨h1, h2, h3, fun j hj c => ?_⟩
    by_cases e : j = i
    · subst e; exact (hc c).2
    · exact h4 j (by omega) c
theorem BestP.take {all out : List Int} {i : Nat} {best : Int} (h : BestP all out i best) (hi : i < all.length) (h0 : 0 ≤ all.getD i 0) (hc : Cand out (all.getD i 0)) (hb : best < 0 ∨ all.getD i 0 < best) : BestP all out (i + 1) (all.getD i 0) := by
  refine .inr ⟨h0, getD_mem all i hi, hc, fun j hj c => ?_⟩
  by_cases e : j = i
  · subst e; exact Int.le_refl _
  · rcases h with ⟨h1, h2⟩ | ⟨h1, h2, h3, h4⟩
    · exact absurd c (h2 j (by omega))
    · have := h4 j (by omega) c
      omega
theorem Sel.step {all out : List Int} {best : Int} (h : Sel all out) (hnd : all.Nodup) (hlt : out.length < all.length) (hb : BestP all out all.length best) : Sel all (out ++ [best]) := by
  rcases hb with ⟨h1, h2⟩ | ⟨h1, h2, h3, h4⟩
  · exfalso
    have hsub : all ⊆ out := fun x hx => by
      obtain ⟨j, hj, rfl⟩ := List.mem_iff_getElem.1 hx
      have hn := h2 j hj
      simp only [List.getD, List.getElem?_eq_getElem hj, Option.getD_some] at hn
      have : ∃ z ∈ out, all[j] ≤ z := by
        apply Classical.byContradiction
        intro c
        apply hn
        intro z hz
        have : ¬ all[j] ≤ z := fun g => c ⟨z, hz, g⟩
        omega
      obtain ⟨z, hz, g⟩ := this
      exact h.down _ (List.getElem_mem hj) z hz g
    have := len_of_sub hnd (fun x hx => hsub hx)
    omega
  · refine ⟨?_, ?_, ?_⟩
    · refine List.pairwise_append.2 ⟨h.up, List.pairwise_singleton _ _, fun a ha b hb => ?_⟩
      simp only [List.mem_singleton] at hb
      subst hb
      exact h3 a ha
    · intro x hx
      rcases List.mem_append.1 hx with g | g
      · exact h.sub x g
      · simp only [List.mem_singleton] at g; subst g; exact h2
    · intro x hx z hz hle
      rcases List.mem_append.1 hz with g | g
      · exact List.mem_append.2 (.inl (h.down x hx z g hle))
      · simp only [List.mem_singleton] at g
        subst g
        by_cases c : Cand out x
        · obtain ⟨j, hj, rfl⟩ := List.mem_iff_getElem.1 hx
          have := h4 j hj (by simpa [List.getD, hj] using c)
          simp only [List.getD, List.getElem?_eq_getElem hj, Option.getD_some] at this
          have e : all[j] = z := by omega
          rw [e]; simp
        · have : ∃ z' ∈ out, x ≤ z' := by
            apply Classical.byContradiction
            intro g
            apply c
            intro z' hz'
            have : ¬ x ≤ z' := fun k => g ⟨z', hz', k⟩
            omega
          obtain ⟨z', hz', g⟩ := this
          exact List.mem_append.2 (.inl (h.down x hx z' hz' g))
theorem Sel.full {all out : List Int} (h : Sel all out) (hnd : all.Nodup) (hlen : out.length = all.length) : out = sortL all := by
  have hond : out.Nodup := h.up.imp (fun g => by omega)
  have hp : out.Perm all := perm_of_sub hond h.sub hlen
  have hs := List.pairwise_mergeSort (le := fun a b : Int => decide (a ≤ b)) (by intro a b c h1 h2; simp at h1 h2 ⊢; omega) (by intro a b; simp; omega) all
  refine List.Perm.eq_of_pairwise (le := fun a b : Int => decide (a ≤ b) = true) ?_ ?_ hs (hp.trans (List.mergeSort_perm all _).symm)
  · intro a b _ _ h1 h2
    simp at h1 h2
    omega
  · exact h.up.imp (fun g => by simp; omega)
theorem sortL_len (xs : List Int) : (sortL xs).length = xs.length := List.length_mergeSort _
theorem mem_sortL {xs : List Int} {x : Int} : x ∈ sortL xs ↔ x ∈ xs := List.mem_mergeSort
end Go.Proofs.Ytmbpmhmehiiiaaa
