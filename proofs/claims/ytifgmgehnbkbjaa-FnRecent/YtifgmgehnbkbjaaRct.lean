/-
  Uses since the last use of a line, on lists: how many others of its row, and where the line stands in the row. No function of the program in sight; no conditions but those that each fact names.
-/
import Derived.Test.YtifgmgehnbkbjaaUpw
namespace Go.Proofs.Ytifgmgehnbkbjaa
set_option linter.unusedVariables false

def lnA (L : Nat) (us : List Wy) (k : Nat) : Nat := (us.getD k wd).1.toNat / L
def tgs (n : Nat) (O : List Nat) : List Int := O.map fun x => ((x / n : Nat) : Int)
theorem stk_nodup (n L : Nat) (us : List Wy) (k h : Nat) : (stk n L us k h).Nodup := by
  induction k with
  | zero => simp [stk]
  | succ k ih =>
    unfold stk
    split
    · exact List.nodup_cons.2 ⟨fun g => ((List.Nodup.mem_erase_iff ih).1 g).1 rfl, ih.erase _⟩
    · exact ih
/-- After the uses from i - 1 down to k1: O are the other lines of the row, in the order of the walk. -/
structure RI (n L : Nat) (us : List Wy) (i k1 : Nat) (O : List Nat) : Prop where
  eq : stk n L us i (hhA n L us i) = tgs n O ++ (stk n L us k1 (hhA n L us i)).filter (fun x => decide (x ∉ tgs n O))
  row : ∀ x ∈ O, x % n = hhA n L us i
  not : ttA n L us i ∉ tgs n O
theorem RI.start (n L : Nat) (us : List Wy) (i : Nat) : RI n L us i i [] := ⟨by simp only [tgs, List.map_nil, List.nil_append]; exact (List.filter_eq_self.2 (by simp)).symm, by simp, by simp [tgs]⟩
theorem line_eq {n : Nat} {x y : Nat} : x = y ↔ x % n = y % n ∧ x / n = y / n :=
  ⟨fun e => by subst e; exact ⟨rfl, rfl⟩, fun ⟨h1, h2⟩ => by rw [← Nat.div_add_mod x n, ← Nat.div_add_mod y n, h1, h2]⟩
theorem tgs_mem {n : Nat} {O : List Nat} {h x : Nat} (hr : ∀ x ∈ O, x % n = h) (hx : x % n = h) : ((x / n : Nat) : Int) ∈ tgs n O ↔ x ∈ O := by
  constructor
  · intro g
    obtain ⟨z, hz, e⟩ := List.mem_map.1 g
    have e2 : z / n = x / n := Int.ofNat.inj e
    rwa [← (line_eq (n := n)).2 ⟨(hr z hz).trans hx.symm, e2⟩]
  · exact fun g => List.mem_map.2 ⟨x, g, rfl⟩
theorem stk_same {n L : Nat} {us : List Wy} {k h : Nat} (e : lnA L us k % n = h) : stk n L us (k + 1) h = ((lnA L us k / n : Nat) : Int) :: (stk n L us k h).filter (fun x => decide (x ≠ ((lnA L us k / n : Nat) : Int))) := by
  show (if h = hhA n L us k then ttA n L us k :: (stk n L us k h).erase (ttA n L us k) else stk n L us k h) = _
  rw [if_pos (show h = hhA n L us k from e.symm), (stk_nodup n L us k h).erase_eq_filter]
  show _ :: _ = _ :: _
  congr 1
  refine List.filter_congr fun x _ => ?_
  show (x != ttA n L us k) = decide (x ≠ ttA n L us k)
  by_cases c : x = ttA n L us k <;> simp [c]
theorem stk_other {n L : Nat} {us : List Wy} {k h : Nat} (e : lnA L us k % n ≠ h) : stk n L us (k + 1) h = stk n L us k h := by
  show (if h = hhA n L us k then _ else _) = _
  rw [if_neg (fun g => e g.symm)]
theorem RI.skip {n L : Nat} {us : List Wy} {i k : Nat} {O : List Nat} (h : RI n L us i (k + 1) O) (e : lnA L us k % n ≠ lnA L us i % n) : RI n L us i k O :=
  ⟨by rw [h.eq, stk_other (h := hhA n L us i) e], h.row, h.not⟩
theorem RI.seen {n L : Nat} {us : List Wy} {i k : Nat} {O : List Nat} (h : RI n L us i (k + 1) O) (e : lnA L us k % n = lnA L us i % n) (hm : lnA L us k ∈ O) : RI n L us i k O := by
  have hm2 := (tgs_mem h.row (x := lnA L us k) e).2 hm
  refine ⟨?_, h.row, h.not⟩
  rw [h.eq, stk_same (h := hhA n L us i) e, List.filter_cons, if_neg (by simpa using hm2), List.filter_filter]
  congr 1
  refine List.filter_congr fun x _ => ?_
  by_cases c : x ∈ tgs n O
  · simp [c]
  · have : x ≠ ((lnA L us k / n : Nat) : Int) := fun g => c (g ▸ hm2)
    simp only [c, this, not_false_eq_true, ne_eq, decide_true, Bool.and_self]
theorem RI.new {n L : Nat} {us : List Wy} {i k : Nat} {O : List Nat} (h : RI n L us i (k + 1) O) (e : lnA L us k % n = lnA L us i % n) (hne : lnA L us k ≠ lnA L us i) (hm : lnA L us k ∉ O) : RI n L us i k (O ++ [lnA L us k]) := by
  have hm2 : ((lnA L us k / n : Nat) : Int) ∉ tgs n O := fun g => hm ((tgs_mem h.row (x := lnA L us k) e).1 g)
  have ht : tgs n (O ++ [lnA L us k]) = tgs n O ++ [((lnA L us k / n : Nat) : Int)] := by simp [tgs]
  refine ⟨?_, fun x hx => ?_, ?_⟩
  · rw [h.eq, stk_same (h := hhA n L us i) e, List.filter_cons, if_pos (by simpa using hm2), List.filter_filter, ht, List.append_assoc]
    congr 1
    show _ :: _ = _ :: _
    congr 1
    refine List.filter_congr fun x _ => ?_
    simp
  · rcases List.mem_append.1 hx with g | g
    · exact h.row x g
    · rw [List.mem_singleton.1 g]; exact e
  · rw [ht]
    intro g
    rcases List.mem_append.1 g with g | g
    · exact h.not g
    · have e2 : lnA L us i / n = lnA L us k / n := Int.ofNat.inj (List.mem_singleton.1 g)
      exact hne ((line_eq (n := n)).2 ⟨e, e2.symm⟩)
theorem RI.found {n L : Nat} {us : List Wy} {i k M : Nat} {O : List Nat} (h : RI n L us i (k + 1) O) (e : lnA L us k = lnA L us i) : (ttA n L us i ∈ (stk n L us i (hhA n L us i)).take M) ↔ O.length < M := by
  have ht : ((lnA L us k / n : Nat) : Int) = ttA n L us i := by rw [e]; rfl
  have hl : (tgs n O).length = O.length := by simp [tgs]
  have hnd := stk_nodup n L us i (hhA n L us i)
  rw [h.eq, stk_same (h := hhA n L us i) (by rw [e]; rfl), List.filter_cons, ht, if_pos (by simpa using h.not)] at hnd ⊢
  rw [List.take_append]
  constructor
  · intro g
    rcases List.mem_append.1 g with g | g
    · exact absurd (List.mem_of_mem_take g) h.not
    · rcases Nat.lt_or_ge O.length M with c | c
      · exact c
      · rw [hl, Nat.sub_eq_zero_of_le c] at g
        simp at g
  · intro g
    obtain ⟨d, hd⟩ : ∃ d, M - (tgs n O).length = d + 1 := ⟨M - O.length - 1, by omega⟩
    rw [hd, List.take_succ_cons]
    exact List.mem_append_right _ (List.mem_cons_self ..)
theorem RI.none {n L : Nat} {us : List Wy} {i M : Nat} {O : List Nat} (h : RI n L us i 0 O) : ¬ (ttA n L us i ∈ (stk n L us i (hhA n L us i)).take M) := by
  intro g
  have := List.mem_of_mem_take g
  rw [h.eq] at this
  simp [stk] at this
  exact h.not this
end Go.Proofs.Ytifgmgehnbkbjaa
