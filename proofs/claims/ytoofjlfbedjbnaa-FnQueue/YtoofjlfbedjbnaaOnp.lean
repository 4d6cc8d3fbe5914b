
/-
  A list of pairs that a call owns, and append. No function of the program in sight; no conditions but those that each fact names.
-/
import Derived.Test.YtoofjlfbedjbnaaRows
import Derived.Test.YtoofjlfbedjbnaaPnl
import Derived.Test.YtoofjlfbedjbnaaDou
namespace Go.Proofs.Ytoofjlfbedjbnaa
open Go.ChangeShapes Go.WideShapes Go.ChangeAt Go.RowKit Go.Deep
set_option linter.unusedVariables false

def cpCells (xs : List Cp) : List Value := xs.flatMap fun x => [.int .i64 x.1, .int .u32 x.2]
theorem cpCells_len (xs : List Cp) : (cpCells xs).length = xs.length * 2 := by
  induction xs with
  | nil => rfl
  | cons x xs ih => simp only [cpCells, List.flatMap_cons, List.length_append, List.length_cons, List.length_nil] at ih ⊢; omega
theorem cpCells_snoc (xs : List Cp) (x : Cp) : cpCells (xs ++ [x]) = cpCells xs ++ [.int .i64 x.1, .int .u32 x.2] := by simp [cpCells]
theorem cpCells_at (xs : List Cp) (i : Nat) (hi : i < xs.length) : (cpCells xs)[i * 2]? = some (.int .i64 (xs.getD i cp0).1) ∧ (cpCells xs)[i * 2 + 1]? = some (.int .u32 (xs.getD i cp0).2) := by
  induction xs generalizing i with
  | nil => simp at hi
  | cons x xs ih =>
    cases i with
    | zero => simp [cpCells]
    | succ i =>
      have := ih i (by simpa using hi)
      have e : cpCells (x :: xs) = .int .i64 x.1 :: .int .u32 x.2 :: cpCells xs := by simp [cpCells]
      rw [e, show (i + 1) * 2 = i * 2 + 1 + 1 by omega]
      simpa using this
/-- A list of pairs that the call owns, from block 'base' on. -/
def OwnP (w : World) (base : Nat) (v : Value) (xs : List Cp) : Prop := w.ownsRow base 78 2 v xs.length (cpCells xs)
theorem OwnP.new (w : World) (B : Nat) (hB : B = w.heap.size) : OwnP (w.alloc (.cells #[] 78)) B (.slice (some ⟨B, 0, none⟩) 0 0) [] := by
  subst hB
  exact ⟨rfl, .inr ⟨w.heap.size, 0, #[], rfl, Nat.le_refl _, by show (w.heap.push _)[w.heap.size]? = _; simp, Nat.le_refl _, by simp, rfl, rfl⟩⟩
theorem OwnP.below {w w' : World} {base : Nat} {v : Value} {xs : List Cp} (h : OwnP w base v xs) (hb : Below w.heap.size w w') : OwnP w' base v xs := ownsRow_below h hb
theorem OwnP.low {w : World} {base b' : Nat} {v : Value} {xs : List Cp} (h : OwnP w base v xs) (hle : b' ≤ base) : OwnP w b' v xs := by
  refine ⟨h.1, ?_⟩
  rcases h.2 with hn | ⟨g, cap, cur, e, hb, rest⟩
  · exact .inl hn
  · exact .inr ⟨g, cap, cur, e, by omega, rest⟩
theorem OwnP.snoc {w : World} {base g cap : Nat} {xs : List Cp} {x : Cp} (h : w.ownsRow base 78 2 (.slice (some ⟨g, 0, none⟩) (xs.length + 1) cap) (xs.length + 1) (cpCells xs ++ [.int .i64 x.1, .int .u32 x.2])) :
    OwnP w base (.slice (some ⟨g, 0, none⟩) (xs.length + 1) cap) (xs ++ [x]) := by
  unfold OwnP
  rw [cpCells_snoc]
  simpa using h
theorem OwnP.pi {w : World} {base : Nat} {v : Value} {xs : List Cp} (h : OwnP w base v xs) : ∃ a cap, v = .slice a xs.length cap ∧ PI w base w.heap.size a xs := by
  rcases h.2 with ⟨h0, h1⟩ | ⟨g, cap, cur, rfl, hb, hg, h1, h2, h3, h4⟩
  · exact ⟨none, 0, by rw [h0, h1], fun h => absurd h (by omega)⟩
  · have hlt : g < w.heap.size := by
      rcases Nat.lt_or_ge g w.heap.size with hlt | hge
      · exact hlt
      · rw [Array.getElem?_eq_none hge] at hg; cases hg
    refine ⟨_, _, rfl, fun h0 => ⟨g, 0, rfl, hb, hlt, hlt, fun i hi => ?_, fun j => by simp [World.frozen?, hg]⟩⟩
    have hc : ∀ j v, (cpCells xs)[j]? = some v → cur[j]? = some v := fun j v e => by
      have hj : j < (cpCells xs).length := by
        rcases Nat.lt_or_ge j (cpCells xs).length with g | g
        · exact g
        · rw [List.getElem?_eq_none g] at e; cases e
      rw [cpCells_len] at hj
      rw [← h4, List.getElem?_take, if_pos hj] at e
      simpa using e
    obtain ⟨g1, g2⟩ := cpCells_at xs i hi
    rw [Nat.zero_add]
    refine ⟨?_, ?_⟩
    · simp [World.cell?, hg, hc _ _ g1]
    · simp [World.cell?, hg, hc _ _ g2]
theorem news_sd (w : World) (x1 x2 : Int) (B : Nat) (hB : B = w.heap.size) : ∀ j u, [Value.int .i64 x1, .int .u32 x2][j]? = some u → (w.alloc (.cells #[.int .i64 x1, .int .u32 x2] 78)).cell? ((⟨B, 0, none⟩ : Addr).add j) = some u := by
  subst hB
  exact World.news_of_block (cs := #[.int .i64 x1, .int .u32 x2]) (t := 78) (fr := (0, 0)) (by show (w.heap.push _)[w.heap.size]? = _; simp)
theorem one_sd (x1 x2 : Int) : ∀ u ∈ [Value.int .i64 x1, .int .u32 x2], u.oneCell' = true := by
  intro u hu
  simp only [List.mem_cons, List.not_mem_nil, or_false] at hu
  rcases hu with rfl | rfl <;> rfl
end Go.Proofs.Ytoofjlfbedjbnaa
