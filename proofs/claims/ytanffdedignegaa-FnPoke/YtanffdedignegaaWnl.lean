
/-
  Lists of windows (three numbers each) in memory, and what the laws' helpers on them do: a copy, the measure, whether two are alike, the marks; how a list that came in is read. Conditions: a list that is marked is the call's own; lengths are at most 1048576.
-/
import Derived.Test.YtanffdedignegaaBas
import Derived.Test.YtanffdedignegaaProg
import Derived.Test.YtanffdedignegaaApt
import Derived.Test.YtanffdedignegaaAlk
import Derived.Deep.RegionHeld3
import Derived.Deep.QuietTactic
import Derived.BigQuiet
import Derived.Deep.SlicePairs
import Derived.Deep.AppendLies
import Derived.OwnWalk
import Derived.Lib.SmallJoins
namespace Go.Proofs.Ytanffdedignegaa
open Go.ChangeShapes Go.WideShapes Go.ChangeAt Go.RowKit Go.Deep Go.Joins
set_option linter.unusedVariables false

theorem ownsRow_below {w w' : World} {base : Nat} {e : TypeId} {size : Nat} {v : Value} {n : Nat} {xs : List Value} (h : w.ownsRow base e size v n xs) (hb : Below w.heap.size w w') : w'.ownsRow base e size v n xs :=
  World.ownsRow.kept (row := none) h ⟨hb.os, hb.tape, hb.output, hb.size, fun k hk _ => hb.block k hk⟩ (by cases hv : v.ownBlock <;> simp)
def A3 (w : World) (b o : Nat) (x : Wn) : Prop := w.cell? ⟨b, o, none⟩ = some (.int .i64 x.1) ∧ w.cell? ⟨b, o + 1, none⟩ = some (.int .i64 x.2.1) ∧ w.cell? ⟨b, o + 2, none⟩ = some (.int .i64 x.2.2)
def ASeg (w : World) (a : Option Addr) (xs : List Wn) : Prop :=
  0 < xs.length → ∃ b off, a = some ⟨b, off, none⟩ ∧ b < w.heap.size ∧ ∀ i, i < xs.length → A3 w b (off + i * 3) (xs.getD i wn0)
theorem ASeg.at {w : World} {a : Option Addr} {xs : List Wn} (h : ASeg w a xs) (i : Nat) (hi : i < xs.length) : ∃ b off, a = some ⟨b, off, none⟩ ∧ b < w.heap.size ∧ A3 w b (off + i * 3) (xs.getD i wn0) := by
  obtain ⟨b, off, e, hlt, hc⟩ := h (by omega)
  exact ⟨b, off, e, hlt, hc i hi⟩
/-- A list that lies in a block from 'lo' on and below 'hi' that may be written. -/
def AI (w : World) (lo hi : Nat) (a : Option Addr) (xs : List Wn) : Prop :=
  0 < xs.length → ∃ B off, a = some ⟨B, off, none⟩ ∧ lo ≤ B ∧ B < hi ∧ B < w.heap.size ∧ (∀ i, i < xs.length → A3 w B (off + i * 3) (xs.getD i wn0)) ∧ ∀ j, w.frozen? ⟨B, j, none⟩ = false
theorem A3.of {w w' : World} {b o : Nat} {x : Wn} (h : A3 w b o x) (hc : ∀ i, w'.cell? ⟨b, i, none⟩ = w.cell? ⟨b, i, none⟩) : A3 w' b o x := ⟨(hc _).trans h.1, (hc _).trans h.2.1, (hc _).trans h.2.2⟩
theorem AI.seg {w : World} {lo hi : Nat} {a : Option Addr} {xs : List Wn} (h : AI w lo hi a xs) : ASeg w a xs := fun h0 => by
  obtain ⟨B, off, e, _, _, hlt, hc, _⟩ := h h0
  exact ⟨B, off, e, hlt, hc⟩
theorem AI.betw {w w' : World} {lo hi l' h' : Nat} {a : Option Addr} {xs : List Wn} (h : AI w lo hi a xs) (hb : Betw l' h' w w') (ho : hi ≤ l' ∨ h' ≤ lo) : AI w' lo hi a xs := fun h0 => by
  obtain ⟨B, off, e, h1, h2, hlt, hc, hf⟩ := h h0
  exact ⟨B, off, e, h1, h2, Nat.lt_of_lt_of_le hlt hb.size, fun i hi => (hc i hi).of (fun j => hb.cell (p := ⟨B, j, none⟩) hlt (by simp; omega)), fun j => (hb.frozen (p := ⟨B, j, none⟩) hlt (by simp; omega)).trans (hf j)⟩
theorem AI.below {w w' : World} {lo hi : Nat} {a : Option Addr} {xs : List Wn} (h : AI w lo hi a xs) (hb : Below w.heap.size w w') : AI w' lo hi a xs :=
  AI.betw (l' := 0) (h' := 0) h (Below.betw hb) (.inr (Nat.zero_le _))
def acV (x : Wn) : Value := .agg #[.int .i64 x.1, .int .i64 x.2.1, .int .i64 x.2.2]
def mk3 (k : Nat) : Wn := ((k : Int), (k : Int) + 1, (k : Int) + 2)
def marksA (k n : Nat) : List Wn := (List.range n).map fun i => mk3 (k + 3 * i)
theorem marksA_len (k n : Nat) : (marksA k n).length = n := by simp [marksA]
theorem marksA_at (k n i : Nat) (hi : i < n) : (marksA k n).getD i wn0 = mk3 (k + 3 * i) := by simp [marksA, hi, List.getD]
/-- A block of triples, m of which have been laid. -/
structure TriBlk (w : World) (B off n m : Nat) (xs : List Wn) : Prop where
  lt : B < w.heap.size
  free : ∀ j, w.frozen? ⟨B, j, none⟩ = false
  room : ∀ i, i < n → ∀ j, j < 3 → ∃ u, w.cell? ⟨B, off + i * 3 + j, none⟩ = some u
  done : ∀ i, i < m → A3 w B (off + i * 3) (xs.getD i wn0)
theorem TriBlk.put {w : World} {B off n m : Nat} {xs : List Wn} (h : TriBlk w B off n m xs) (hm : m < n) (x1 x2 x3 : Int) (he : xs.getD m wn0 = (x1, x2, x3)) :
    TriBlk (((w.setCell ⟨B, off + m * 3, none⟩ (.int .i64 x1)).setCell ⟨B, off + m * 3 + 1, none⟩ (.int .i64 x2)).setCell ⟨B, off + m * 3 + 2, none⟩ (.int .i64 x3)) B off n (m + 1) xs := by
  obtain ⟨u0, h0⟩ := h.room m hm 0 (by omega)
  obtain ⟨u1, h1⟩ := h.room m hm 1 (by omega)
  obtain ⟨u2, h2⟩ := h.room m hm 2 (by omega)
  rw [Nat.add_zero] at h0
  have hoth : ∀ q, q ≠ off + m * 3 → q ≠ off + m * 3 + 1 → q ≠ off + m * 3 + 2 → (((w.setCell ⟨B, off + m * 3, none⟩ (.int .i64 x1)).setCell ⟨B, off + m * 3 + 1, none⟩ (.int .i64 x2)).setCell ⟨B, off + m * 3 + 2, none⟩ (.int .i64 x3)).cell? ⟨B, q, none⟩ = w.cell? ⟨B, q, none⟩ := fun q e1 e2 e3 => by
    rw [World.cell?_setCell_other _ _ _ _ (by intro c; injection c with c1 c2 c3; omega), World.cell?_setCell_other _ _ _ _ (by intro c; injection c with c1 c2 c3; omega), World.cell?_setCell_other _ _ _ _ (by intro c; injection c with c1 c2 c3; omega)]
  have k0 : (((w.setCell ⟨B, off + m * 3, none⟩ (.int .i64 x1)).setCell ⟨B, off + m * 3 + 1, none⟩ (.int .i64 x2)).setCell ⟨B, off + m * 3 + 2, none⟩ (.int .i64 x3)).cell? ⟨B, off + m * 3, none⟩ = some (.int .i64 x1) := by
    rw [World.cell?_setCell_other _ _ _ _ (by simp), World.cell?_setCell_other _ _ _ _ (by simp)]
    exact World.cell?_setCell_same _ _ _ h0
  have k1 : (((w.setCell ⟨B, off + m * 3, none⟩ (.int .i64 x1)).setCell ⟨B, off + m * 3 + 1, none⟩ (.int .i64 x2)).setCell ⟨B, off + m * 3 + 2, none⟩ (.int .i64 x3)).cell? ⟨B, off + m * 3 + 1, none⟩ = some (.int .i64 x2) := by
    have e1 : (w.setCell ⟨B, off + m * 3, none⟩ (.int .i64 x1)).cell? ⟨B, off + m * 3 + 1, none⟩ = some u1 := by rw [World.cell?_setCell_other _ _ _ _ (by simp)]; exact h1
    rw [World.cell?_setCell_other _ _ _ _ (by simp)]
    exact World.cell?_setCell_same _ _ _ e1
  have k2 : (((w.setCell ⟨B, off + m * 3, none⟩ (.int .i64 x1)).setCell ⟨B, off + m * 3 + 1, none⟩ (.int .i64 x2)).setCell ⟨B, off + m * 3 + 2, none⟩ (.int .i64 x3)).cell? ⟨B, off + m * 3 + 2, none⟩ = some (.int .i64 x3) := by
    have e2 : ((w.setCell ⟨B, off + m * 3, none⟩ (.int .i64 x1)).setCell ⟨B, off + m * 3 + 1, none⟩ (.int .i64 x2)).cell? ⟨B, off + m * 3 + 2, none⟩ = some u2 := by rw [World.cell?_setCell_other _ _ _ _ (by simp), World.cell?_setCell_other _ _ _ _ (by simp)]; exact h2
    exact World.cell?_setCell_same _ _ _ e2
  refine ⟨by simpa using h.lt, fun j => by simpa using h.free j, fun i hi j hj => ?_, fun i hi => ?_⟩
  · by_cases e0 : off + i * 3 + j = off + m * 3
    · rw [e0]; exact ⟨_, k0⟩
    · by_cases e1 : off + i * 3 + j = off + m * 3 + 1
      · rw [e1]; exact ⟨_, k1⟩
      · by_cases e2 : off + i * 3 + j = off + m * 3 + 2
        · rw [e2]; exact ⟨_, k2⟩
        · rw [hoth _ e0 e1 e2]; exact h.room i hi j hj
  · by_cases e : i = m
    · subst e
      rw [he]
      exact ⟨k0, k1, k2⟩
    · have hd := h.done i (by omega)
      exact ⟨(hoth _ (by omega) (by omega) (by omega)).trans hd.1, (hoth _ (by omega) (by omega) (by omega)).trans hd.2.1, (hoth _ (by omega) (by omega) (by omega)).trans hd.2.2⟩
theorem infoA : (Try.prog.info? 40).map (fun i => (i.zero, i.size, i.bytes)) = some (some (.agg #[.int .i64 0, .int .i64 0, .int .i64 0]), 3, 24) := by kernel_rfl
theorem infoA' : ∃ i, Try.prog.info? 40 = some i ∧ i.zero = some (.agg #[.int .i64 0, .int .i64 0, .int .i64 0]) ∧ i.size = 3 ∧ i.bytes = 24 := by
  obtain ⟨i, hi, h⟩ := Option.map_eq_some_iff.1 infoA
  simp only [Prod.mk.injEq] at h
  exact ⟨i, hi, h.1, h.2.1, h.2.2⟩
def acCells (xs : List Wn) : List Value := xs.flatMap fun x => [.int .i64 x.1, .int .i64 x.2.1, .int .i64 x.2.2]
theorem acCells_len (xs : List Wn) : (acCells xs).length = xs.length * 3 := by
  induction xs with
  | nil => rfl
  | cons x xs ih => simp only [acCells, List.flatMap_cons, List.length_append, List.length_cons, List.length_nil] at ih ⊢; omega
theorem acCells_snoc (xs : List Wn) (x : Wn) : acCells (xs ++ [x]) = acCells xs ++ [.int .i64 x.1, .int .i64 x.2.1, .int .i64 x.2.2] := by simp [acCells]
theorem acCells_at (xs : List Wn) (i : Nat) (hi : i < xs.length) : (acCells xs)[i * 3]? = some (.int .i64 (xs.getD i wn0).1) ∧ (acCells xs)[i * 3 + 1]? = some (.int .i64 (xs.getD i wn0).2.1) ∧ (acCells xs)[i * 3 + 2]? = some (.int .i64 (xs.getD i wn0).2.2) := by
  induction xs generalizing i with
  | nil => simp at hi
  | cons x xs ih =>
    cases i with
    | zero => simp [acCells]
    | succ i =>
      have := ih i (by simpa using hi)
      have e : acCells (x :: xs) = .int .i64 x.1 :: .int .i64 x.2.1 :: .int .i64 x.2.2 :: acCells xs := by simp [acCells]
      rw [e, show (i + 1) * 3 = i * 3 + 1 + 1 + 1 by omega]
      simpa using this
/-- A list of accesses that the call owns, from block 'base' on. -/
def OwnA (w : World) (base : Nat) (v : Value) (xs : List Wn) : Prop := w.ownsRow base 40 3 v xs.length (acCells xs)
theorem OwnA.new (w : World) (B : Nat) (hB : B = w.heap.size) : OwnA (w.alloc (.cells #[] 40)) B (.slice (some ⟨B, 0, none⟩) 0 0) [] := by
  subst hB
  exact ⟨rfl, .inr ⟨w.heap.size, 0, #[], rfl, Nat.le_refl _, by show (w.heap.push _)[w.heap.size]? = _; simp, Nat.le_refl _, by simp, rfl, rfl⟩⟩
theorem OwnA.below {w w' : World} {base : Nat} {v : Value} {xs : List Wn} (h : OwnA w base v xs) (hb : Below w.heap.size w w') : OwnA w' base v xs := ownsRow_below h hb
theorem OwnA.low {w : World} {base b' : Nat} {v : Value} {xs : List Wn} (h : OwnA w base v xs) (hle : b' ≤ base) : OwnA w b' v xs := by
  refine ⟨h.1, ?_⟩
  rcases h.2 with hn | ⟨g, cap, cur, e, hb, rest⟩
  · exact .inl hn
  · exact .inr ⟨g, cap, cur, e, by omega, rest⟩
theorem OwnA.snoc {w : World} {base g cap : Nat} {xs : List Wn} {x : Wn} (h : w.ownsRow base 40 3 (.slice (some ⟨g, 0, none⟩) (xs.length + 1) cap) (xs.length + 1) (acCells xs ++ [.int .i64 x.1, .int .i64 x.2.1, .int .i64 x.2.2])) :
    OwnA w base (.slice (some ⟨g, 0, none⟩) (xs.length + 1) cap) (xs ++ [x]) := by
  unfold OwnA
  rw [acCells_snoc]
  simpa using h
theorem OwnA.ai {w : World} {base : Nat} {v : Value} {xs : List Wn} (h : OwnA w base v xs) : ∃ a cap, v = .slice a xs.length cap ∧ AI w base w.heap.size a xs := by
  rcases h.2 with ⟨h0, h1⟩ | ⟨g, cap, cur, rfl, hb, hg, h1, h2, h3, h4⟩
  · exact ⟨none, 0, by rw [h0, h1], fun h => absurd h (by omega)⟩
  · have hlt : g < w.heap.size := by
      rcases Nat.lt_or_ge g w.heap.size with hlt | hge
      · exact hlt
      · rw [Array.getElem?_eq_none hge] at hg; cases hg
    refine ⟨_, _, rfl, fun h0 => ⟨g, 0, rfl, hb, hlt, hlt, fun i hi => ?_, fun j => by simp [World.frozen?, hg]⟩⟩
    have hc : ∀ j v, (acCells xs)[j]? = some v → cur[j]? = some v := fun j v e => by
      have hj : j < (acCells xs).length := by
        rcases Nat.lt_or_ge j (acCells xs).length with g | g
        · exact g
        · rw [List.getElem?_eq_none g] at e; cases e
      rw [acCells_len] at hj
      rw [← h4, List.getElem?_take, if_pos hj] at e
      simpa using e
    obtain ⟨g1, g2, g3⟩ := acCells_at xs i hi
    rw [Nat.zero_add]
    refine ⟨?_, ?_, ?_⟩
    · simp [World.cell?, hg, hc _ _ g1]
    · simp [World.cell?, hg, hc _ _ g2]
    · simp [World.cell?, hg, hc _ _ g3]
theorem news_acc (w : World) (x : Wn) (B : Nat) (hB : B = w.heap.size) : ∀ j u, [Value.int .i64 x.1, .int .i64 x.2.1, .int .i64 x.2.2][j]? = some u → (w.alloc (.cells #[.int .i64 x.1, .int .i64 x.2.1, .int .i64 x.2.2] 40)).cell? ((⟨B, 0, none⟩ : Addr).add j) = some u := by
  subst hB
  exact World.news_of_block (cs := #[.int .i64 x.1, .int .i64 x.2.1, .int .i64 x.2.2]) (t := 40) (fr := (0, 0)) (by show (w.heap.push _)[w.heap.size]? = _; simp)
theorem one_acc (x : Wn) : ∀ u ∈ [Value.int .i64 x.1, .int .i64 x.2.1, .int .i64 x.2.2], u.oneCell' = true := by
  intro u hu
  simp only [List.mem_cons, List.not_mem_nil, or_false] at hu
  rcases hu with rfl | rfl | rfl <;> rfl
theorem ASeg.below {w w' : World} {a : Option Addr} {xs : List Wn} (h : ASeg w a xs) (hb : Below w.heap.size w w') : ASeg w' a xs := fun h0 => by
  obtain ⟨b, off, e, hlt, hc⟩ := h h0
  exact ⟨b, off, e, Nat.lt_of_lt_of_le hlt hb.size, fun i hi => (hc i hi).of (fun j => hb.cell (p := ⟨b, j, none⟩) hlt)⟩
theorem ASeg.nil (w : World) (a : Option Addr) : ASeg w a [] := fun h => absurd h (by simp)
theorem made_tri (n i j : Nat) (hi : i < n) (hj : j < 3) : (madeCells #[Value.int .i64 0, .int .i64 0, .int .i64 0] (n * 3))[i * 3 + j]? = some (.int .i64 0) := by
  have h1 : i * 3 + j < n * 3 := by omega
  have h2 : (i * 3 + j) % 3 = j := by omega
  simp only [madeCells]
  simp [h1, h2]
  match j, hj with
  | 0, _ => rfl
  | 1, _ => rfl
  | 2, _ => rfl
theorem TriBlk.made (w : World) (n : Nat) (T : TypeId) (xs : List Wn) : TriBlk (w.alloc (.cells (madeCells #[.int .i64 0, .int .i64 0, .int .i64 0] (n * 3)) T)) w.heap.size 0 n 0 xs := by
  refine ⟨by simp, fun j => by simp, fun i hi j hj => ?_, fun i hi => absurd hi (by omega)⟩
  rw [Nat.zero_add]
  exact ⟨_, new_cell w _ T _ _ (made_tri n i j hi hj)⟩
theorem TriBlk.below {w w' : World} {B off n m : Nat} {xs : List Wn} (h : TriBlk w B off n m xs) (hb : Below w.heap.size w w') : TriBlk w' B off n m xs :=
  ⟨Nat.lt_of_lt_of_le h.lt hb.size, fun j => (hb.frozen (p := ⟨B, j, none⟩) h.lt).trans (h.free j), fun i hi j hj => by
    obtain ⟨u, hu⟩ := h.room i hi j hj
    exact ⟨u, (hb.cell (p := ⟨B, _, none⟩) h.lt).trans hu⟩, fun i hi => (h.done i hi).of (fun j => hb.cell (p := ⟨B, j, none⟩) h.lt)⟩
theorem TriBlk.ai {w : World} {B off n : Nat} {xs : List Wn} (h : TriBlk w B off n n xs) (hl : xs.length = n) (lo hi : Nat) (h1 : lo ≤ B) (h2 : B < hi) : AI w lo hi (some ⟨B, off, none⟩) xs :=
  fun _ => ⟨B, off, rfl, h1, h2, h.lt, fun i hi => h.done i (by omega), h.free⟩
theorem run_make_wins (n : Nat) (hn : n ≤ 1048576) (w : World) : (Instr.makeSlice 24 (.int .i64 (n : Int)) (.int .i64 (n : Int))).run Try.prog w = .ok (.slice (some ⟨w.heap.size, 0, none⟩) n n) (w.alloc (.cells (madeCells #[.int .i64 0, .int .i64 0, .int .i64 0] (n * 3)) 40)) := by
  obtain ⟨i, hi, hzz⟩ := Option.map_eq_some_iff.1 infoA
  simp only [Prod.mk.injEq] at hzz
  obtain ⟨hz, hs, hb⟩ := hzz
  have := run_make (P := Try.prog) w 24 40 i _ Try.underlying24 hi hz .i64 .i64 n n (by omega) (Int.le_refl _) (by rw [hb]; omega) (by omega)
  rw [hs, Int.toNat_natCast] at this
  exact this
def Fit (xs : List Wn) : Prop := ∀ i, i < xs.length → (xs.getD i wn0).2.1 ≤ 9223372036854775807
end Go.Proofs.Ytanffdedignegaa
