
/-
  Lists of truth values in memory, and what the laws' helpers on them do: whether two read alike, the marks that are laid into one and looked up. Conditions: a list that is marked is the call's own; lengths are at most 1048576.
-/
import Derived.Test.YtdjfijkgmeapdaaProg
import Derived.Test.YtdjfijkgmeapdaaOnl
import Derived.Deep.QuietTactic
import Derived.BigQuiet
namespace Go.Proofs.Ytdjfijkgmeapdaa
open Go.ChangeShapes Go.WideShapes Go.ChangeAt Go.RowKit Go.Deep
set_option linter.unusedVariables false

def BSeg (w : World) (a : Option Addr) (bs : List Bool) : Prop :=
  0 < bs.length → ∃ b off, a = some ⟨b, off, none⟩ ∧ b < w.heap.size ∧ ∀ i, i < bs.length → w.cell? ⟨b, off + i, none⟩ = some (.bool (bs.getD i false))
theorem BSeg.at {w : World} {a : Option Addr} {bs : List Bool} (h : BSeg w a bs) (i : Nat) (hi : i < bs.length) :
    ∃ b off, a = some ⟨b, off, none⟩ ∧ b < w.heap.size ∧ w.cell? ⟨b, off + i, none⟩ = some (.bool (bs.getD i false)) := by
  obtain ⟨b, off, e, hlt, hc⟩ := h (by omega)
  exact ⟨b, off, e, hlt, hc i hi⟩
/-- A list that lies in a block from 'lo' on and below 'hi' that may be written. -/
def BI (w : World) (lo hi : Nat) (a : Option Addr) (bs : List Bool) : Prop :=
  0 < bs.length → ∃ B off, a = some ⟨B, off, none⟩ ∧ lo ≤ B ∧ B < hi ∧ B < w.heap.size ∧ (∀ i, i < bs.length → w.cell? ⟨B, off + i, none⟩ = some (.bool (bs.getD i false))) ∧ ∀ i, i < bs.length → w.frozen? ⟨B, off + i, none⟩ = false
theorem BI.seg {w : World} {lo hi : Nat} {a : Option Addr} {bs : List Bool} (h : BI w lo hi a bs) : BSeg w a bs := fun h0 => by
  obtain ⟨B, off, e, _, _, hlt, hc, _⟩ := h h0
  exact ⟨B, off, e, hlt, hc⟩
theorem BI.betw {w w' : World} {lo hi l' h' : Nat} {a : Option Addr} {bs : List Bool} (h : BI w lo hi a bs) (hb : Betw l' h' w w') (ho : hi ≤ l' ∨ h' ≤ lo) : BI w' lo hi a bs := fun h0 => by
  obtain ⟨B, off, e, h1, h2, hlt, hc, hf⟩ := h h0
  exact ⟨B, off, e, h1, h2, Nat.lt_of_lt_of_le hlt hb.size, fun i hi => (hb.cell (p := ⟨B, off + i, none⟩) hlt (by simp; omega)).trans (hc i hi), fun i hi => (hb.frozen (p := ⟨B, off + i, none⟩) hlt (by simp; omega)).trans (hf i hi)⟩
theorem BI.below {w w' : World} {lo hi : Nat} {a : Option Addr} {bs : List Bool} (h : BI w lo hi a bs) (hb : Below w.heap.size w w') : BI w' lo hi a bs :=
  BI.betw (l' := 0) (h' := 0) h (Below.betw hb) (.inr (Nat.zero_le _))
theorem BI.wide {w : World} {lo hi l' h' : Nat} {a : Option Addr} {bs : List Bool} (h : BI w lo hi a bs) (g1 : l' ≤ lo) (g2 : hi ≤ h') : BI w l' h' a bs := fun h0 => by
  obtain ⟨B, off, e, h1, h2, r⟩ := h h0
  exact ⟨B, off, e, by omega, by omega, r⟩
def marksB (k n : Nat) : List Bool := (List.range n).map fun (i : Nat) => decide ((k + i) % 3 = 0)
theorem marksB_len (k n : Nat) : (marksB k n).length = n := by simp [marksB]
theorem marksB_at (k n i : Nat) (hi : i < n) : (marksB k n).getD i false = decide ((k + i) % 3 = 0) := by simp [marksB, hi, List.getD]
theorem rem3 (K : Nat) : (((K : Nat) : Int) % 3 == 0) = decide (K % 3 = 0) := by
  by_cases h : K % 3 = 0
  · rw [decide_eq_true h]; simp; omega
  · rw [decide_eq_false h]; simp; omega
theorem info4 : (Try.prog.info? 4).map (fun i => (i.zero, i.size, i.bytes)) = some (some (.bool false), 1, 1) := by kernel_rfl
theorem info4' : ∃ i, Try.prog.info? 4 = some i ∧ i.zero = some (.bool false) ∧ i.size = 1 ∧ i.bytes = 1 := by
  obtain ⟨i, hi, h⟩ := Option.map_eq_some_iff.1 info4
  simp only [Prod.mk.injEq] at h
  exact ⟨i, hi, h.1, h.2.1, h.2.2⟩
/-- A list that the call owns, from block 'base' on. -/
def OwnB (w : World) (base : Nat) (v : Value) (bs : List Bool) : Prop := w.ownsRow base 4 1 v bs.length (bs.map Value.bool)
theorem OwnB.new (w : World) (B : Nat) (hB : B = w.heap.size) : OwnB (w.alloc (.cells #[] 4)) B (.slice (some ⟨B, 0, none⟩) 0 0) [] := by
  subst hB
  exact ⟨rfl, .inr ⟨w.heap.size, 0, #[], rfl, Nat.le_refl _, by show (w.heap.push _)[w.heap.size]? = _; simp, Nat.le_refl _, by simp, rfl, rfl⟩⟩
theorem OwnB.below {w w' : World} {base : Nat} {v : Value} {bs : List Bool} (h : OwnB w base v bs) (hb : Below w.heap.size w w') : OwnB w' base v bs := ownsRow_below h hb
theorem OwnB.low {w : World} {base b' : Nat} {v : Value} {bs : List Bool} (h : OwnB w base v bs) (hle : b' ≤ base) : OwnB w b' v bs := by
  refine ⟨h.1, ?_⟩
  rcases h.2 with hn | ⟨g, cap, cur, e, hb, rest⟩
  · exact .inl hn
  · exact .inr ⟨g, cap, cur, e, by omega, rest⟩
theorem OwnB.snoc {w : World} {base g cap : Nat} {bs : List Bool} {r : Bool} (h : w.ownsRow base 4 1 (.slice (some ⟨g, 0, none⟩) (bs.length + 1) cap) (bs.length + 1) (bs.map Value.bool ++ [.bool r])) :
    OwnB w base (.slice (some ⟨g, 0, none⟩) (bs.length + 1) cap) (bs ++ [r]) := by
  unfold OwnB
  simpa using h
theorem OwnB.bi {w : World} {base : Nat} {v : Value} {bs : List Bool} (h : OwnB w base v bs) : ∃ a cap, v = .slice a bs.length cap ∧ BI w base w.heap.size a bs := by
  rcases h.2 with ⟨h0, h1⟩ | ⟨g, cap, cur, rfl, hb, hg, h1, h2, h3, h4⟩
  · exact ⟨none, 0, by rw [h0, h1], fun h => absurd h (by omega)⟩
  · have hlt : g < w.heap.size := by
      rcases Nat.lt_or_ge g w.heap.size with hlt | hge
      · exact hlt
      · rw [Array.getElem?_eq_none hge] at hg; cases hg
    refine ⟨_, _, rfl, fun h0 => ⟨g, 0, rfl, hb, hlt, hlt, fun i hi => ?_, fun i hi => by simp [World.frozen?, hg]⟩⟩
    rw [Nat.zero_add]
    have e : cur[i]? = some (.bool (bs.getD i false)) := by
      have := congrArg (·[i]?) h4
      simp only [Nat.mul_one] at this
      rw [List.getElem?_take, if_pos hi] at this
      simpa [hi, List.getD] using this
    simp [World.cell?, hg, e]
theorem news_bool (w : World) (z : Bool) (B : Nat) (hB : B = w.heap.size) : ∀ j u, [Value.bool z][j]? = some u → (w.alloc (.cells #[.bool z] 4)).cell? ((⟨B, 0, none⟩ : Addr).add j) = some u := news_at w _ 4 B hB
theorem one_bool (r : Bool) : ∀ u ∈ [Value.bool r], u.oneCell' = true := by
  intro u hu
  simp only [List.mem_singleton] at hu
  subst hu
  rfl
end Go.Proofs.Ytdjfijkgmeapdaa
