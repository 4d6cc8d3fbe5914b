
/-
  What lies in memory while tables are drawn: rows of a list that a call owns, and what steps they outlast. No function of the program in sight; no conditions but those that each fact names.
-/
import Derived.Test.YtlomcdgfcocmmaaGreatDoorBas
import Derived.Test.YtlomcdgfcocmmaaGreatDoorDra
import Derived.Test.YtlomcdgfcocmmaaGreatDoorLsw
import Derived.Deep.AppendLies
import Derived.OwnWalk
namespace Go.Proofs.YtlomcdgfcocmmaaGreatDoor
open Go.ChangeShapes Go.WideShapes Go.ChangeAt Go.RowKit Go.Deep
set_option linter.unusedVariables false

/-- The first n rows, one behind the other. -/
def flr (n : Nat) (X : Nat → List Value) : List Value := (List.range n).flatMap X
theorem flr_succ (n : Nat) (X : Nat → List Value) : flr (n + 1) X = flr n X ++ X n := by
  unfold flr
  rw [List.range_succ, List.flatMap_append]
  simp
theorem flr_congr {n : Nat} {X Y : Nat → List Value} (h : ∀ i, i < n → X i = Y i) : flr n X = flr n Y := by
  induction n with
  | zero => rfl
  | succ n ih => rw [flr_succ, flr_succ, ih (fun i hi => h i (by omega)), h n (by omega)]
theorem flr_len {k n : Nat} {X : Nat → List Value} (h : ∀ i, i < n → (X i).length = k) : (flr n X).length = n * k := by
  induction n with
  | zero => simp [flr]
  | succ n ih => rw [flr_succ, List.length_append, ih (fun i hi => h i (by omega)), h n (by omega), Nat.succ_mul]
theorem flr_at {k n : Nat} {X : Nat → List Value} (h : ∀ i, i < n → (X i).length = k) (i j : Nat) (hi : i < n) (hj : j < k) : (flr n X)[i * k + j]? = (X i)[j]? := by
  induction n with
  | zero => omega
  | succ n ih =>
    have hl := flr_len (n := n) (X := X) (fun i hi => h i (by omega))
    rw [flr_succ]
    by_cases e : i = n
    · subst e
      rw [List.getElem?_append_right (by omega), show i * k + j - (flr i X).length = j by omega]
    · have h1 : i < n := by omega
      have h2 : i * k + j < n * k := by
        have : (i + 1) * k ≤ n * k := Nat.mul_le_mul_right k h1
        rw [Nat.succ_mul] at this
        omega
      rw [List.getElem?_append_left (by omega)]
      exact ih (fun i hi => h i (by omega)) h1
theorem owns_block {w w' : World} {base k n : Nat} {e : TypeId} {v : Value} {xs : List Value} (h : w.ownsRow base e k v n xs) (hb : ∀ g, v.ownBlock = some g → w'.heap[g]? = w.heap[g]?) : w'.ownsRow base e k v n xs := by
  refine ⟨h.1, ?_⟩
  rcases h.2 with h1 | ⟨g, cap, cur, h1, h2, h3, h4⟩
  · exact .inl h1
  · refine .inr ⟨g, cap, cur, h1, h2, ?_, h4⟩
    rw [hb g (by rw [h1]; rfl)]
    exact h3
theorem owns_turn {w w' : World} {base k n b : Nat} {e : TypeId} {v : Value} {xs : List Value} (h : w.ownsRow base e k v n xs) (ht : Turn b w w') (hb : b < base) : w'.ownsRow base e k v n xs :=
  owns_block h fun g hg => ht.block g (h.lt g hg).2 (by have := (h.lt g hg).1; omega)
theorem owns_below {w w' : World} {base k n : Nat} {e : TypeId} {v : Value} {xs : List Value} (h : w.ownsRow base e k v n xs) (ht : Below w.heap.size w w') : w'.ownsRow base e k v n xs :=
  owns_block h fun g hg => ht.block g (h.lt g hg).2
theorem owns_far {w : World} {base k n b j : Nat} {u : Value} {e : TypeId} {v : Value} {xs : List Value} (h : w.ownsRow base e k v n xs) (hb : b < base) : (w.setCell ⟨b, j, none⟩ u).ownsRow base e k v n xs :=
  owns_block h fun g hg => Below.heap_setCell _ _ _ _ (by have := (h.lt g hg).1; show g ≠ b; omega)
/-- A list that a call owns lies where it says. -/
theorem owns_seg {w : World} {base k n : Nat} {e : TypeId} {v : Value} {X : Nat → List Value} (h : w.ownsRow base e k v n (flr n X)) (hk : ∀ i, i < n → (X i).length = k) :
    ∃ a cap, v = .slice a n cap ∧ n ≤ cap ∧ GSegL k base w a n X := by
  rcases h.2 with ⟨h1, h2⟩ | ⟨g, cap, cur, h1, h2, h3, h4, h5, h6, h7⟩
  · subst h2
    exact ⟨none, 0, h1, Nat.le_refl _, fun h0 => absurd h0 (Nat.lt_irrefl _)⟩
  · refine ⟨some ⟨g, 0, none⟩, cap, h1, h4, fun h0 => ⟨g, 0, rfl, h2, ?_, fun i hi j u hj => ?_, fun _ j => ?_⟩⟩
    · exact (Array.getElem?_eq_some_iff.1 h3).1
    · have hjk : j < k := by
        rw [← hk i hi]
        exact (List.getElem?_eq_some_iff.1 hj).1
      have h8 := flr_at hk i j hi hjk
      rw [← h7, hj, List.getElem?_take] at h8
      split at h8
      · have h9 : cur[i * k + j]? = some u := by rw [← h8]; simp
        rw [show 0 + i * k + j = i * k + j by omega]
        simp [World.cell?, h3, h9]
      · cases h8
    · simp [World.frozen?, h3]
theorem GSegL.turn {k lo b : Nat} {w w' : World} {a : Option Addr} {n : Nat} {X : Nat → List Value} (h : GSegL k lo w a n X) (ht : Turn b w w') (hb : b < lo) : GSegL k lo w' a n X := fun h0 => by
  obtain ⟨c, off, e, h1, hlt, hc, hf⟩ := h h0
  exact ⟨c, off, e, h1, Nat.lt_of_lt_of_le hlt ht.size, fun i hi => (hc i hi).of (fun j => ht.cell hlt (by omega)), fun g j => (ht.frozen hlt (by omega)).trans (hf g j)⟩
theorem Good.turn {lo b : Nat} {w w' : World} {y : Rw} {p : Pt} (h : Good lo w y p) (ht : Turn b w w') (hb : b < lo) : Good lo w' y p := ⟨h.nm, h.en, h.kd, h.ms, h.ln, h.cp, h.sg.turn ht hb⟩
theorem turn_set (w : World) (V j : Nat) (u : Value) : Turn V w (w.setCell ⟨V, j, none⟩ u) := (Turn.refl V w).setCell j u
/-- What an append leaves alone. -/
theorem grown_below {w w' : World} {row : Option Nat} {C : Nat} (h : w.grownBy w' row) (hC : ∀ k, row = some k → C ≤ k) (hs : C ≤ w.heap.size) : Below C w w' :=
  ⟨h.os, h.tape, h.output, h.size, fun k hk => h.block k (by omega) (fun e => by have := hC k e.symm; omega)⟩
theorem GSegL.grown {k lo : Nat} {w w' : World} {a : Option Addr} {n : Nat} {X : Nat → List Value} {row : Option Nat} (h : GSegL k lo w a n X) (hg : w.grownBy w' row) (hn : ∀ b off, a = some ⟨b, off, none⟩ → row ≠ some b) : GSegL k lo w' a n X := fun h0 => by
  obtain ⟨c, off, e, h1, hlt, hc, hf⟩ := h h0
  have hb := hg.block c hlt (fun e' => hn c off e e'.symm)
  exact ⟨c, off, e, h1, Nat.lt_of_lt_of_le hlt hg.size, fun i hi => (hc i hi).of (fun j => World.cell?_of_block (w := w) hb), fun g j => (World.frozen?_of_block (w := w) hb).trans (hf g j)⟩
theorem CT.belowC {w W X : World} {B : Nat} {a : Option Addr} {zs : List Int} {cap : Nat} (h : CT w W B a zs cap) (hb : Below w.heap.size W X) : CT w X B a zs cap :=
  ⟨h.cur.belowC hb h.lo h.la, ⟨hb.os.trans h.turn.os, hb.tape.trans h.turn.tape, hb.output.trans h.turn.output, Nat.le_trans h.turn.size hb.size, fun k hk hn => (hb.block k hk).trans (h.turn.block k hk hn)⟩, h.lo, h.la⟩
end Go.Proofs.YtlomcdgfcocmmaaGreatDoor
