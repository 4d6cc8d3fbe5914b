
/-
  Rows of bytes that are appended to a list of the call's own, one after another: plain facts on worlds. No conditions but those that each fact names.
-/
import Derived.Test.YtdmlgnmklnaehaaGreatDoorBas
import Derived.Test.YtdmlgnmklnaehaaGreatDoorProg
import Derived.Test.YtdmlgnmklnaehaaGreatDoorApn
import Derived.OwnWalk
namespace Go.Proofs.YtdmlgnmklnaehaaGreatDoor
open Go.ChangeShapes Go.WideShapes Go.ChangeAt Go.RowKit Go.Deep
set_option linter.unusedVariables false

theorem ownsRow_below {w w' : World} {base : Nat} {e : TypeId} {size : Nat} {v : Value} {n : Nat} {xs : List Value} (h : w.ownsRow base e size v n xs) (hb : Below w.heap.size w w') : w'.ownsRow base e size v n xs :=
  World.ownsRow.kept (row := none) h ⟨hb.os, hb.tape, hb.output, hb.size, fun k hk _ => hb.block k hk⟩ (by cases hv : v.ownBlock <;> simp)
theorem infoR' : ∃ i, Tryz.prog.info? 82 = some i ∧ i.zero = some (.slice none 0 0) ∧ i.size = 1 ∧ i.bytes = 24 := by
  obtain ⟨i, hi, h⟩ := Option.map_eq_some_iff.1 infoR
  simp only [Prod.mk.injEq] at h
  exact ⟨i, hi, h.1, h.2.1, h.2.2⟩
theorem news_at (w : World) (v : Value) (T : TypeId) (B : Nat) (hB : B = w.heap.size) : ∀ j u, [v][j]? = some u → (w.alloc (.cells #[v] T)).cell? ((⟨B, 0, none⟩ : Addr).add j) = some u := by
  subst hB
  exact World.news_of_block (cs := #[v]) (t := T) (fr := (0, 0)) (by show (w.heap.push _)[w.heap.size]? = _; simp)
theorem one_slice (a : Option Addr) (n c : Nat) : ∀ u ∈ [Value.slice a n c], u.oneCell' = true := by
  intro u hu
  simp only [List.mem_singleton] at hu
  subst hu
  rfl
theorem ON.grown {k : IntKind} {w w' : World} {lo hi : Nat} {a : Option Addr} {ws : List Int} {R : Nat} {row : Option Nat} (h : ON k w lo hi a ws R) (hg : w.grownBy w' row) (hne : 0 < ws.length → row ≠ some R) : ON k w' lo hi a ws R := fun h0 => by
  obtain ⟨off, e, h1, h2, hlt, hc, hf⟩ := h h0
  have hb := hg.block R hlt (fun e => hne h0 e.symm)
  have hcell : ∀ q, w'.cell? ⟨R, q, none⟩ = w.cell? ⟨R, q, none⟩ := fun q => World.cell?_of_block (a := ⟨R, q, none⟩) hb
  exact ⟨off, e, h1, h2, Nat.lt_of_lt_of_le hlt hg.size, fun i hi => (hcell _).trans (hc i hi), fun j => (World.frozen?_of_block (a := ⟨R, j, none⟩) hb).trans (hf j)⟩
theorem ownsRow_betw {w w' : World} {base lo hi : Nat} {e : TypeId} {size : Nat} {v : Value} {n : Nat} {xs : List Value} (h : w.ownsRow base e size v n xs) (hb : Betw lo hi w w') (ho : hi ≤ base) : w'.ownsRow base e size v n xs := by
  refine ⟨h.1, ?_⟩
  rcases h.2 with hn | ⟨g, cap, cur, rfl, hbs, hgg, rest⟩
  · exact .inl hn
  · refine .inr ⟨g, cap, cur, rfl, hbs, ?_, rest⟩
    have hlt : g < w.heap.size := by
      rcases Nat.lt_or_ge g w.heap.size with hlt | hge
      · exact hlt
      · rw [Array.getElem?_eq_none hge] at hgg; cases hgg
    rw [hb.block g hlt (by omega)]
    exact hgg
theorem own_low {w : World} {lo : Nat} {e : TypeId} {size : Nat} {v : Value} {n : Nat} {xs : List Value} (h : w.ownsRow lo e size v n xs) : ∀ g, v.ownBlock = some g → lo ≤ g := by
  rcases h.2 with ⟨h0, h1⟩ | ⟨g, cap, cur, rfl, hb, hg, h1, h2, h3, h4⟩
  · subst h0; intro k hk; cases hk
  · intro k hk; cases hk; exact hb
theorem Bk.grown {w w' : World} {b lo : Nat} {cs : Array Value} {row : Option Nat} (h : Bk w b cs) (hg : w.grownBy w' row) (hne : ∀ g, row = some g → lo ≤ g) (hb : b < lo) : Bk w' b cs := by
  have hk := hg.block b h.lt (fun e => by have := hne b e.symm; omega)
  exact ⟨Nat.lt_of_lt_of_le h.lt hg.size, fun i v e => (World.cell?_of_block (a := ⟨b, i, none⟩) hk).trans (h.cell i v e), fun i => (World.frozen?_of_block (a := ⟨b, i, none⟩) hk).trans (h.free i)⟩
def browCells (A : Nat → Option Addr) (C : Nat → Nat) (D : Nat → List Int) (k : Nat) : List Value := (List.range k).map fun i => .slice (A i) (D i).length (C i)
/-- k rows have been appended; their blocks, and that of the list, lie below 'm'. -/
structure Bla (w : World) (lo m : Nat) (v : Value) (k : Nat) (D : Nat → List Int) (A : Nat → Option Addr) (C R : Nat → Nat) : Prop where
  mle : m ≤ w.heap.size
  own : w.ownsRow lo 82 1 v k (browCells A C D k)
  blk : ∀ g, v.ownBlock = some g → g < m
  room : ∀ i, i < k → (D i).length ≤ C i
  row : ∀ i, i < k → ON .u8 w lo m (A i) (D i) (R i)
  base : ∀ i, i < k → 0 < (D i).length → v.ownBlock ≠ some (R i)
  apart : ∀ i j, i < k → j < k → i ≠ j → 0 < (D i).length → 0 < (D j).length → R i ≠ R j
theorem Bla.none (w : World) (lo m : Nat) (D : Nat → List Int) (A : Nat → Option Addr) (C R : Nat → Nat) (hm : m ≤ w.heap.size) : Bla w lo m (.slice none 0 0) 0 D A C R :=
  ⟨hm, ⟨by simp [browCells], .inl ⟨rfl, rfl⟩⟩, fun g h => by simp [Value.ownBlock] at h, fun i hi => absurd hi (by omega), fun i hi => absurd hi (by omega), fun i hi => absurd hi (by omega), fun i j hi => absurd hi (by omega)⟩
theorem Bla.below {w w' : World} {lo m : Nat} {v : Value} {k : Nat} {D : Nat → List Int} {A : Nat → Option Addr} {C R : Nat → Nat} (h : Bla w lo m v k D A C R) (hb : Below w.heap.size w w') : Bla w' lo m v k D A C R :=
  ⟨Nat.le_trans h.mle hb.size, ownsRow_below h.own hb, h.blk, h.room, fun i hi => (h.row i hi).below hb, h.base, h.apart⟩
theorem Bla.betw {w w' : World} {lo m l' h' : Nat} {v : Value} {k : Nat} {D : Nat → List Int} {A : Nat → Option Addr} {C R : Nat → Nat} (h : Bla w lo m v k D A C R) (hb : Betw l' h' w w') (ho : h' ≤ lo) : Bla w' lo m v k D A C R :=
  ⟨Nat.le_trans h.mle hb.size, ownsRow_betw h.own hb ho, h.blk, h.room, fun i hi => (h.row i hi).betw hb (fun h0 => by obtain ⟨_, _, g, _⟩ := h.row i hi h0; omega), h.base, h.apart⟩
theorem Bla.step {w w' : World} {lo m : Nat} {v : Value} {k : Nat} {D : Nat → List Int} {A : Nat → Option Addr} {C R : Nat → Nat} (h : Bla w lo m v k D A C R) (a : Option Addr) (ca Rk H g cap : Nat)
    (how : ON .u8 w lo w.heap.size a (D k) Rk) (hR : 0 < (D k).length → m ≤ Rk) (hca : (D k).length ≤ ca) (hown : w'.ownsRow lo 82 1 (.slice (some ⟨g, 0, .none⟩) (k + 1) cap) (k + 1) (browCells A C D k ++ [.slice a (D k).length ca]))
    (hgrow : w.grownBy w' v.ownBlock) (hat : v.ownBlock = some g ∨ g = H) (hH : w.heap.size = H) (hg : g < w'.heap.size) :
    Bla w' lo w'.heap.size (.slice (some ⟨g, 0, .none⟩) (k + 1) cap) (k + 1) D (fun i => if i = k then a else A i) (fun i => if i = k then ca else C i) (fun i => if i = k then Rk else R i) := by
  have hsz := hgrow.size
  have hm := h.mle
  have hRk : 0 < (D k).length → Rk < w.heap.size := fun h0 => by obtain ⟨_, _, _, g2, _⟩ := how h0; exact g2
  have hcells : browCells (fun i => if i = k then a else A i) (fun i => if i = k then ca else C i) D (k + 1) = browCells A C D k ++ [.slice a (D k).length ca] := by
    unfold browCells
    rw [List.range_succ, List.map_append]
    congr 1
    · refine List.map_congr_left fun i hi => ?_
      have : i ≠ k := by have := List.mem_range.1 hi; omega
      simp [this]
    · simp
  refine ⟨Nat.le_refl _, by rw [hcells]; exact hown, fun g' e => by simp only [Value.ownBlock, Option.some.injEq] at e; omega, fun i hi => ?_, fun i hi => ?_, fun i hi h0 => ?_, fun i j hi hj hne hi0 hj0 => ?_⟩
  · by_cases e : i = k
    · subst e; simp only [if_pos]; exact hca
    · simp only [if_neg e]; exact h.room i (by omega)
  · by_cases e : i = k
    · subst e
      simp only [if_pos]
      refine (how.grown hgrow (fun h0 c => ?_)).wide (Nat.le_refl _) hsz
      have := h.blk _ c
      have := hR h0
      omega
    · simp only [if_neg e]
      exact ((h.row i (by omega)).grown hgrow (fun h0 => h.base i (by omega) h0)).wide (Nat.le_refl _) (by omega)
  · intro c
    simp only [Value.ownBlock, Option.some.injEq] at c
    by_cases e : i = k
    · subst e
      simp only [if_pos] at c
      rcases hat with hat | hat
      · have := h.blk _ hat; have := hR h0; omega
      · have := hRk h0; omega
    · simp only [if_neg e] at c
      rcases hat with hat | hat
      · exact h.base i (by omega) h0 (by rw [hat, c])
      · obtain ⟨_, _, _, g2, _⟩ := h.row i (by omega) h0; omega
  · by_cases e : i = k
    · have e2 : j ≠ k := by omega
      rw [e] at hi0
      obtain ⟨_, _, _, g2, _⟩ := h.row j (by omega) hj0
      simp only [if_pos e, if_neg e2]
      have := hR hi0; omega
    · by_cases e2 : j = k
      · rw [e2] at hj0
        obtain ⟨_, _, _, g2, _⟩ := h.row i (by omega) hi0
        simp only [if_neg e, if_pos e2]
        have := hR hj0; omega
      · simp only [if_neg e, if_neg e2]
        exact h.apart i j (by omega) (by omega) hne hi0 hj0
theorem Bla.rows {w : World} {lo m : Nat} {v : Value} {k : Nat} {D : Nat → List Int} {A : Nat → Option Addr} {C R : Nat → Nat} (h : Bla w lo m v k D A C R) : ∃ a cap, v = .slice a k cap ∧ BRows w lo m a k D := by
  rcases h.own.2 with ⟨h0, h1⟩ | ⟨g, cap, cur, hv, hbs, hgg, h1, h2, h3, h4⟩
  · subst h1
    exact ⟨.none, 0, h0, 0, 0, A, C, R, fun h => absurd h (by omega), ⟨fun i hi => absurd hi (by omega), fun i hi => absurd hi (by omega), fun i hi => absurd hi (by omega), fun i hi => absurd hi (by omega), fun i j hi => absurd hi (by omega)⟩⟩
  · have hgm := h.blk g (by rw [hv]; rfl)
    have hlt : g < w.heap.size := Nat.lt_of_lt_of_le hgm h.mle
    refine ⟨_, cap, hv, g, 0, A, C, R, fun _ => ⟨rfl, hbs, hgm, hlt⟩, ⟨fun i hi => ?_, h.room, h.row, fun i hi h0 e => h.base i hi h0 (by rw [hv, e]; rfl), h.apart⟩⟩
    rw [Nat.zero_add]
    have e : cur[i]? = some (.slice (A i) (D i).length (C i)) := by
      have := congrArg (·[i]?) h4
      simp only [Nat.mul_one] at this
      rw [List.getElem?_take, if_pos hi] at this
      simpa [browCells, hi] using this
    simp [World.cell?, hgg, e]
theorem Bla.form {w : World} {lo m : Nat} {v : Value} {k : Nat} {D : Nat → List Int} {A : Nat → Option Addr} {C R : Nat → Nat} (h : Bla w lo m v k D A C R) : ∃ a cap, v = .slice a k cap := by
  obtain ⟨a, cap, e, _⟩ := h.rows
  exact ⟨a, cap, e⟩
end Go.Proofs.YtdmlgnmklnaehaaGreatDoor
