
/-
  Many uses of a cache, one after another: the program's own function, which keeps a list of linked rows. Conditions: the uses read as such, at most 2000 of them, the shape is right.
-/
import Derived.Test.YtmbpmhmehiiiaaaRows
import Derived.Test.YtmbpmhmehiiiaaaUpr
import Derived.Test.YtmbpmhmehiiiaaaUsl
import Derived.Test.YtmbpmhmehiiiaaaCrs
import Derived.Deep.RegionHeld3
namespace Go.Proofs.Ytmbpmhmehiiiaaa
open Go.ChangeShapes Go.WideShapes Go.ChangeAt Go.RowKit Go.Deep
set_option linter.unusedVariables false

/-- Linked rows whose heads lie in the block 'Rb', k of them so far, their nodes apart and from 'lo' on. -/
structure RV (W : World) (Rb lo n k : Nat) (D : Nat → List Wy) (hd : Nat → Nat) (bs : Nat → List Nat) : Prop where
  lt : Rb < W.heap.size
  rlo : Rb < lo
  free : ∀ j, W.frozen? ⟨Rb, j, none⟩ = false
  room : ∀ i, i < n → ∃ u, W.cell? ⟨Rb, i, none⟩ = some u
  cell : ∀ i, i < k → W.cell? ⟨Rb, i, none⟩ = some (.pointer (some ⟨hd i, 0, none⟩))
  ll : ∀ i, i < k → LL W (hd i :: bs i) (wd :: D i)
  apart : ∀ i j, i < k → j < k → i ≠ j → ∀ x ∈ hd i :: bs i, x ∉ hd j :: bs j
  low : ∀ i, i < k → ∀ x ∈ hd i :: bs i, lo ≤ x
theorem LL.same {w w' : World} {ns : List Nat} {vs : List Wy} (h : LL w ns vs) (hs : w.heap.size ≤ w'.heap.size) (hb : ∀ x ∈ ns, w'.heap[x]? = w.heap[x]?) : LL w' ns vs :=
  ⟨h.len, h.nodup, fun i b e => by
    have hk := hb b (List.mem_of_getElem? e)
    have hB := h.blk i b e
    exact ⟨Nat.lt_of_lt_of_le hB.lt hs, fun j v e => (World.cell?_of_block (a := ⟨b, j, none⟩) hk).trans (hB.cell j v e), fun j => (World.frozen?_of_block (a := ⟨b, j, none⟩) hk).trans (hB.free j)⟩⟩
theorem RV.same {W W' : World} {Rb lo n k : Nat} {D : Nat → List Wy} {hd : Nat → Nat} {bs : Nat → List Nat} (h : RV W Rb lo n k D hd bs) (hs : W.heap.size ≤ W'.heap.size) (hR : W'.heap[Rb]? = W.heap[Rb]?) (hb : ∀ i, i < k → ∀ x ∈ hd i :: bs i, W'.heap[x]? = W.heap[x]?) : RV W' Rb lo n k D hd bs :=
  ⟨Nat.lt_of_lt_of_le h.lt hs, h.rlo, fun j => (World.frozen?_of_block (a := ⟨Rb, j, none⟩) hR).trans (h.free j), fun i hi => by rw [World.cell?_of_block (a := ⟨Rb, i, none⟩) hR]; exact h.room i hi, fun i hi => (World.cell?_of_block (a := ⟨Rb, i, none⟩) hR).trans (h.cell i hi), fun i hi => (h.ll i hi).same hs (hb i hi), h.apart, h.low⟩
theorem RV.below {W W' : World} {Rb lo n k : Nat} {D : Nat → List Wy} {hd : Nat → Nat} {bs : Nat → List Nat} (h : RV W Rb lo n k D hd bs) (hb : Below W.heap.size W W') : RV W' Rb lo n k D hd bs :=
  h.same hb.size (hb.block Rb h.lt) (fun i hi x hx => hb.block x ((h.ll i hi).lt x hx))
theorem RV.put {W : World} {Rb lo n k h0 : Nat} {D : Nat → List Wy} {hd : Nat → Nat} {bs : Nat → List Nat} {b0 : List Nat} {S : Nat} (h : RV W Rb lo n k D hd bs) (hk : k < n) (hl : LL W (h0 :: b0) (wd :: D k)) (hn : ∀ x ∈ h0 :: b0, S ≤ x) (hlo : lo ≤ S) (hold : ∀ i, i < k → ∀ x ∈ hd i :: bs i, x < S) :
    RV (W.setCell ⟨Rb, k, none⟩ (.pointer (some ⟨h0, 0, none⟩))) Rb lo n (k + 1) D (fun i => if i = k then h0 else hd i) (fun i => if i = k then b0 else bs i) := by
  obtain ⟨u, hu⟩ := h.room k hk
  have hrl := h.rlo
  have hoth : ∀ x, x ≠ Rb → (W.setCell ⟨Rb, k, none⟩ (.pointer (some ⟨h0, 0, none⟩))).heap[x]? = W.heap[x]? := fun x hx => Below.heap_setCell W ⟨Rb, k, none⟩ _ x hx
  refine ⟨by simpa using h.lt, hrl, fun j => by simpa using h.free j, fun i hi => ?_, fun i hi => ?_, fun i hi => ?_, fun i j hi hj hne x hx => ?_, fun i hi x hx => ?_⟩
  · by_cases e : i = k
    · subst e; exact ⟨_, World.cell?_setCell_same _ _ _ hu⟩
    · rw [World.cell?_setCell_other _ _ _ _ (by intro c; injection c with c1 c2 c3; omega)]; exact h.room i hi
  · by_cases e : i = k
    · subst e; simp only [if_pos]; exact World.cell?_setCell_same _ _ _ hu
    · simp only [if_neg e]
      rw [World.cell?_setCell_other _ _ _ _ (by intro c; injection c with c1 c2 c3; omega)]; exact h.cell i (by omega)
  · by_cases e : i = k
    · subst e
      simp only [if_pos]
      exact hl.same (by simp) (fun x hx => hoth x (by have := hn x hx; omega))
    · simp only [if_neg e]
      exact (h.ll i (by omega)).same (by simp) (fun x hx => hoth x (by have := h.low i (by omega) x hx; omega))
  · by_cases e : i = k
    · have e2 : j ≠ k := by omega
      simp only [if_pos e] at hx
      simp only [if_neg e2]
      intro c
      have := hn x hx
      have := hold j (by omega) x c
      omega
    · simp only [if_neg e] at hx
      by_cases e2 : j = k
      · simp only [if_pos e2]
        intro c
        have := hn x c
        have := hold i (by omega) x hx
        omega
      · simp only [if_neg e2]
        exact h.apart i j (by omega) (by omega) hne x hx
  · by_cases e : i = k
    · simp only [if_pos e] at hx
      have := hn x hx; omega
    · simp only [if_neg e] at hx
      exact h.low i (by omega) x hx
theorem RV.use {W W6 : World} {Rb lo n p : Nat} {D : Nat → List Wy} {hd : Nat → Nat} {bs : Nat → List Nat} {b' : List Nat} {ws : List Wy} (h : RV W Rb lo n n D hd bs) (hp : p < n) (hc : Chg (hd p :: bs p) W W6) (hl : LL W6 (hd p :: b') (wd :: ws)) (hb : ∀ x ∈ b', x ∈ bs p ∨ W.heap.size ≤ x) (hlo : lo ≤ W.heap.size) :
    RV W6 Rb lo n n (fun i => if i = p then ws else D i) hd (fun i => if i = p then b' else bs i) := by
  have hrl := h.rlo
  have hRn : Rb ∉ hd p :: bs p := fun c => by have := h.low p hp Rb c; omega
  have hR := hc.block Rb h.lt hRn
  have hmem : ∀ x ∈ hd p :: b', x ∈ hd p :: bs p ∨ W.heap.size ≤ x := fun x hx => by
    rcases List.mem_cons.1 hx with e | e
    · exact .inl (by simp [e])
    · rcases hb x e with g | g
      · exact .inl (by simp [g])
      · exact .inr g
  refine ⟨Nat.lt_of_lt_of_le h.lt hc.size, hrl, fun j => (World.frozen?_of_block (a := ⟨Rb, j, none⟩) hR).trans (h.free j), fun i hi => by rw [World.cell?_of_block (a := ⟨Rb, i, none⟩) hR]; exact h.room i hi, fun i hi => (World.cell?_of_block (a := ⟨Rb, i, none⟩) hR).trans (h.cell i hi), fun i hi => ?_, fun i j hi hj hne x hx => ?_, fun i hi x hx => ?_⟩
  · by_cases e : i = p
    · subst e; simp only [if_pos]; exact hl
    · simp only [if_neg e]
      exact (h.ll i hi).chg hc (fun x hx => h.apart i p hi hp e x hx)
  · by_cases e : i = p
    · have e2 : j ≠ p := by omega
      subst e
      simp only [if_pos] at hx
      simp only [if_neg e2]
      intro c
      rcases hmem x hx with g | g
      · exact h.apart i j hi hj hne x g c
      · have := (h.ll j hj).lt x c; omega
    · simp only [if_neg e] at hx
      by_cases e2 : j = p
      · subst e2
        simp only [if_pos]
        intro c
        rcases hmem x c with g | g
        · exact h.apart i j hi hj hne x hx g
        · have := (h.ll i hi).lt x hx; omega
      · simp only [if_neg e2]
        exact h.apart i j hi hj hne x hx
  · by_cases e : i = p
    · subst e
      simp only [if_pos] at hx
      rcases hmem x hx with g | g
      · exact h.low i hi x g
      · omega
    · simp only [if_neg e] at hx
      exact h.low i hi x hx
theorem infoH : (Try.prog.info? 66).map (fun i => (i.zero, i.size, i.bytes)) = some (some (.agg #[.pointer none]), 1, 8) := by kernel_rfl
/-- The shape's own variable, the linked rows, the list of answers so far. -/
structure CV (w W : World) (Rb lo n : Nat) (M L : Int) (D : Nat → List Wy) (hd : Nat → Nat) (bs : Nat → List Nat) (v : Value) (xs : List Ac) : Prop where
  bel : Below w.heap.size w W
  box : Bk W w.heap.size #[.int .i64 n, .int .i64 M, .int .i64 L]
  rows : RV W Rb lo n n D hd bs
  out : OwnA W (w.heap.size + 1) v xs
  sep : ∀ g, v.ownBlock = some g → g ≠ Rb ∧ ∀ i, i < n → g ∉ hd i :: bs i
  lo1 : w.heap.size + 1 ≤ Rb ∧ lo ≤ W.heap.size
theorem CV.below {w W W' : World} {Rb lo n : Nat} {M L : Int} {D : Nat → List Wy} {hd : Nat → Nat} {bs : Nat → List Nat} {v : Value} {xs : List Ac} (h : CV w W Rb lo n M L D hd bs v xs) (hb : Below W.heap.size W W') : CV w W' Rb lo n M L D hd bs v xs :=
  ⟨h.bel.trans (hb.mono h.bel.size), h.box.below hb, h.rows.below hb, h.out.below hb, h.sep, ⟨h.lo1.1, Nat.le_trans h.lo1.2 hb.size⟩⟩
theorem OwnA.chg {w w' : World} {base : Nat} {v : Value} {xs : List Ac} {ns : List Nat} (h : OwnA w base v xs) (hc : Chg ns w w') (hn : ∀ g, v.ownBlock = some g → g ∉ ns) : OwnA w' base v xs := by
  refine ⟨h.1, ?_⟩
  rcases h.2 with hz | ⟨g, cap, cur, e, hbs, hg, rest⟩
  · exact .inl hz
  · have hlt : g < w.heap.size := (h.lt g (by rw [e]; rfl)).2
    exact .inr ⟨g, cap, cur, e, hbs, by rw [hc.block g hlt (hn g (by rw [e]; rfl))]; exact hg, rest⟩
theorem CV.use {w W W6 : World} {Rb lo n p : Nat} {M L : Int} {D : Nat → List Wy} {hd : Nat → Nat} {bs : Nat → List Nat} {v : Value} {xs : List Ac} {b' : List Nat} {ws : List Wy} (h : CV w W Rb lo n M L D hd bs v xs) (hp : p < n) (hc : Chg (hd p :: bs p) W W6) (hl : LL W6 (hd p :: b') (wd :: ws)) (hb : ∀ x ∈ b', x ∈ bs p ∨ W.heap.size ≤ x) :
    CV w W6 Rb lo n M L (fun i => if i = p then ws else D i) hd (fun i => if i = p then b' else bs i) v xs := by
  have hl1 := h.lo1
  have hrl := h.rows.rlo
  have hlow : ∀ x ∈ hd p :: bs p, w.heap.size + 1 ≤ x := fun x hx => by have := h.rows.low p hp x hx; omega
  refine ⟨h.bel.trans (hc.below h.bel.size (fun x hx => by have := hlow x hx; omega)), h.box.chg hc (fun c => by have := hlow _ c; omega), h.rows.use hp hc hl hb hl1.2, h.out.chg hc (fun g e => (h.sep g e).2 p hp), fun g e => ⟨(h.sep g e).1, fun i hi => ?_⟩, ⟨hl1.1, Nat.le_trans hl1.2 hc.size⟩⟩
  by_cases c : i = p
  · subst c
    simp only [if_pos]
    intro hx
    rcases List.mem_cons.1 hx with g1 | g1
    · exact (h.sep g e).2 i hi (by simp [g1])
    · rcases hb g g1 with g2 | g2
      · exact (h.sep g e).2 i hi (by simp [g2])
      · have := (h.out.lt g e).2; omega
  · simp only [if_neg c]
    exact (h.sep g e).2 i hi
theorem CV.push {w W W1 w' : World} {Rb lo n : Nat} {M L : Int} {D : Nat → List Wy} {hd : Nat → Nat} {bs : Nat → List Nat} {v v' : Value} {xs xs' : List Ac} (h : CV w W Rb lo n M L D hd bs v xs) (h1 : Below W.heap.size W W1) (ho : OwnA w' (w.heap.size + 1) v' xs') (hg : W1.grownBy w' v.ownBlock) (hb : v.ownBlock = v'.ownBlock ∨ v'.ownBlock = some W1.heap.size) : CV w w' Rb lo n M L D hd bs v' xs' := by
  have h2 := h.below h1
  have hl := h2.rows
  refine ⟨Below.grown h2.bel hg h2.bel.size (fun g e => by have := (h.out.lt g e).1; omega), h2.box.grownNe hg (fun e => by have := (h.out.lt _ e).1; omega), hl.same hg.size (hg.block Rb hl.lt (fun e => (h.sep Rb e.symm).1 rfl)) (fun i hi x hx => hg.block x ((hl.ll i hi).lt x hx) (fun e => (h.sep x e.symm).2 i hi hx)), ho, fun g e => ?_, ⟨h.lo1.1, Nat.le_trans h2.lo1.2 hg.size⟩⟩
  rcases hb with c | c
  · exact h.sep g (by rw [c]; exact e)
  · rw [c] at e
    injection e with e
    exact ⟨by have := hl.lt; omega, fun i hi hx => by have := (hl.ll i hi).lt g hx; omega⟩
end Go.Proofs.Ytmbpmhmehiiiaaa
