
/-
  The marks that a law lays into tables of its own: nothing outside of their blocks is another. Conditions: the lists lie in blocks of their own, which may be written.
-/
import Derived.Test.YtlomcdgfcocmmaaGreatDoorBas
import Derived.Test.YtlomcdgfcocmmaaGreatDoorTbe
import Derived.Test.YtlomcdgfcocmmaaGreatDoorNam
import Derived.Laws.IdiomStrings
namespace Go.Proofs.YtlomcdgfcocmmaaGreatDoor
open Go.ChangeShapes Go.WideShapes Go.ChangeAt Go.RowKit Go.Deep Go.Joins
set_option linter.unusedVariables false

/-- Only blocks from 'lo' up to 'hi' have other cells; what was there to be written is there to be written. -/
structure Mk (lo hi : Nat) (w w' : World) : Prop where
  b : Betw lo hi w w'
  c : ∀ B i, B < w.heap.size → (∃ u, w.cell? ⟨B, i, none⟩ = some u) → ∃ u, w'.cell? ⟨B, i, none⟩ = some u
  f : ∀ B i, B < w.heap.size → w'.frozen? ⟨B, i, none⟩ = w.frozen? ⟨B, i, none⟩
theorem Mk.refl (lo hi : Nat) (w : World) : Mk lo hi w w := ⟨Betw.refl _ _ _, fun _ _ _ h => h, fun _ _ _ => rfl⟩
theorem Mk.trans {lo hi : Nat} {a b c : World} (h : Mk lo hi a b) (g : Mk lo hi b c) : Mk lo hi a c :=
  ⟨h.b.trans g.b, fun B i hB hu => g.c B i (Nat.lt_of_lt_of_le hB h.b.size) (h.c B i hB hu), fun B i hB => (g.f B i (Nat.lt_of_lt_of_le hB h.b.size)).trans (h.f B i hB)⟩
theorem Mk.set {lo hi B j : Nat} {w w' : World} {v : Value} (h : Mk lo hi w w') (h1 : lo ≤ B) (h2 : B < hi) : Mk lo hi w (w'.setCell ⟨B, j, none⟩ v) := by
  refine ⟨h.b.setCell (p := ⟨B, j, none⟩) h1 h2 _, fun B' i hB hu => ?_, fun B' i hB => by rw [World.frozen?_setCell]; exact h.f B' i hB⟩
  obtain ⟨u, hu2⟩ := h.c B' i hB hu
  by_cases e : (⟨B, j, none⟩ : Addr) = ⟨B', i, none⟩
  · rw [← e] at hu2 ⊢
    exact ⟨_, World.cell?_setCell_same _ _ _ hu2⟩
  · exact ⟨u, by rw [World.cell?_setCell_other _ _ _ _ e]; exact hu2⟩
theorem Mk.below {lo hi : Nat} {w w' w2 : World} (h : Mk lo hi w w') (hb : Below w'.heap.size w' w2) : Mk lo hi w w2 :=
  ⟨h.b.trans ⟨hb.os, hb.tape, hb.output, hb.size, fun k hk _ => hb.block k hk⟩, fun B i hB hu => by
    obtain ⟨u, hu2⟩ := h.c B i hB hu
    exact ⟨u, kept_cell hb hu2⟩, fun B i hB => (hb.frozen (p := ⟨B, i, none⟩) (Nat.lt_of_lt_of_le hB h.b.size)).trans (h.f B i hB)⟩
/-- A list of rows of k cells in a block of [lo, hi) that may be written. -/
def WR (k lo hi : Nat) (w : World) (a : Option Addr) (n : Nat) : Prop :=
  0 < n → ∃ b off, a = some ⟨b, off, none⟩ ∧ lo ≤ b ∧ b < hi ∧ b < w.heap.size ∧ (∀ i j, i < n → j < k → ∃ u, w.cell? ⟨b, off + i * k + j, none⟩ = some u) ∧ ∀ j, w.frozen? ⟨b, j, none⟩ = false
theorem WR.mk {k l1 h1 lo hi : Nat} {w w' : World} {a : Option Addr} {n : Nat} (h : WR k l1 h1 w a n) (g : Mk lo hi w w') : WR k l1 h1 w' a n := fun h0 => by
  obtain ⟨b, off, e, q1, q2, q3, q4, q5⟩ := h h0
  exact ⟨b, off, e, q1, q2, Nat.lt_of_lt_of_le q3 g.b.size, fun i j hi hj => g.c b _ q3 (q4 i j hi hj), fun j => (g.f b j q3).trans (q5 j)⟩
theorem WR.below {k l1 h1 : Nat} {w w' : World} {a : Option Addr} {n : Nat} (h : WR k l1 h1 w a n) (hb : Below w.heap.size w w') : WR k l1 h1 w' a n := h.mk ((Mk.refl 0 0 w).below hb)
theorem GSegL.wr {k lo : Nat} {w : World} {a : Option Addr} {n : Nat} {X : Nat → List Value} (h : GSegL k lo w a n X) (h0 : 0 < lo) (hX : ∀ i, (X i).length = k) : WR k lo w.heap.size w a n := fun hn => by
  obtain ⟨b, off, e, q1, q2, q3, q4⟩ := h hn
  refine ⟨b, off, e, q1, q2, q2, fun i j hi hj => ?_, q4 h0⟩
  have hl : j < (X i).length := by rw [hX i]; exact hj
  exact ⟨_, q3 i hi j _ (List.getElem?_eq_getElem hl)⟩
/-- Partitions in blocks of their own that may be written: the rows in one, the windows behind it. -/
structure WP (lo hi : Nat) (w : World) (a : Option Addr) (n : Nat) (Y : Nat → Rw) : Prop where
  r : WR 5 lo hi w a n
  g : ∀ b off, a = some ⟨b, off, none⟩ → ∀ i, i < n → w.cell? ⟨b, off + i * 5 + 4, none⟩ = some (.slice (Y i).wa (Y i).wn (Y i).wc)
  v : ∀ b off, a = some ⟨b, off, none⟩ → ∀ i, i < n → WR 3 (b + 1) hi w (Y i).wa (Y i).wn
theorem PSegL.wp {lo : Nat} {w : World} {a : Option Addr} {n : Nat} {ps : List Pt} {Y : Nat → Rw} (h : PSegL lo w a n ps Y) (h0 : 0 < lo) : WP lo w.heap.size w a n Y := by
  refine ⟨h.p1.wr h0 (fun i => rfl), fun b off e i hi => ?_, fun b off e i hi => (h.p3 h0 b off e i hi).sg.wr (by omega) (fun i => rfl)⟩
  obtain ⟨b', off', e', _, _, hc, _⟩ := h.p1 (by omega)
  rw [e] at e'
  cases e'
  exact (rw_cells (hc i hi)).2.2.2.2
/-- Tables whose lists lie in blocks of [lo, hi) that may be written. -/
structure WT (lo hi : Nat) (w : World) (a : Ad) : Prop where
  p : WP lo hi w a.pa a.pn a.Y
  d : WR 1 lo hi w a.da a.dn
  c : WR 4 lo hi w a.ca a.cn
  s : WR 3 lo hi w a.sa a.sn
theorem WT.below {lo hi : Nat} {w w' : World} {a : Ad} (h : WT lo hi w a) (hb : Below w.heap.size w w') : WT lo hi w' a :=
  ⟨⟨h.p.r.below hb, fun b off e i hi => kept_cell hb (h.p.g b off e i hi), fun b off e i hi => (h.p.v b off e i hi).below hb⟩, h.d.below hb, h.c.below hb, h.s.below hb⟩
theorem TM.wt {lo : Nat} {w : World} {t : Tb} {a : Ad} (h : TM lo w t a) (h0 : 0 < lo) : WT lo w.heap.size w a :=
  ⟨h.p.wp h0, h.d.wr h0 (fun i => rfl), h.c.wr h0 (fun i => rfl), h.s.wr h0 (fun i => rfl)⟩
theorem Mk.low {lo hi n : Nat} {w w' : World} (h : Mk lo hi w w') (h1 : n ≤ lo) (h2 : n ≤ w.heap.size) : Below n w w' :=
  ⟨h.b.os, h.b.tape, h.b.output, h.b.size, fun k hk => h.b.block k (by omega) (.inl (by omega))⟩
end Go.Proofs.YtlomcdgfcocmmaaGreatDoor
