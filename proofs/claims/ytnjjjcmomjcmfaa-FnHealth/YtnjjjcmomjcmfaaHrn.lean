
/-
  A run of faults from the zero health on, as plain functions of lists; and what is known in the loops of both runs. No conditions but those that each fact names.
-/
import Derived.Test.YtnjjjcmomjcmfaaRows
import Derived.Test.YtnjjjcmomjcmfaaHoi
import Derived.Test.YtnjjjcmomjcmfaaApl
namespace Go.Proofs.Ytnjjjcmomjcmfaa
open Go.ChangeShapes Go.WideShapes Go.ChangeAt Go.RowKit Go.Deep
set_option linter.unusedVariables false

abbrev St := Int × Int × Int × Bool
abbrev hltS (s : St) : Value := hlt s.1 s.2.1 s.2.2.1 s.2.2.2
abbrev hrowS (s : St) : Array Value := hrow s.1 s.2.1 s.2.2.1 s.2.2.2
/-- One fault: the health behind it and the act. -/
def onS (k m : Int) (s : St) (x : Int) : St × Int :=
  if (polOk k m && (hltOk s.1 s.2.1 s.2.2.1 && (inr x 1 9 && !s.2.2.2))) = true then
    (if k = 2 then ((oneF s.1, s.2.1, x, false), 3) else if k = 1 ∧ s.2.1 < m then ((oneF s.1, s.2.1 + 1, x, false), 2) else ((oneF s.1, s.2.1, x, true), 1))
  else (s, 0)
theorem onV_onS (k m : Int) (s : St) (x : Int) : onV k m s.1 s.2.1 s.2.2.1 s.2.2.2 x = .tuple #[hltS (onS k m s x).1, .int .i64 (onS k m s x).2] := by
  unfold onV onS trF
  split
  · split
    · rfl
    · split
      · rfl
      · rfl
  · rfl
/-- The health behind the first faults. -/
def stI (k m : Int) (zs : List Int) : Nat → St
  | 0 => (0, 0, 0, false)
  | i + 1 => (onS k m (stI k m zs i) (zs.getD i 0)).1
def acI (k m : Int) (zs : List Int) (i : Nat) : Int := (onS k m (stI k m zs i) (zs.getD i 0)).2
def acts (k m : Int) (zs : List Int) (n : Nat) : List Int := (List.range n).map (acI k m zs)
theorem acts_succ (k m : Int) (zs : List Int) (n : Nat) : acts k m zs (n + 1) = acts k m zs n ++ [acI k m zs n] := by
  simp [acts, List.range_succ]
theorem acts_len (k m : Int) (zs : List Int) (n : Nat) : (acts k m zs n).length = n := by simp [acts]
theorem acts_at (k m : Int) (zs : List Int) (n i : Nat) (hi : i < n) : (acts k m zs n).getD i 0 = acI k m zs i := by simp [acts, hi, List.getD]
/-- A run is told. -/
def RunP (k m : Int) (n : Nat) : Prop := polOk k m = true ∧ n ≤ 1000
/-- What HealthRun answers. -/
def HPost (X : World) (s : St) (ys : List Int) (e : Ending) (w' : World) : Prop :=
  ∃ a cap, e = .returned (.tuple #[hltS s, .slice a ys.length cap]) ∧ Below X.heap.size X w' ∧ OI w' X.heap.size w'.heap.size a ys
/-- A health in a variable of its own. -/
def OSF (w1 V : World) (k : Nat) (f r l : Int) (b : Bool) : Prop := Below w1.heap.size w1 V ∧ Bk V k (hrow f r l b) ∧ w1.heap.size ≤ k
theorem osf_new {w1 w7 : World} (f r l : Int) (b : Bool) (T : TypeId) (hb : Below w1.heap.size w1 w7) : OSF w1 (w7.alloc (.cells #[.int .i64 f, .int .i64 r, .int .i64 l, .bool b] T)) w7.heap.size f r l b :=
  ⟨hb.alloc hb.size _, Bk.new _ _ _ _ rfl, hb.size⟩
theorem osf_set {w1 w7 : World} {k : Nat} {f r l : Int} {b : Bool} (hb : Below w1.heap.size w1 w7) (hV : Bk w7 k #[.int .i64 0, .int .i64 0, .int .i64 0, .bool false]) (hk : w1.heap.size ≤ k) :
    OSF w1 ((((w7.setCell ⟨k, 0, none⟩ (.int .i64 f)).setCell ⟨k, 1, none⟩ (.int .i64 r)).setCell ⟨k, 2, none⟩ (.int .i64 l)).setCell ⟨k, 3, none⟩ (.bool b)) k f r l b :=
  ⟨b4 hb hk _ _ _ _, bk4 hV (.int .i64 f) (.int .i64 r) (.int .i64 l) (.bool b), hk⟩
theorem bk_kept {w w' : World} {b : Nat} {cs : Array Value} (hb : Below w.heap.size w w') (h : Bk w b cs) : Bk w' b cs := h.below hb
theorem kept_cell' {w w' : World} {b o B : Nat} {v : Value} (hb : Below B w w') (hlt : b < B) (h : w.cell? ⟨b, o, none⟩ = some v) : w'.cell? ⟨b, o, none⟩ = some v := (hb.cell (p := ⟨b, o, none⟩) hlt).trans h
theorem t4 (w : World) (R : Nat) (a0 a1 a2 a3 : Value) : Betw R (R + 1) w ((((w.setCell ⟨R, 0, none⟩ a0).setCell ⟨R, 1, none⟩ a1).setCell ⟨R, 2, none⟩ a2).setCell ⟨R, 3, none⟩ a3) := by
  have g0 := (Betw.refl R (R + 1) w).setCell (p := ⟨R, 0, none⟩) (Nat.le_refl _) (Nat.lt_succ_self _) a0
  have g1 := g0.setCell (p := ⟨R, 1, none⟩) (Nat.le_refl _) (Nat.lt_succ_self _) a1
  have g2 := g1.setCell (p := ⟨R, 2, none⟩) (Nat.le_refl _) (Nat.lt_succ_self _) a2
  exact g2.setCell (p := ⟨R, 3, none⟩) (Nat.le_refl _) (Nat.lt_succ_self _) a3
/-- What is known in the loop of the specification's run. -/
structure RH (w wr : World) (k m : Int) (s : St) (v : Value) (ys : List Int) : Prop where
  bel : Below w.heap.size w wr
  pk : Bk wr w.heap.size (prow k m)
  rz : Bk wr (w.heap.size + 1) (hrow 0 0 0 false)
  hh : Bk wr (w.heap.size + 2) (hrowS s)
  own : OwnL wr (w.heap.size + 3) v ys
  le : w.heap.size + 3 ≤ wr.heap.size
theorem RH.below {w wr X : World} {k m : Int} {s : St} {v : Value} {ys : List Int} (h : RH w wr k m s v ys) (hb : Below wr.heap.size wr X) : RH w X k m s v ys :=
  ⟨h.bel.trans (hb.mono h.bel.size), h.pk.below hb, h.rz.below hb, h.hh.below hb, h.own.below hb, Nat.le_trans h.le hb.size⟩
theorem RH.set {w wr : World} {k m : Int} {s : St} {v : Value} {ys : List Int} (h : RH w wr k m s v ys) (f r l : Int) (b : Bool) :
    RH w ((((wr.setCell ⟨w.heap.size + 2, 0, none⟩ (.int .i64 f)).setCell ⟨w.heap.size + 2, 1, none⟩ (.int .i64 r)).setCell ⟨w.heap.size + 2, 2, none⟩ (.int .i64 l)).setCell ⟨w.heap.size + 2, 3, none⟩ (.bool b)) k m (f, r, l, b) v ys := by
  have ht := t4 wr (w.heap.size + 2) (.int .i64 f) (.int .i64 r) (.int .i64 l) (.bool b)
  exact ⟨b4 h.bel (by omega) _ _ _ _, h.pk.betw ht (.inl (by omega)), h.rz.betw ht (.inl (by omega)), bk4 h.hh _ _ _ _, ownsRow_betw h.own ht (by omega), Nat.le_trans h.le ht.size⟩
theorem RH.push {w wr X w9 : World} {k m : Int} {s : St} {v v' : Value} {ys ys' : List Int} (h : RH w wr k m s v ys) (hb : Below wr.heap.size wr X) (hg : X.grownBy w9 v.ownBlock) (ho : OwnL w9 (w.heap.size + 3) v' ys') : RH w w9 k m s v' ys' := by
  have hx := h.below hb
  have hlow := own_low h.own
  exact ⟨Below.grown hx.bel hg hx.bel.size (fun g e => by have := hlow g e; omega), hx.pk.grown hg hlow (by omega), hx.rz.grown hg hlow (by omega), hx.hh.grown hg hlow (by omega), ho, Nat.le_trans hx.le hg.size⟩
end Go.Proofs.Ytnjjjcmomjcmfaa
