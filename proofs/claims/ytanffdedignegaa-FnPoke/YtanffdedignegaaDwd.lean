
/-
  What the draw of windows returns: a list of windows in memory of the call's own, all numbers in it small. Conditions: the bytes drawn from are at most 1048576.
-/
import Derived.Test.YtanffdedignegaaBas
import Derived.Test.YtanffdedignegaaProg
import Derived.Test.YtanffdedignegaaDraw
import Derived.Test.YtanffdedignegaaWnl
import Derived.Deep.RegionWith
import Derived.BigRegion
namespace Go.Proofs.Ytanffdedignegaa
open Go.ChangeShapes Go.WideShapes Go.ChangeAt Go.RowKit Go.Deep
set_option linter.unusedVariables false
set_option maxRecDepth 20000

theorem Turn.grown {B : Nat} {w w' : World} (h : Turn B w w') : w.grownBy w' (some B) := ⟨h.os, h.tape, h.output, h.size, fun k hk hn => h.block k hk (fun e => hn (by rw [e]))⟩
theorem Cur.belowC {w w' : World} {B C : Nat} {a : Option Addr} {zs : List Int} {cap : Nat} (h : Cur w B a zs cap) (hb : Below C w w') (hB : B < C) (ha : ∀ b off, a = some ⟨b, off, none⟩ → 0 < zs.length → b < C) : Cur w' B a zs cap := by
  have hc : ∀ o, w'.cell? ⟨B, o, none⟩ = w.cell? ⟨B, o, none⟩ := fun o => hb.cell (p := ⟨B, o, none⟩) hB
  refine ⟨Nat.lt_of_lt_of_le h.lt hb.size, (hc 0).trans h.c0, ?_, ?_, fun i => (hb.frozen (p := ⟨B, i, none⟩) hB).trans (h.free i), ?_, h.far, h.byte, h.small⟩
  · obtain ⟨i, hi, e⟩ := h.c1
    exact ⟨i, hi, (hc 1).trans e⟩
  · obtain ⟨x, e⟩ := h.c2
    exact ⟨x, (hc 2).trans e⟩
  · intro h0
    obtain ⟨b, off, e, hlt, hcl⟩ := h.seg h0
    exact ⟨b, off, e, Nat.lt_of_lt_of_le hlt hb.size, fun i hi => (hb.cell (p := ⟨b, off + i, none⟩) (ha b off e h0)).trans (hcl i hi)⟩
theorem Turn.then_below {B : Nat} {a b c : World} (h : Turn B a b) (hb : Below a.heap.size b c) : Turn B a c :=
  ⟨hb.os.trans h.os, hb.tape.trans h.tape, hb.output.trans h.output, Nat.le_trans h.size hb.size, fun k hk hn => (hb.block k hk).trans (h.block k hk hn)⟩
theorem draw_once (w : World) (B : Nat) (a : Option Addr) (zs : List Int) (cap : Nat) (n : Int) (hc : Cur w B a zs cap) (h1 : 1 ≤ n) (h2 : n ≤ 4294967296) :
    Calls Try.prog 48 #[.pointer (some ⟨B, 0, none⟩), .int .i64 n] w fun e w' => ∃ x : Bool, e = .returned (.bool x) ∧ Cur w' B a zs cap ∧ Turn B w w' := by
  go_enter Try.func48, Try.ntmps48
  go_wp2_with fail
  refine (draw_below _ B _ _ _ n hc h1 h2).mono ?_
  rintro e w1 ⟨x, rfl, hx0, hx1, hc1, ht1⟩
  go_wp2
  go_ret
  exact ⟨_, rfl, hc1, ht1⟩
/-- A small number. -/
def Sm (x : Int) : Prop := -100000 ≤ x ∧ x ≤ 100000
/-- A list of 'n' windows that the call owns, its numbers small. -/
def OwnZ (w : World) (base : Nat) (v : Value) (n : Nat) : Prop := ∃ zs : List Int, (∀ z ∈ zs, Sm z) ∧ w.ownsRow base 40 3 v n (zs.map (Value.int .i64)) ∧ v ≠ .slice none 0 0
/-- What a draw keeps: the cursor, what lay before, the list. -/
structure WL (w0 W : World) (B : Nat) (a : Option Addr) (zs : List Int) (cap : Nat) (v : Value) (n : Nat) : Prop where
  cur : Cur W B a zs cap
  turn : Turn B w0 W
  own : OwnZ W w0.heap.size v n
  lo : B < w0.heap.size
  seg : ∀ b off, a = some ⟨b, off, none⟩ → 0 < zs.length → b < w0.heap.size
theorem ownsRow_turn {w w' : World} {base B : Nat} {e : TypeId} {size : Nat} {v : Value} {n : Nat} {xs : List Value} (h : w.ownsRow base e size v n xs) (ht : Turn B w w') (hB : B < base) : w'.ownsRow base e size v n xs := by
  refine World.ownsRow.kept h ht.grown ?_
  rcases h.2 with ⟨rfl, _⟩ | ⟨g, cap, cur, rfl, hbs, _⟩
  · exact .inl rfl
  · refine .inr fun e' => ?_
    simp [Value.ownBlock] at e'
    omega
theorem WL.draw {w0 W W' : World} {B : Nat} {a : Option Addr} {zs : List Int} {cap : Nat} {v : Value} {n : Nat} (h : WL w0 W B a zs cap v n) (hc : Cur W' B a zs cap) (ht : Turn B W W') : WL w0 W' B a zs cap v n := by
  obtain ⟨ys, h1, h2, h3⟩ := h.own
  exact ⟨hc, h.turn.trans ht, ⟨ys, h1, ownsRow_turn h2 ht h.lo, h3⟩, h.lo, h.seg⟩
theorem WL.below {w0 W W' : World} {B : Nat} {a : Option Addr} {zs : List Int} {cap : Nat} {v : Value} {n : Nat} (h : WL w0 W B a zs cap v n) (hb : Below W.heap.size W W') : WL w0 W' B a zs cap v n :=
  h.draw (h.cur.below hb) (Turn.of_below hb)
theorem WL.alloc {w0 W : World} {B : Nat} {a : Option Addr} {zs : List Int} {cap : Nat} {v : Value} {n : Nat} (h : WL w0 W B a zs cap v n) (o : Obj) : WL w0 (W.alloc o) B a zs cap v n :=
  h.below ((Below.refl _ _).alloc (Nat.le_refl _) _)
/-- Behind an append of one window. -/
theorem WL.push {w0 W W' : World} {B : Nat} {a : Option Addr} {zs : List Int} {cap : Nat} {v : Value} {n gg c1 : Nat} {x1 x2 x3 : Int} {ys : List Int} (h : WL w0 W B a zs cap v n) (hys : ∀ z ∈ ys, Sm z) (ho : W.ownsRow w0.heap.size 40 3 v n (ys.map (Value.int .i64))) (hx : Sm x1 ∧ Sm x2 ∧ Sm x3)
    (h1 : W'.ownsRow w0.heap.size 40 3 (.slice (some ⟨gg, 0, none⟩) (n + 1) c1) (n + 1) (ys.map (Value.int .i64) ++ [.int .i64 x1, .int .i64 x2, .int .i64 x3])) (hg : W.grownBy W' v.ownBlock) : WL w0 W' B a zs cap (.slice (some ⟨gg, 0, none⟩) (n + 1) c1) (n + 1) := by
  have hb : Below w0.heap.size W W' := Below.grown (Below.refl _ _) hg h.turn.size (fun k e => by
    rcases ho.2 with ⟨rfl, _⟩ | ⟨g, cap, cur, rfl, hbs, _⟩
    · simp [Value.ownBlock] at e
    · simp [Value.ownBlock] at e; omega)
  refine ⟨h.cur.belowC hb h.lo h.seg, h.turn.then_below hb, ⟨ys ++ [x1, x2, x3], fun z hz => ?_, by simpa using h1, fun e => by cases e⟩, h.lo, h.seg⟩
  rcases List.mem_append.1 hz with g | g
  · exact hys z g
  · simp only [List.mem_cons, List.not_mem_nil, or_false] at g
    rcases g with rfl | rfl | rfl
    · exact hx.1
    · exact hx.2.1
    · exact hx.2.2
/-- Behind a store of a small number into the list. -/
theorem WL.put {w0 W : World} {B : Nat} {a : Option Addr} {zs : List Int} {cap : Nat} {n g c1 : Nat} (h : WL w0 W B a zs cap (.slice (some ⟨g, 0, none⟩) n c1) n) (j : Nat) (x : Int) (hx : Sm x) : WL w0 (W.setCell ⟨g, j, none⟩ (.int .i64 x)) B a zs cap (.slice (some ⟨g, 0, none⟩) n c1) n := by
  obtain ⟨ys, h1, h2, h3⟩ := h.own
  have hg : w0.heap.size ≤ g := by
    rcases h2.2 with ⟨e, _⟩ | ⟨g', cap, cur, e, hbs, _⟩
    · cases e
    · cases e; exact hbs
  have hb : Below w0.heap.size W (W.setCell ⟨g, j, none⟩ (.int .i64 x)) := (Below.refl _ _).setCell (p := ⟨g, j, none⟩) hg _
  refine ⟨h.cur.belowC hb h.lo h.seg, h.turn.then_below hb, ⟨ys.set j x, fun z hz => ?_, ?_, h3⟩, h.lo, h.seg⟩
  · rcases List.mem_or_eq_of_mem_set hz with g | g
    · exact h1 z g
    · rw [g]; exact hx
  · have := World.ownsRow.stored h2 j (.int .i64 x)
    rw [← List.map_set] at this
    exact this.1
theorem OwnZ.form {w : World} {base : Nat} {v : Value} {n : Nat} (h : OwnZ w base v n) : ∃ g c1, v = .slice (some ⟨g, 0, none⟩) n c1 ∧ base ≤ g ∧ g < w.heap.size ∧ n ≤ c1 := by
  obtain ⟨ys, h1, h2, h3⟩ := h
  rcases h2.2 with ⟨e, _⟩ | ⟨g, c1, cur, e, hbs, hg, hc, _⟩
  · exact absurd e h3
  · refine ⟨g, c1, e, hbs, ?_, hc⟩
    rcases Nat.lt_or_ge g w.heap.size with hlt | hge
    · exact hlt
    · rw [Array.getElem?_eq_none hge] at hg; cases hg
theorem OwnZ.cell {w : World} {base : Nat} {n g c1 : Nat} (h : OwnZ w base (.slice (some ⟨g, 0, none⟩) n c1) n) (j : Nat) (hj : j < n * 3) : ∃ x : Int, Sm x ∧ w.cell? ⟨g, j, none⟩ = some (.int .i64 x) := by
  obtain ⟨ys, h1, h2, h3⟩ := h
  have hl : ys.length = n * 3 := by have := h2.1; simpa using this
  have := World.ownsRow.cellAt h2 j hj
  refine ⟨ys[j]'(by omega), h1 _ (List.getElem_mem _), ?_⟩
  rw [this]
  simp [hl, hj]
theorem OwnZ.free {w : World} {base : Nat} {n g c1 : Nat} (h : OwnZ w base (.slice (some ⟨g, 0, none⟩) n c1) n) (j : Nat) : w.frozen? ⟨g, j, none⟩ = false := by
  obtain ⟨ys, h1, h2, h3⟩ := h
  exact World.ownsRow.frozenAt h2 j
end Go.Proofs.Ytanffdedignegaa
