
/-
  A row as a linked list of nodes, the first of which holds nothing: plain facts on worlds. No function of the program in sight; no conditions but those that each fact names.
-/
import Derived.Test.YtmbpmhmehiiiaaaWys
namespace Go.Proofs.Ytmbpmhmehiiiaaa
open Go.ChangeShapes Go.WideShapes Go.ChangeAt Go.RowKit Go.Deep
set_option linter.unusedVariables false

abbrev ptrV (p : Option Nat) : Value := .pointer (p.map fun b => ⟨b, 0, none⟩)
abbrev nodeC (x : Wy) (p : Option Nat) : Array Value := #[.int .i64 x.1, .bool x.2, ptrV p]
/-- The nodes 'ns' hold 'vs', each leading to the next. -/
structure LL (w : World) (ns : List Nat) (vs : List Wy) : Prop where
  len : ns.length = vs.length
  nodup : ns.Nodup
  blk : ∀ i b, ns[i]? = some b → Bk w b (nodeC (vs.getD i wd) ns[i + 1]?)
/-- All blocks but those of a list lie as they lay. -/
structure Chg (ns : List Nat) (w w' : World) : Prop where
  os : w'.os = w.os
  tape : w'.tape = w.tape
  output : w'.output = w.output
  size : w.heap.size ≤ w'.heap.size
  block : ∀ k, k < w.heap.size → k ∉ ns → w'.heap[k]? = w.heap[k]?
theorem Chg.refl (ns : List Nat) (w : World) : Chg ns w w := ⟨rfl, rfl, rfl, Nat.le_refl _, fun _ _ _ => rfl⟩
theorem Below.chg {ns : List Nat} {a b : World} (h : Below a.heap.size a b) : Chg ns a b := ⟨h.os, h.tape, h.output, h.size, fun k hk _ => h.block k hk⟩
theorem Chg.trans {ns ms : List Nat} {a b c : World} (h : Chg ns a b) (g : Chg ms b c) (hs : ∀ k ∈ ms, k ∈ ns ∨ a.heap.size ≤ k) : Chg ns a c :=
  ⟨g.os.trans h.os, g.tape.trans h.tape, g.output.trans h.output, Nat.le_trans h.size g.size, fun k hk hn => (g.block k (Nat.lt_of_lt_of_le hk h.size) (fun c => by rcases hs k c with e | e; exact hn e; omega)).trans (h.block k hk hn)⟩
theorem Chg.mono {ns ms : List Nat} {a b : World} (h : Chg ns a b) (hs : ∀ k ∈ ns, k ∈ ms) : Chg ms a b :=
  ⟨h.os, h.tape, h.output, h.size, fun k hk hn => h.block k hk (fun c => hn (hs k c))⟩
theorem Chg.below {ns : List Nat} {a b : World} {B : Nat} (h : Chg ns a b) (hB : B ≤ a.heap.size) (hs : ∀ k ∈ ns, B ≤ k) : Below B a b :=
  ⟨h.os, h.tape, h.output, h.size, fun k hk => h.block k (by omega) (fun c => by have := hs k c; omega)⟩
theorem Chg.set {ns : List Nat} {a w : World} (h : Chg ns a w) (b o : Nat) (v : Value) (hb : b ∈ ns) : Chg ns a (w.setCell ⟨b, o, none⟩ v) := by
  have hb' : Below b w (w.setCell ⟨b, o, none⟩ v) := (Below.refl _ _).setCell (p := ⟨b, o, none⟩) (Nat.le_refl _) v
  exact ⟨hb'.os.trans h.os, hb'.tape.trans h.tape, hb'.output.trans h.output, Nat.le_trans h.size hb'.size, fun k hk hn => (Below.heap_setCell w ⟨b, o, none⟩ v k (fun e => hn (by rw [e]; exact hb))).trans (h.block k hk hn)⟩
theorem Bk.chg {w w' : World} {b : Nat} {cs : Array Value} {ns : List Nat} (h : Bk w b cs) (hb : Chg ns w w') (hn : b ∉ ns) : Bk w' b cs := by
  have hk := hb.block b h.lt hn
  exact ⟨Nat.lt_of_lt_of_le h.lt hb.size, fun i v e => (World.cell?_of_block (a := ⟨b, i, none⟩) hk).trans (h.cell i v e), fun i => (World.frozen?_of_block (a := ⟨b, i, none⟩) hk).trans (h.free i)⟩
theorem LL.chg {w w' : World} {ns ms : List Nat} {vs : List Wy} (h : LL w ns vs) (hb : Chg ms w w') (hn : ∀ k ∈ ns, k ∉ ms) : LL w' ns vs :=
  ⟨h.len, h.nodup, fun i b e => (h.blk i b e).chg hb (hn b (List.mem_of_getElem? e))⟩
theorem LL.below {w w' : World} {ns : List Nat} {vs : List Wy} (h : LL w ns vs) (hb : Below w.heap.size w w') : LL w' ns vs :=
  h.chg (ms := []) (Below.chg hb) (fun _ _ => by simp)
theorem LL.lt {w : World} {ns : List Nat} {vs : List Wy} (h : LL w ns vs) : ∀ k ∈ ns, k < w.heap.size := fun k hk => by
  obtain ⟨i, hi, rfl⟩ := List.mem_iff_getElem.1 hk
  exact (h.blk i _ (List.getElem?_eq_getElem hi)).lt
/-- A node is laid behind the first. -/
theorem LL.push {w : World} {hd : Nat} {bs : List Nat} {v0 : Wy} {ws : List Wy} (h : LL w (hd :: bs) (v0 :: ws)) (x : Wy) (T : TypeId) (c : Nat) (hc : c = w.heap.size) :
    LL ((w.alloc (.cells (nodeC x bs.head?) T)).setCell ⟨hd, 2, none⟩ (ptrV (some c))) (hd :: c :: bs) (v0 :: x :: ws) := by
  subst hc
  have hlt := h.lt
  have hal : Below w.heap.size w (w.alloc (.cells (nodeC x bs.head?) T)) := (Below.refl _ _).alloc (Nat.le_refl _) _
  have hnd := List.nodup_cons.1 h.nodup
  have hne : w.heap.size ≠ hd := fun e => by have := hlt hd (by simp); omega
  refine ⟨by have := h.len; simp at this ⊢; omega, ?_, fun i b e => ?_⟩
  · refine List.nodup_cons.2 ⟨?_, List.nodup_cons.2 ⟨fun c => ?_, hnd.2⟩⟩
    · intro c
      rcases List.mem_cons.1 c with c | c
      · exact hne c.symm
      · exact hnd.1 c
    · have := hlt _ (List.mem_cons_of_mem _ c); omega
  · match i, e with
    | 0, e =>
      simp only [List.getElem?_cons_zero, Option.some.injEq] at e
      subst e
      have h0 := (h.blk 0 hd rfl).below hal
      exact h0.set 2 _ (by simp) rfl
    | 1, e =>
      simp only [List.getElem?_cons_succ, List.getElem?_cons_zero, Option.some.injEq] at e
      subst e
      have hn := (Bk.new w (nodeC x bs.head?) T w.heap.size rfl).other hd 2 (ptrV (some w.heap.size)) hne.symm
      simpa [List.head?_eq_getElem?] using hn
    | i + 2, e =>
      simp only [List.getElem?_cons_succ] at e
      have hmem := List.mem_of_getElem? e
      have h1 := (h.blk (i + 1) b (by simpa using e)).below hal
      have h2 := h1.other hd 2 (ptrV (some w.heap.size)) (fun c => hnd.1 (by rw [c]; exact hmem))
      simpa using h2
theorem getD_erase (vs : List Wy) (i j : Nat) : (vs.eraseIdx i).getD j wd = if j < i then vs.getD j wd else vs.getD (j + 1) wd := by
  simp only [List.getD, List.getElem?_eraseIdx]
  split <;> rfl
/-- The node behind number i is taken out. -/
theorem LL.cut {w : World} {ns : List Nat} {vs : List Wy} (h : LL w ns vs) (i b : Nat) (hb : ns[i]? = some b) (hi : i + 1 < ns.length) : LL (w.setCell ⟨b, 2, none⟩ (ptrV ns[i + 2]?)) (ns.eraseIdx (i + 1)) (vs.eraseIdx (i + 1)) := by
  have hl := h.len
  refine ⟨by rw [List.length_eraseIdx_of_lt hi, List.length_eraseIdx_of_lt (by omega), hl], h.nodup.sublist (List.eraseIdx_sublist _ _), fun j c e => ?_⟩
  rw [getD_erase]
  rw [List.getElem?_eraseIdx] at e
  rw [List.getElem?_eraseIdx]
  by_cases hj : j = i
  · subst hj
    rw [if_pos (by omega)] at e ⊢
    rw [if_neg (by omega)]
    rw [hb] at e
    cases e
    exact (h.blk j b hb).set 2 _ (by simp) rfl
  · have hij : ∀ k, ns[k]? = some c → k ≠ i → b ≠ c := fun k hk hne e' => by
      subst e'
      have h1 : i < ns.length := by omega
      have h2 : k < ns.length := by
        rcases Nat.lt_or_ge k ns.length with g | g
        · exact g
        · rw [List.getElem?_eq_none g] at hk; cases hk
      rw [List.getElem?_eq_getElem h1] at hb
      rw [List.getElem?_eq_getElem h2] at hk
      have he : ns[k] = ns[i] := (Option.some.inj hk).trans (Option.some.inj hb).symm
      rcases Nat.lt_or_gt_of_ne hne with g | g
      · exact List.pairwise_iff_getElem.1 h.nodup k i h2 h1 g he
      · exact List.pairwise_iff_getElem.1 h.nodup i k h1 h2 g he.symm
    by_cases hlt : j < i + 1
    · rw [if_pos hlt] at e ⊢
      rw [if_pos (by omega)]
      exact (h.blk j c e).other b 2 _ (hij j e hj)
    · rw [if_neg hlt] at e ⊢
      rw [if_neg (by omega)]
      exact (h.blk (j + 1) c e).other b 2 _ (hij (j + 1) e (by omega))
end Go.Proofs.Ytmbpmhmehiiiaaa
