
/-
  The ring of pages in memory, with the set of its pages beside it: plain facts on worlds. No function of the program in sight; no conditions but those that each fact names.
-/
import Derived.Test.YtdjfijkgmeapdaaProg
import Derived.Test.YtdjfijkgmeapdaaTki
import Derived.Maps.OwnSet
namespace Go.Proofs.Ytdjfijkgmeapdaa
open Go.ChangeShapes Go.WideShapes Go.ChangeAt Go.RowKit Go.Deep Go.Maps
set_option linter.unusedVariables false

theorem keyed3 : Keyed Try.prog 3 := int_keyed Try.underlying3
theorem zeroEU (w : World) : (zeroValue 58).run Try.prog w = .ok (.agg #[]) w := by kernel_rfl
theorem ownsMap_tight {w : World} {P : Program} {k : TypeId} {R : Value → Option (DataW Unit × List MemPlace)} {b n : Nat} {D : DataW Unit} (h : w.ownsMap P k R b n D) : w.ownsMap P k R b (Maps.size D) D := by
  obtain ⟨es, clock, hb, F, hs, rfl⟩ := h
  exact ⟨es, clock, hb, F, by simp [Maps.size, length_sorted], rfl⟩
theorem ownsMap_lt {w : World} {P : Program} {k : TypeId} {R : Value → Option (DataW Unit × List MemPlace)} {b n : Nat} {D : DataW Unit} (h : w.ownsMap P k R b n D) : b < w.heap.size := by
  obtain ⟨es, clock, hb, _⟩ := h
  rcases Nat.lt_or_ge b w.heap.size with hlt | hge
  · exact hlt
  · rw [Array.getElem?_eq_none hge] at hb; cases hb
theorem ownsMap_same {w w' : World} {P : Program} {k : TypeId} {R : Value → Option (DataW Unit × List MemPlace)} {b n : Nat} {D : DataW Unit} (h : w.ownsMap P k R b n D) (hb : w'.heap[b]? = w.heap[b]?) : w'.ownsMap P k R b n D := by
  obtain ⟨es, clock, h0, r⟩ := h
  exact ⟨es, clock, by rw [hb]; exact h0, r⟩
/-- Block 'M' is a map whose keys are just the numbers of 'L', no two alike. -/
def SetM (w : World) (M : Nat) (L : List Int) : Prop :=
  ∃ D : DataW Unit, w.ownsMap Try.prog 3 unitElem M L.length D ∧ (∀ x, Maps.has D (.int .i64 x) = L.contains x) ∧ Maps.size D = L.length
theorem wf_page {x : Int} (h : 0 ≤ x ∧ x ≤ 1023) : (Lit.int .i64 x).wf = true := WalkArith.wf_i64 (by omega)
theorem SetM.lt {w : World} {M : Nat} {L : List Int} (h : SetM w M L) : M < w.heap.size := by
  obtain ⟨D, h1, _⟩ := h
  exact ownsMap_lt h1
theorem SetM.same {w w' : World} {M : Nat} {L : List Int} (h : SetM w M L) (hb : w'.heap[M]? = w.heap[M]?) : SetM w' M L := by
  obtain ⟨D, h1, h2⟩ := h
  exact ⟨D, ownsMap_same h1 hb, h2⟩
theorem SetM.new (w : World) : SetM (w.alloc (.map #[] 0)) w.heap.size [] :=
  ⟨.map [], World.ownsMap_made _ _ _ _, fun x => rfl, rfl⟩
theorem SetM.put {w' : World} {M n : Nat} {L : List Int} {D : DataW Unit} {x : Int} (h2 : ∀ x, Maps.has D (.int .i64 x) = L.contains x) (h3 : Maps.size D = L.length) (ht : Tidy D) (hx : (Lit.int .i64 x).wf = true) (hn : x ∉ L)
    (h : w'.ownsMap Try.prog 3 unitElem M n (D.put (.int .i64 x) (.agg []))) : SetM w' M (L ++ [x]) := by
  have hk : WideAt.IsKeyLit (Lit.int .i64 x) := by simp [WideAt.IsKeyLit]
  have hs : Maps.size (D.put (.int .i64 x) (.agg [] : DataW Unit)) = (L ++ [x]).length := by
    rw [size_put ht, h2, List.contains_eq_mem, decide_eq_false hn]
    simp [h3]
  refine ⟨_, by rw [← hs]; exact ownsMap_tight h, fun y => ?_, hs⟩
  by_cases e : y = x
  · subst e
    rw [has_put_same ht.isMap hk]
    simp
  · rw [has_put_other (by intro c; injection c with _ c; exact e c), h2]
    simp [e]
theorem SetM.del {w' : World} {M n : Nat} {L : List Int} {D : DataW Unit} {x : Int} (h2 : ∀ y, Maps.has D (.int .i64 y) = (x :: L).contains y) (h3 : Maps.size D = (x :: L).length) (ht : Tidy D) (hn : x ∉ L)
    (h : w'.ownsMap Try.prog 3 unitElem M n (D.del (.int .i64 x))) : SetM w' M L := by
  have hs : Maps.size (D.del (.int .i64 x)) = L.length := by
    have := size_del (k := Lit.int .i64 x) ht
    rw [h2, h3] at this
    simpa using this
  refine ⟨_, by rw [← hs]; exact ownsMap_tight h, fun y => ?_, hs⟩
  by_cases e : y = x
  · subst e
    rw [has_del_same]
    simp [hn]
  · rw [has_del_other (by intro c; injection c with _ c; exact e c), h2]
    simp [e]
/-- The ring in block 'B': its size, eight places, which is the oldest, and the set in block 'M'. -/
structure Rg (w : World) (B M : Nat) (s : Int) (o : Nat) (ps : Nat → Int) (L : List Int) : Prop where
  lt : B < w.heap.size
  c0 : w.cell? ⟨B, 0, none⟩ = some (.int .i64 s)
  cp : ∀ i, i < 8 → w.cell? ⟨B, 1 + i, none⟩ = some (.int .i64 (ps i))
  c9 : w.cell? ⟨B, 9, none⟩ = some (.int .i64 (o : Int))
  c10 : w.cell? ⟨B, 10, none⟩ = some (.map (some M))
  free : ∀ i, w.frozen? ⟨B, i, none⟩ = false
  set : SetM w M L
  ne : B ≠ M
  ol : o < 8
  ls : (L.length : Int) ≤ s
  s8 : 1 ≤ s ∧ s ≤ 8
  at' : ∀ i, i < L.length → ps ((o + i) % 8) = L.getD i 0
  nd : L.Nodup
  pg : ∀ x ∈ L, 0 ≤ x ∧ x ≤ 1023
/-- All blocks but 'B' and 'M' lie as they lay. -/
structure Two (B M : Nat) (w w' : World) : Prop where
  os : w'.os = w.os
  tape : w'.tape = w.tape
  output : w'.output = w.output
  size : w.heap.size ≤ w'.heap.size
  block : ∀ k, k < w.heap.size → k ≠ B → k ≠ M → w'.heap[k]? = w.heap[k]?
theorem Two.refl (B M : Nat) (w : World) : Two B M w w := ⟨rfl, rfl, rfl, Nat.le_refl _, fun _ _ _ _ => rfl⟩
theorem Two.trans {B M : Nat} {a b c : World} (h : Two B M a b) (g : Two B M b c) : Two B M a c :=
  ⟨g.os.trans h.os, g.tape.trans h.tape, g.output.trans h.output, Nat.le_trans h.size g.size, fun k hk h1 h2 => (g.block k (Nat.lt_of_lt_of_le hk h.size) h1 h2).trans (h.block k hk h1 h2)⟩
theorem Below.two {B M : Nat} {a b : World} (h : Below a.heap.size a b) : Two B M a b := ⟨h.os, h.tape, h.output, h.size, fun k hk _ _ => h.block k hk⟩
theorem Two.below {B M X : Nat} {a b : World} (h : Two B M a b) (h1 : X ≤ a.heap.size) (h2 : X ≤ B) (h3 : X ≤ M) : Below X a b := ⟨h.os, h.tape, h.output, h.size, fun k hk => h.block k (by omega) (by omega) (by omega)⟩
theorem Two.set {B M : Nat} (w : World) (o : Nat) (v : Value) : Two B M w (w.setCell ⟨B, o, none⟩ v) := by
  have hb' : Below B w (w.setCell ⟨B, o, none⟩ v) := (Below.refl _ _).setCell (p := ⟨B, o, none⟩) (Nat.le_refl _) v
  exact ⟨hb'.os, hb'.tape, hb'.output, hb'.size, fun k hk h1 _ => Below.heap_setCell w ⟨B, o, none⟩ v k (fun e => h1 e)⟩
theorem Two.turned {B M : Nat} {w w' : World} (h : w.mapTurned w' M) : Two B M w w' := by
  have g := h.grown
  exact ⟨g.os, g.tape, g.output, g.size, fun k hk _ h2 => g.block k hk (fun e => h2 (Option.some.inj e))⟩
theorem Rg.same {w w' : World} {B M : Nat} {s : Int} {o : Nat} {ps : Nat → Int} {L : List Int} (h : Rg w B M s o ps L) (hsz : w.heap.size ≤ w'.heap.size) (hB : w'.heap[B]? = w.heap[B]?) (hM : w'.heap[M]? = w.heap[M]?) : Rg w' B M s o ps L :=
  ⟨Nat.lt_of_lt_of_le h.lt hsz, (World.cell?_of_block (a := ⟨B, 0, none⟩) hB).trans h.c0, fun i hi => (World.cell?_of_block (a := ⟨B, 1 + i, none⟩) hB).trans (h.cp i hi), (World.cell?_of_block (a := ⟨B, 9, none⟩) hB).trans h.c9, (World.cell?_of_block (a := ⟨B, 10, none⟩) hB).trans h.c10, fun i => (World.frozen?_of_block (a := ⟨B, i, none⟩) hB).trans (h.free i), h.set.same hM, h.ne, h.ol, h.ls, h.s8, h.at', h.nd, h.pg⟩
theorem Rg.below {w w' : World} {B M : Nat} {s : Int} {o : Nat} {ps : Nat → Int} {L : List Int} (h : Rg w B M s o ps L) (hb : Below w.heap.size w w') : Rg w' B M s o ps L :=
  h.same hb.size (hb.block B h.lt) (hb.block M h.set.lt)
/-- The set has turned; the ring's own block lies as it lay. -/
theorem turned_block {w w' : World} {M B : Nat} (h : w.mapTurned w' M) (hB : B < w.heap.size) (hne : B ≠ M) : w'.heap[B]? = w.heap[B]? := h.grown.block B hB (fun e => hne (Option.some.inj e))
theorem drop_at {o : Nat} {ps : Nat → Int} {x : Int} {L : List Int} (h : ∀ i, i < (x :: L).length → ps ((o + i) % 8) = (x :: L).getD i 0) : ∀ i, i < L.length → ps (((o + 1) % 8 + i) % 8) = L.getD i 0 := fun i hi => by
  have := h (i + 1) (by simp; omega)
  rw [show ((o + 1) % 8 + i) % 8 = (o + (i + 1)) % 8 by omega, this]
  simp
theorem add_at {o : Nat} {ps : Nat → Int} {x : Int} {L : List Int} (h : ∀ i, i < L.length → ps ((o + i) % 8) = L.getD i 0) (hl : L.length < 8) : ∀ i, i < (L ++ [x]).length → (fun j => if j = (o + L.length) % 8 then x else ps j) ((o + i) % 8) = (L ++ [x]).getD i 0 := fun i hi => by
  simp only [List.length_append, List.length_cons, List.length_nil] at hi
  by_cases e : i = L.length
  · subst e; simp [List.getD]
  · have hne : ¬ (o + i) % 8 = (o + L.length) % 8 := by omega
    have hlt : i < L.length := by omega
    simp only [hne, if_false]
    rw [h i hlt]
    simp [List.getD, hlt, List.getElem?_append_left hlt]
end Go.Proofs.Ytdjfijkgmeapdaa
