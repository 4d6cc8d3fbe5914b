
/-
  A use of a table of pages: the specification's own function. Conditions: the table is right.
-/
import Derived.Test.YtdjfijkgmeapdaaProg
import Derived.Test.YtdjfijkgmeapdaaApl
import Derived.Test.YtdjfijkgmeapdaaRgu
import Derived.Test.YtdjfijkgmeapdaaTho
namespace Go.Proofs.Ytdjfijkgmeapdaa
open Go.ChangeShapes Go.WideShapes Go.ChangeAt Go.RowKit Go.Deep
set_option linter.unusedVariables false

theorem Bk.grownNe {w w' : World} {b : Nat} {cs : Array Value} {row : Option Nat} (h : Bk w b cs) (hg : w.grownBy w' row) (hne : row ≠ some b) : Bk w' b cs := by
  have hk := hg.block b h.lt (fun e => hne e.symm)
  exact ⟨Nat.lt_of_lt_of_le h.lt hg.size, fun i v e => (World.cell?_of_block (a := ⟨b, i, none⟩) hk).trans (h.cell i v e), fun i => (World.frozen?_of_block (a := ⟨b, i, none⟩) hk).trans (h.free i)⟩
/-- What lies behind the copy of the pages: the table as it came, the answer's room, the copy. -/
structure UT (w W : World) (Q : Nat) (s : Int) (a : Option Addr) (n cap : Nat) (v : Value) (zs : List Int) : Prop where
  bel : Below w.heap.size w W
  k0 : Bk W w.heap.size #[.int .i64 s, .slice a n cap]
  kr : Bk W (w.heap.size + 1) #[.int .i64 0, .slice none 0 0]
  kq : Bk W Q #[.int .i64 s, v]
  own : OwnL W (w.heap.size + 2) v zs
  q2 : w.heap.size + 2 ≤ Q
  qne : v.ownBlock ≠ some Q
  vn : v ≠ .slice none 0 0
theorem al1 {w : World} {p : Addr} {v : Value} (o : Obj) (h : w.cell? p = some v) : (w.alloc o).cell? p = some v := kept_cell ((Below.refl _ _).alloc (Nat.le_refl _) _) h
theorem al2 {w : World} {p : Addr} {v : Value} (o o' : Obj) (h : w.cell? p = some v) : ((w.alloc o).alloc o').cell? p = some v := al1 o' (al1 o h)
theorem st2 {w : World} {b c i j k : Nat} {v u u' : Value} (hne : b ≠ c) (h : w.cell? ⟨b, i, none⟩ = some v) : ((w.setCell ⟨c, j, none⟩ u).setCell ⟨c, k, none⟩ u').cell? ⟨b, i, none⟩ = some v := by
  rw [World.cell?_setCell_other _ _ _ _ (by intro e; injection e with e1 e2 e3; exact hne e1.symm), World.cell?_setCell_other _ _ _ _ (by intro e; injection e with e1 e2 e3; exact hne e1.symm)]
  exact h
/-- The table and the answer's room, ahead of the copy. -/
structure UW (w W : World) (s : Int) (a : Option Addr) (n cap : Nat) : Prop where
  bel : Below w.heap.size w W
  sz : W.heap.size = w.heap.size + 2
  k0 : Bk W w.heap.size #[.int .i64 s, .slice a n cap]
  kr : Bk W (w.heap.size + 1) #[.int .i64 0, .slice none 0 0]
theorem ut_one {w W W1 w9 : World} {s : Int} {a : Option Addr} {n cap : Nat} {v : Value} {zs : List Int} (h : UW w W s a n cap) (h1 : Below W.heap.size W W1) (hsz : W1.heap.size = W.heap.size + 1) (ho : OwnL w9 (w.heap.size + 2) v zs) (hg : W1.grownBy w9 (some W.heap.size)) (hvn : v ≠ .slice none 0 0) (hb : v.ownBlock = some W.heap.size ∨ v.ownBlock = some W1.heap.size) (T : TypeId) :
    UT w (w9.alloc (.cells #[.int .i64 s, v] T)) w9.heap.size s a n cap v zs ∧ w9.cell? ⟨w.heap.size, 0, none⟩ = some (.int .i64 s) ∧ w9.cell? ⟨w.heap.size, 1, none⟩ = some (.slice a n cap) := by
  have hs := h.sz
  have h9 := hg.size
  have g0 := (h.k0.below h1).grownNe hg (fun e => by injection e with e; omega)
  have gr := (h.kr.below h1).grownNe hg (fun e => by injection e with e; omega)
  have hb9 : Below w.heap.size w w9 := Below.grown (h.bel.trans (h1.mono h.bel.size)) hg (by omega) (fun g e => by injection e with e; omega)
  have hlt : ∀ g, v.ownBlock = some g → g < w9.heap.size := fun g e => by
    rcases ho.2 with ⟨h0, _⟩ | ⟨g', cap', cur, rfl, _, hg', _⟩
    · exact absurd h0 hvn
    · simp only [Value.ownBlock, Option.some.injEq] at e
      subst e
      rcases Nat.lt_or_ge g' w9.heap.size with hlt | hge
      · exact hlt
      · rw [Array.getElem?_eq_none hge] at hg'; cases hg'
  refine ⟨⟨hb9.alloc hb9.size _, g0.alloc _, gr.alloc _, Bk.new _ _ T _ rfl, OwnL.below ho ((Below.refl _ _).alloc (Nat.le_refl _) _), by omega, fun e => by have := hlt _ e; omega, hvn⟩, g0.cell 0 _ rfl, g0.cell 1 _ rfl⟩
theorem ut_two {w W W1 w9 : World} {s : Int} {a : Option Addr} {n cap E Q : Nat} {v : Value} {zs : List Int} (h : UW w W s a n cap) (h1 : Below W.heap.size W W1) (hsz : W1.heap.size = W.heap.size + 2) (hE : E = W.heap.size ∨ E = W.heap.size + 1) (hQ : Q = W.heap.size ∨ Q = W.heap.size + 1) (hEQ : E ≠ Q) (kq : Bk W1 Q #[.int .i64 0, .slice none 0 0])
    (ho : OwnL w9 (w.heap.size + 2) v zs) (hg : W1.grownBy w9 (some E)) (hvn : v ≠ .slice none 0 0) (hb : v.ownBlock = some E ∨ v.ownBlock = some W1.heap.size) :
    UT w ((w9.setCell ⟨Q, 0, none⟩ (.int .i64 s)).setCell ⟨Q, 1, none⟩ v) Q s a n cap v zs ∧ w9.cell? ⟨w.heap.size, 0, none⟩ = some (.int .i64 s) ∧ w9.cell? ⟨w.heap.size, 1, none⟩ = some (.slice a n cap) ∧ Bk w9 Q #[.int .i64 0, .slice none 0 0] ∧ w.heap.size ≠ Q := by
  have hs := h.sz
  have h9 := hg.size
  have g0 := (h.k0.below h1).grownNe hg (fun e => by injection e with e; omega)
  have gr := (h.kr.below h1).grownNe hg (fun e => by injection e with e; omega)
  have gq := kq.grownNe hg (fun e => by injection e with e; omega)
  have hb9 : Below w.heap.size w w9 := Below.grown (h.bel.trans (h1.mono h.bel.size)) hg (by omega) (fun g e => by injection e with e; omega)
  have hne : v.ownBlock ≠ some Q := fun e => by rcases hb with c | c <;> rw [c] at e <;> injection e with e <;> omega
  have hown : OwnL ((w9.setCell ⟨Q, 0, none⟩ (.int .i64 s)).setCell ⟨Q, 1, none⟩ v) (w.heap.size + 2) v zs := by
    refine ⟨ho.1, ?_⟩
    rcases ho.2 with ⟨h0, _⟩ | ⟨g', cap', cur, rfl, hbs, hg', rest⟩
    · exact absurd h0 hvn
    · have hgq : g' ≠ Q := fun e => hne (by rw [e]; rfl)
      exact .inr ⟨g', cap', cur, rfl, hbs, by rw [Below.heap_setCell _ _ _ _ hgq, Below.heap_setCell _ _ _ _ hgq]; exact hg', rest⟩
  refine ⟨⟨(hb9.setCell (p := ⟨Q, 0, none⟩) (by simp; omega) _).setCell (p := ⟨Q, 1, none⟩) (by simp; omega) _, (g0.other Q 0 _ (by omega)).other Q 1 _ (by omega), (gr.other Q 0 _ (by omega)).other Q 1 _ (by omega), (gq.set 0 _ (by simp) rfl).set 1 _ (by simp) rfl, hown, by omega, hne, hvn⟩, g0.cell 0 _ rfl, g0.cell 1 _ rfl, gq, by omega⟩
theorem UT.fin {w X : World} {Q : Nat} {s : Int} {a : Option Addr} {n cap : Nat} {v : Value} {zs : List Int} (h : UT w X Q s a n cap v zs) :
    Below w.heap.size w ((X.setCell ⟨w.heap.size + 1, 0, none⟩ (.int .i64 s)).setCell ⟨w.heap.size + 1, 1, none⟩ v) ∧ OwnL ((X.setCell ⟨w.heap.size + 1, 0, none⟩ (.int .i64 s)).setCell ⟨w.heap.size + 1, 1, none⟩ v) w.heap.size v zs ∧
    Bk ((X.setCell ⟨w.heap.size + 1, 0, none⟩ (.int .i64 s)).setCell ⟨w.heap.size + 1, 1, none⟩ v) (w.heap.size + 1) #[.int .i64 s, v] ∧ Bk (X.setCell ⟨w.heap.size + 1, 0, none⟩ (.int .i64 s)) (w.heap.size + 1) #[.int .i64 s, .slice none 0 0] :=
  ⟨(h.bel.setCell (p := ⟨w.heap.size + 1, 0, none⟩) (by simp) _).setCell (p := ⟨w.heap.size + 1, 1, none⟩) (by simp) _,
   OwnL.low (ownsRow_betw h.own (((Betw.refl (w.heap.size + 1) (w.heap.size + 2) X).setCell (p := ⟨w.heap.size + 1, 0, none⟩) (by simp) (by simp) _).setCell (p := ⟨w.heap.size + 1, 1, none⟩) (by simp) (by simp) _) (by omega)) (by omega),
   (h.kr.set 0 _ (by simp) rfl).set 1 _ (by simp) rfl, h.kr.set 0 _ (by simp) rfl⟩
theorem UT.drew {w X : World} {Q : Nat} {s : Int} {a : Option Addr} {n cap : Nat} {v : Value} {zs : List Int} (h : UT w X Q s a n cap v zs) : UT w X.drew Q s a n cap v zs :=
  ⟨h.bel.drew, h.k0.below (Below.refl _ _).drew, h.kr.below (Below.refl _ _).drew, h.kq.below (Below.refl _ _).drew, OwnL.below h.own (Below.refl _ _).drew, h.q2, h.qne, h.vn⟩
theorem UT.step {w X X1 w' : World} {Q : Nat} {s : Int} {a : Option Addr} {n cap : Nat} {v v' : Value} {zs zs' : List Int} {row : Option Nat} (h : UT w X Q s a n cap v zs) (h1 : Below X.heap.size X X1) (ho : OwnL w' (w.heap.size + 2) v' zs') (hg : X1.grownBy w' row)
    (hrow : row = v.ownBlock ∨ ∃ g, row = some g ∧ X.heap.size ≤ g) (hv' : v' ≠ .slice none 0 0) (hb : v'.ownBlock = row ∨ v'.ownBlock = some X1.heap.size) :
    UT w (w'.setCell ⟨Q, 1, none⟩ v') Q s a n cap v' zs' ∧ Bk w' Q #[.int .i64 s, v] := by
  have hX2 : w.heap.size + 2 ≤ X.heap.size := by have := h.kr.lt; have := h.kq.lt; have := h.q2; omega
  have hlow : ∀ g, row = some g → w.heap.size + 2 ≤ g := fun g e => by
    rcases hrow with c | ⟨g', c, hle⟩
    · exact own_low h.own g (by rw [← c]; exact e)
    · rw [c] at e; injection e with e; omega
  have hQ := h.kq.lt
  have hq2 := h.q2
  have hrQ : row ≠ some Q := fun e => by
    rcases hrow with c | ⟨g', c, hle⟩
    · exact h.qne (by rw [← c]; exact e)
    · rw [c] at e; injection e with e; omega
  have hne : v'.ownBlock ≠ some Q := fun e => by
    rcases hb with c | c
    · exact hrQ (by rw [← c]; exact e)
    · rw [c] at e; injection e with e; have := h1.size; omega
  have g0 := (h.k0.below h1).grownNe hg (fun e => by have := hlow _ e; omega)
  have gr := (h.kr.below h1).grownNe hg (fun e => by have := hlow _ e; omega)
  have gq := (h.kq.below h1).grownNe hg hrQ
  have hb9 : Below w.heap.size w w' := Below.grown (h.bel.trans (h1.mono h.bel.size)) hg (by have := h.bel.size; have := h1.size; omega) (fun g e => by have := hlow g e; omega)
  have hown : OwnL (w'.setCell ⟨Q, 1, none⟩ v') (w.heap.size + 2) v' zs' := by
    refine ⟨ho.1, ?_⟩
    rcases ho.2 with ⟨h0, _⟩ | ⟨g', cap', cur, rfl, hbs, hg', rest⟩
    · exact absurd h0 hv'
    · have hgq : g' ≠ Q := fun e => hne (by rw [e]; rfl)
      exact .inr ⟨g', cap', cur, rfl, hbs, by rw [Below.heap_setCell _ _ _ _ hgq]; exact hg', rest⟩
  exact ⟨⟨hb9.setCell (p := ⟨Q, 1, none⟩) (by simp; omega) _, g0.other Q 1 _ (by omega), gr.other Q 1 _ (by omega), gq.set 1 _ (by simp) rfl, hown, hq2, hne, hv'⟩, gq⟩
theorem own_empty {w Y : World} {Q : Nat} {s : Int} {a : Option Addr} {n cap : Nat} {v u : Value} {zs : List Int} {q : Addr} (h : UT w (Y.setCell q u) Q s a n cap v zs) : OwnL ((Y.setCell q u).alloc (.cells #[] 3)) (w.heap.size + 2) (.slice (some ⟨Y.heap.size, 0, none⟩) 0 0) [] :=
  OwnL.low (OwnL.new _ Y.heap.size (by simp)) (by have := h.q2; have := h.kq.lt; simp at this; omega)
theorem size_empty {w Y : World} {Q : Nat} {s : Int} {a : Option Addr} {n cap : Nat} {v : Value} {zs : List Int} (h : UT w Y Q s a n cap v zs) : w.heap.size + 2 ≤ (Y.alloc (.cells #[] 3)).heap.size := by
  have := h.q2; have := h.kq.lt; simp; omega
theorem seg_tail {w Y : World} {Q g l c : Nat} {s : Int} {a : Option Addr} {n cap : Nat} {zs : List Int} (h : UT w Y Q s a n cap (.slice (some ⟨g, 0, none⟩) l c) zs) : Seg .i64 (Y.alloc (.cells #[] 3)) (some ⟨g, 1, none⟩) (zs.drop 1) := by
  obtain ⟨a', c', e, hs⟩ := OwnL.seg h.own
  injection e with e1 e2 e3
  subst e1
  intro h0
  simp only [List.length_drop] at h0
  obtain ⟨b, off, e, hlt, hc⟩ := hs (by omega)
  injection e with e
  injection e with e1 e2 e3
  subst e1 e2
  refine ⟨g, 1, rfl, by simp; omega, fun i hi => ?_⟩
  simp only [List.length_drop] at hi
  have := al1 (.cells #[] 3) (hc (i + 1) (by omega))
  rw [show 0 + (i + 1) = 1 + i by omega] at this
  rw [this]
  simp [List.getD]
set_option maxHeartbeats 2000000 in
set_option maxRecDepth 100000 in
theorem spec_tuse (s : Int) (m p : Nat) (a : Option Addr) (cap n : Nat) (zs : List Int) (w : World) (hs : Seg .i64 w a zs) (hl : zs.length = n) (hns : (n : Int) ≤ s) (h8 : 1 ≤ s ∧ s ≤ 8) (hm : m ≤ 65535) (hp : m / 64 = p) :
    Calls Try.prog 25 #[tlb s (.slice a n cap), .int .i64 (m : Int)] w fun e w' => ∃ v, e = .returned (.tuple #[tlb s v, .bool (zs.contains (p : Int))]) ∧ Below w.heap.size w w' ∧ OwnL w' w.heap.size v (useU s zs (p : Int)) := by
  have hdiv : (m : Int) / 64 = (p : Int) := by rw [← hp]; omega
  have HP : Hid _ := hp
  have HL : Hid _ := hl
  have HS0 : Hid (Seg .i64 w a zs) := hs
  have hn8 : n ≤ 8 := by omega
  obtain ⟨W, HW⟩ : ∃ W, Hid (W = (w.alloc (.cells #[.int .i64 s, .slice a n cap] 30)).alloc (.cells #[.int .i64 0, .slice none 0 0] 30)) := ⟨_, rfl⟩
  have HU0 : Hid (UW w W s a n cap) := by
    rw [HW.out]
    exact ⟨((Below.refl _ _).alloc (Nat.le_refl _) _).alloc (by simp) _, by simp, (Bk.new w _ 30 _ rfl).alloc _, Bk.new _ _ 30 _ (by simp)⟩
  have hWs : Hid (w.heap.size + 2 ≤ W.heap.size) := by have := HU0.out.sz; show _ ≤ _; omega
  have c0 := HU0.out.k0.cell 0 _ rfl
  have c1 := HU0.out.k0.cell 1 _ rfl
  have HB1 : Hid (Below W.heap.size W (W.alloc (.cells #[] 3))) := (Below.refl _ _).alloc (Nat.le_refl _) _
  have HB2 : Hid (Below W.heap.size W ((W.alloc (.cells #[] 3)).alloc (.cells #[.int .i64 0, .slice none 0 0] 30))) := HB1.out.alloc HB1.out.size _
  have HB3 : Hid (Below W.heap.size W ((W.alloc (.cells #[.int .i64 0, .slice none 0 0] 30)).alloc (.cells #[] 3))) := ((Below.refl _ _).alloc (Nat.le_refl _) _).alloc (by simp) _
  have HO1 : Hid (OwnL (W.alloc (.cells #[] 3)) (w.heap.size + 2) (.slice (some ⟨W.heap.size, 0, none⟩) 0 0) []) := OwnL.low (OwnL.new W W.heap.size rfl) hWs.out
  have HO2 : Hid (OwnL ((W.alloc (.cells #[] 3)).alloc (.cells #[.int .i64 0, .slice none 0 0] 30)) (w.heap.size + 2) (.slice (some ⟨W.heap.size, 0, none⟩) 0 0) []) := OwnL.below HO1.out ((Below.refl _ _).alloc (Nat.le_refl _) _)
  have HO3 : Hid (OwnL ((W.alloc (.cells #[.int .i64 0, .slice none 0 0] 30)).alloc (.cells #[] 3)) (w.heap.size + 2) (.slice (some ⟨W.heap.size + 1, 0, none⟩) 0 0) []) := OwnL.low (OwnL.new _ (W.heap.size + 1) (by simp)) (by have := hWs.out; omega)
  have HSW : Hid (Seg .i64 W a zs) := Seg.below HS0.out HU0.out.bel
  have HQ2 : Hid (Bk ((W.alloc (.cells #[] 3)).alloc (.cells #[.int .i64 0, .slice none 0 0] 30)) (W.heap.size + 1) #[.int .i64 0, .slice none 0 0]) := Bk.new _ _ 30 _ (by simp)
  have HQ3 : Hid (Bk ((W.alloc (.cells #[.int .i64 0, .slice none 0 0] 30)).alloc (.cells #[] 3)) W.heap.size #[.int .i64 0, .slice none 0 0]) := (Bk.new _ _ 30 _ rfl).alloc _
  have HS1 : Hid (Seg .i64 (W.alloc (.cells #[] 3)) a zs) := Seg.below HSW.out HB1.out
  have HS2 : Hid (Seg .i64 ((W.alloc (.cells #[] 3)).alloc (.cells #[.int .i64 0, .slice none 0 0] 30)) a zs) := Seg.below HSW.out HB2.out
  have HS3 : Hid (Seg .i64 ((W.alloc (.cells #[.int .i64 0, .slice none 0 0] 30)).alloc (.cells #[] 3)) a zs) := Seg.below HSW.out HB3.out
  have HN : Hid (([] : List Int).length + zs.length ≤ 1048576) := by have := HL.out; show _ ≤ _; simp; omega
  have HZ1 : Hid (w.heap.size + 2 ≤ (W.alloc (.cells #[] 3)).heap.size) := by have := hWs.out; show _ ≤ _; simp; omega
  have HZ2 : Hid (w.heap.size + 2 ≤ ((W.alloc (.cells #[] 3)).alloc (.cells #[.int .i64 0, .slice none 0 0] 30)).heap.size) := by have := hWs.out; show _ ≤ _; simp; omega
  have HZ3 : Hid (w.heap.size + 2 ≤ ((W.alloc (.cells #[.int .i64 0, .slice none 0 0] 30)).alloc (.cells #[] 3)).heap.size) := by have := hWs.out; show _ ≤ _; simp; omega
  have HV : Hid (∀ g, Value.slice (some ⟨g, 0, none⟩) 0 0 ≠ .slice none 0 0) := fun g e => by cases e
  have HN0 : Hid (([] : List Int).length + n = n) := by show _ = _; simp
  have HV9 : Hid (∀ g c, Value.slice (some ⟨g, 0, none⟩) n c ≠ .slice none 0 0) := fun g c e => by cases e
  clear hs hl hp
  obtain ⟨qb, HQB⟩ : ∃ qb, Hid (zs.contains (p : Int) = qb) := ⟨_, rfl⟩
  have HUU : Hid (useU s zs (p : Int) = if qb = true then zs else (if (n : Int) = s then zs.drop 1 else zs) ++ [(p : Int)]) := by
    show _ = _
    unfold useU pushU
    rw [← HQB.out, HL.out]
    simp only [List.contains_iff_mem]
  rw [HQB.out]
  go_enter Try.func25, Try.ntmps25
  go_wp2
  rw [← HW.out]
  go_region_held_law (fun w' => w'.cell? ⟨w.heap.size, 0, none⟩ = some (.int .i64 s) ∧ w'.cell? ⟨w.heap.size, 1, none⟩ = some (.slice a n cap)) (first | exact ⟨c0, c1⟩ | exact ⟨al1 _ c0, al1 _ c1⟩ | exact ⟨al2 _ _ c0, al2 _ _ c1⟩ | exact ⟨st2 HX.out.2.2.2.2 c0, st2 HX.out.2.2.2.2 c1⟩)
    (first
      | (refine step_append_shaped _ rfl (.tmp 12) (.tmp 14) 24 rfl Try.underlying24 (w.heap.size + 2) (.slice (some ⟨W.heap.size, 0, none⟩) 0 0) [] zs a n cap rfl rfl HL.out HO1.out HS1.out HN.out HZ1.out (HV.out _) (some 15) rfl n HN0.out ?_; intro g9 cp9 w9 hown hgrow hcp hob; have HCP : Hid _ := hcp; have HX : Hid _ := ut_one HU0.out HB1.out.drew (by simp) hown hgrow (HV9.out _ _) hob 30; replace c0 := HX.out.2.1; replace c1 := HX.out.2.2; clear hown hgrow hcp hob)
      | (refine step_append_shaped _ rfl (.tmp 12) (.tmp 14) 24 rfl Try.underlying24 (w.heap.size + 2) (.slice (some ⟨W.heap.size, 0, none⟩) 0 0) [] zs a n cap rfl rfl HL.out HO2.out HS2.out HN.out HZ2.out (HV.out _) (some 15) rfl n HN0.out ?_; intro g9 cp9 w9 hown hgrow hcp hob; have HCP : Hid _ := hcp; have HX : Hid _ := ut_two HU0.out HB2.out.drew (by simp) (.inl rfl) (.inr rfl) (by omega) (HQ2.out.below (Below.refl _ _).drew) hown hgrow (HV9.out _ _) hob; replace c0 := HX.out.2.1; replace c1 := HX.out.2.2.1; have z0 := HX.out.2.2.2.1.cell 0 _ rfl; have z1 := HX.out.2.2.2.1.cell 1 _ rfl; have zf := HX.out.2.2.2.1.free; clear hown hgrow hcp hob)
      | (refine step_append_shaped _ rfl (.tmp 12) (.tmp 14) 24 rfl Try.underlying24 (w.heap.size + 2) (.slice (some ⟨W.heap.size + 1, 0, none⟩) 0 0) [] zs a n cap rfl rfl HL.out HO3.out HS3.out HN.out HZ3.out (HV.out _) (some 15) rfl n HN0.out ?_; intro g9 cp9 w9 hown hgrow hcp hob; have HCP : Hid _ := hcp; have HX : Hid _ := ut_two HU0.out HB3.out.drew (by simp) (.inr rfl) (.inl rfl) (by omega) (HQ3.out.below (Below.refl _ _).drew) hown hgrow (HV9.out _ _) hob; replace c0 := HX.out.2.1; replace c1 := HX.out.2.2.1; have z0 := HX.out.2.2.2.1.cell 0 _ rfl; have z1 := HX.out.2.2.2.1.cell 1 _ rfl; have zf := HX.out.2.2.2.1.free; clear hown hgrow hcp hob))
  · have HU : Hid (UT w _ _ s a n cap (.slice (some ⟨g9, 0, none⟩) n cp9) zs) := HX.out.1
    clear HX c0 c1
    generalize w9.alloc (.cells #[.int .i64 s, .slice (some ⟨g9, 0, none⟩) n cp9] 30) = X at HU ⊢
    generalize w9.heap.size = Q at HU ⊢
    have c1 := HU.out.k0.cell 1 _ rfl
    go_wp2_with fail
    refine Calls.mono (spec_has (p : Int) a cap n zs _ (Seg.below HS0.out HU.out.bel) HL.out (by omega)) ?_
    rintro u w2 ⟨rfl, rfl⟩
    rw [HQB.out]
    clear c1
    have q0 := HU.out.kq.cell 0 _ rfl
    have q1 := HU.out.kq.cell 1 _ rfl
    have qf := HU.out.kq.free
    cases qb
    rotate_left
    · have F := HU.out.fin
      have r0 := HU.out.kr.cell 0 _ rfl
      have rf := HU.out.kr.free
      have r1 := F.2.2.2.cell 1 _ rfl
      have n0 := F.2.2.1.cell 0 _ rfl
      have n1 := F.2.2.1.cell 1 _ rfl
      have HZ : Hid _ := And.intro F.1 F.2.1
      clear F
      go_wp2
      refine bodyPost_ret (v := .tuple #[tlb s (.slice (some ⟨g9, 0, none⟩) n cp9), .bool true]) (by simp [results, Try.results25, go_sem, n0, n1]) rfl ⟨_, rfl, HZ.out.1, ?_⟩
      rw [HUU.out]
      exact HZ.out.2
    have hw2 : w.heap.size + 2 ≤ w2.heap.size := by have := HU.out.q2; have := HU.out.kq.lt; omega
    have hAl : Below w2.heap.size w2 (w2.alloc (.cells #[.int .i64 (p : Int)] 3)) := (Below.refl _ _).alloc (Nat.le_refl _) _
    have HAL : Hid _ := hAl
    have HOA : Hid (OwnL (w2.alloc (.cells #[.int .i64 (p : Int)] 3)) (w.heap.size + 2) (.slice (some ⟨g9, 0, none⟩) n cp9) zs) := OwnL.below HU.out.own hAl
    have HSA : Hid (Seg .i64 (w2.alloc (.cells #[.int .i64 (p : Int)] 3)) (some ⟨w2.heap.size, 0, none⟩) [(p : Int)]) := fun _ => ⟨w2.heap.size, 0, rfl, by simp, fun i hi => by
      have : i = 0 := by simp at hi; omega
      subst this
      simp⟩
    have HLA : Hid (zs.length + [(p : Int)].length ≤ 1048576) := by have := HL.out; show _ ≤ _; simp; omega
    have HZA : Hid (w.heap.size + 2 ≤ (w2.alloc (.cells #[.int .i64 (p : Int)] 3)).heap.size) := by show _ ≤ _; simp; omega
    have HNA : Hid (zs.length + 1 = n + 1) := by show _ = _; rw [HL.out]
    have HVA : Hid (∀ g c, Value.slice (some ⟨g, 0, none⟩) (n + 1) c ≠ .slice none 0 0) := fun g c e => by cases e
    have q1a := kept_cell hAl q1
    clear hAl
    by_cases hlt : (n : Int) < s
    · have hcmp : ¬ (s < (n : Int) + 1) := by omega
      have hne : ¬ ((n : Int) = s) := by omega
      go_wp2_with (at_builtin; refine wpList_append_shaped _ rfl (.tmp 23) (.tmp 25) 24 rfl Try.underlying24 (w.heap.size + 2) (.slice (some ⟨g9, 0, none⟩) n cp9) zs [(p : Int)] (some ⟨w2.heap.size, 0, none⟩) 1 1 rfl rfl rfl HOA.out HSA.out HLA.out HZA.out (HV9.out _ _) (n + 1) HNA.out ?_; intro g10 cp10 w10 hown hgrow hcp hob; have HS2 : Hid _ := UT.step HU.out HAL.out hown hgrow (.inl rfl) (HVA.out _ _) hob; clear hown hgrow hob; have e1 := HS2.out.2.cell 1 _ rfl; have ef := HS2.out.2.free; have y1 := HS2.out.1.kq.cell 1 _ rfl; have y2 := HS2.out.1.kq.cell 0 _ rfl; have y0 := HS2.out.1.k0.cell 0 _ rfl; have F := HS2.out.1.fin; have r0 := HS2.out.1.kr.cell 0 _ rfl; have rf := HS2.out.1.kr.free; have r1 := F.2.2.2.cell 1 _ rfl; have n0 := F.2.2.1.cell 0 _ rfl; have n1 := F.2.2.1.cell 1 _ rfl; have HZ : Hid _ := And.intro F.1 F.2.1; clear F)
      refine bodyPost_ret (v := .tuple #[tlb s (.slice (some ⟨g10, 0, none⟩) (n + 1) cp10), .bool false]) (by simp [results, Try.results25, go_sem, n0, n1]) rfl ⟨_, rfl, HZ.out.1, ?_⟩
      rw [HUU.out, if_neg hne]
      exact HZ.out.2
    have HES : Hid ((n : Int) = s) := by show _ = _; omega
    have hcmp : s < (n : Int) + 1 := by omega
    have HDR : Hid ((zs ++ [(p : Int)]).drop 1 = zs.drop 1 ++ [(p : Int)]) := by have := HL.out; have := HES.out; exact List.drop_append_of_le_length (by omega)
    have HLD : Hid (((zs ++ [(p : Int)]).drop 1).length = n) := by have := HL.out; show _ = _; simp; omega
    have HLB : Hid (([] : List Int).length + ((zs ++ [(p : Int)]).drop 1).length ≤ 1048576) := by have := HLD.out; show _ ≤ _; simp only [List.length_nil]; omega
    go_wp2_with (at_builtin; first
      | (refine wpList_append_shaped _ rfl (.tmp 23) (.tmp 25) 24 rfl Try.underlying24 (w.heap.size + 2) (.slice (some ⟨g9, 0, none⟩) n cp9) zs [(p : Int)] (some ⟨w2.heap.size, 0, none⟩) 1 1 rfl rfl rfl HOA.out HSA.out HLA.out HZA.out (HV9.out _ _) (n + 1) HNA.out ?_; intro g10 cp10 w10 hown hgrow hcp hob; have HS2 : Hid _ := UT.step HU.out HAL.out hown hgrow (.inl rfl) (HVA.out _ _) hob; clear hown hgrow hob; have e1 := HS2.out.2.cell 1 _ rfl; have ef := HS2.out.2.free; have y1 := HS2.out.1.kq.cell 1 _ rfl; have y0 := HS2.out.1.k0.cell 0 _ rfl; have y1a := al1 (.cells #[] 3) y1; have hcp2 : cp10 ≠ 1 := by omega)
      | (refine wpList_append_shaped _ rfl (.tmp 34) (.tmp 37) 24 rfl Try.underlying24 (w.heap.size + 2) (.slice (some ⟨w10.heap.size, 0, none⟩) 0 0) [] ((zs ++ [(p : Int)]).drop 1) (some ⟨g10, 1, none⟩) n (cp10 - 1) rfl rfl HLD.out (own_empty HS2.out.1) (seg_tail HS2.out.1) HLB.out (size_empty HS2.out.1) (HV.out _) n HN0.out ?_; intro g11 cp11 w11 hown hgrow hcp11 hob; have HS3 : Hid _ := UT.step HS2.out.1 ((Below.refl _ _).alloc (Nat.le_refl _) _) hown hgrow (.inr ⟨w10.heap.size, rfl, by simp⟩) (HV9.out _ _) hob; clear hown hgrow hob y1 y0 y1a e1 ef; have e1 := HS3.out.2.cell 1 _ rfl; have ef := HS3.out.2.free; have y1 := HS3.out.1.kq.cell 1 _ rfl; have y2 := HS3.out.1.kq.cell 0 _ rfl; have F := HS3.out.1.fin; have r0 := HS3.out.1.kr.cell 0 _ rfl; have rf := HS3.out.1.kr.free; have r1 := F.2.2.2.cell 1 _ rfl; have n0 := F.2.2.1.cell 0 _ rfl; have n1 := F.2.2.1.cell 1 _ rfl; have HZ : Hid _ := And.intro F.1 F.2.1; clear F))
    refine bodyPost_ret (v := .tuple #[tlb s (.slice (some ⟨g11, 0, none⟩) n cp11), .bool false]) (by simp [results, Try.results25, go_sem, n0, n1]) rfl ⟨_, rfl, HZ.out.1, ?_⟩
    rw [HUU.out, if_pos HES.out]
    have h := HZ.out.2
    rw [List.nil_append, HDR.out] at h
    exact h
  · have HU : Hid (UT w _ _ s a n cap (.slice (some ⟨g9, 0, none⟩) n cp9) zs) := HX.out.1
    clear HX c0 c1 z0 z1 zf
    generalize W.heap.size + 1 = Q at HU ⊢
    generalize (w9.setCell ⟨Q, 0, none⟩ (.int .i64 s)).setCell ⟨Q, 1, none⟩ (.slice (some ⟨g9, 0, none⟩) n cp9) = X at HU ⊢
    have c1 := HU.out.k0.cell 1 _ rfl
    go_wp2_with fail
    refine Calls.mono (spec_has (p : Int) a cap n zs _ (Seg.below HS0.out HU.out.bel) HL.out (by omega)) ?_
    rintro u w2 ⟨rfl, rfl⟩
    rw [HQB.out]
    clear c1
    have q0 := HU.out.kq.cell 0 _ rfl
    have q1 := HU.out.kq.cell 1 _ rfl
    have qf := HU.out.kq.free
    cases qb
    rotate_left
    · have F := HU.out.fin
      have r0 := HU.out.kr.cell 0 _ rfl
      have rf := HU.out.kr.free
      have r1 := F.2.2.2.cell 1 _ rfl
      have n0 := F.2.2.1.cell 0 _ rfl
      have n1 := F.2.2.1.cell 1 _ rfl
      have HZ : Hid _ := And.intro F.1 F.2.1
      clear F
      go_wp2
      refine bodyPost_ret (v := .tuple #[tlb s (.slice (some ⟨g9, 0, none⟩) n cp9), .bool true]) (by simp [results, Try.results25, go_sem, n0, n1]) rfl ⟨_, rfl, HZ.out.1, ?_⟩
      rw [HUU.out]
      exact HZ.out.2
    have hw2 : w.heap.size + 2 ≤ w2.heap.size := by have := HU.out.q2; have := HU.out.kq.lt; omega
    have hAl : Below w2.heap.size w2 (w2.alloc (.cells #[.int .i64 (p : Int)] 3)) := (Below.refl _ _).alloc (Nat.le_refl _) _
    have HAL : Hid _ := hAl
    have HOA : Hid (OwnL (w2.alloc (.cells #[.int .i64 (p : Int)] 3)) (w.heap.size + 2) (.slice (some ⟨g9, 0, none⟩) n cp9) zs) := OwnL.below HU.out.own hAl
    have HSA : Hid (Seg .i64 (w2.alloc (.cells #[.int .i64 (p : Int)] 3)) (some ⟨w2.heap.size, 0, none⟩) [(p : Int)]) := fun _ => ⟨w2.heap.size, 0, rfl, by simp, fun i hi => by
      have : i = 0 := by simp at hi; omega
      subst this
      simp⟩
    have HLA : Hid (zs.length + [(p : Int)].length ≤ 1048576) := by have := HL.out; show _ ≤ _; simp; omega
    have HZA : Hid (w.heap.size + 2 ≤ (w2.alloc (.cells #[.int .i64 (p : Int)] 3)).heap.size) := by show _ ≤ _; simp; omega
    have HNA : Hid (zs.length + 1 = n + 1) := by show _ = _; rw [HL.out]
    have HVA : Hid (∀ g c, Value.slice (some ⟨g, 0, none⟩) (n + 1) c ≠ .slice none 0 0) := fun g c e => by cases e
    have q1a := kept_cell hAl q1
    clear hAl
    by_cases hlt : (n : Int) < s
    · have hcmp : ¬ (s < (n : Int) + 1) := by omega
      have hne : ¬ ((n : Int) = s) := by omega
      go_wp2_with (at_builtin; refine wpList_append_shaped _ rfl (.tmp 23) (.tmp 25) 24 rfl Try.underlying24 (w.heap.size + 2) (.slice (some ⟨g9, 0, none⟩) n cp9) zs [(p : Int)] (some ⟨w2.heap.size, 0, none⟩) 1 1 rfl rfl rfl HOA.out HSA.out HLA.out HZA.out (HV9.out _ _) (n + 1) HNA.out ?_; intro g10 cp10 w10 hown hgrow hcp hob; have HS2 : Hid _ := UT.step HU.out HAL.out hown hgrow (.inl rfl) (HVA.out _ _) hob; clear hown hgrow hob; have e1 := HS2.out.2.cell 1 _ rfl; have ef := HS2.out.2.free; have y1 := HS2.out.1.kq.cell 1 _ rfl; have y2 := HS2.out.1.kq.cell 0 _ rfl; have y0 := HS2.out.1.k0.cell 0 _ rfl; have F := HS2.out.1.fin; have r0 := HS2.out.1.kr.cell 0 _ rfl; have rf := HS2.out.1.kr.free; have r1 := F.2.2.2.cell 1 _ rfl; have n0 := F.2.2.1.cell 0 _ rfl; have n1 := F.2.2.1.cell 1 _ rfl; have HZ : Hid _ := And.intro F.1 F.2.1; clear F)
      refine bodyPost_ret (v := .tuple #[tlb s (.slice (some ⟨g10, 0, none⟩) (n + 1) cp10), .bool false]) (by simp [results, Try.results25, go_sem, n0, n1]) rfl ⟨_, rfl, HZ.out.1, ?_⟩
      rw [HUU.out, if_neg hne]
      exact HZ.out.2
    have HES : Hid ((n : Int) = s) := by show _ = _; omega
    have hcmp : s < (n : Int) + 1 := by omega
    have HDR : Hid ((zs ++ [(p : Int)]).drop 1 = zs.drop 1 ++ [(p : Int)]) := by have := HL.out; have := HES.out; exact List.drop_append_of_le_length (by omega)
    have HLD : Hid (((zs ++ [(p : Int)]).drop 1).length = n) := by have := HL.out; show _ = _; simp; omega
    have HLB : Hid (([] : List Int).length + ((zs ++ [(p : Int)]).drop 1).length ≤ 1048576) := by have := HLD.out; show _ ≤ _; simp only [List.length_nil]; omega
    go_wp2_with (at_builtin; first
      | (refine wpList_append_shaped _ rfl (.tmp 23) (.tmp 25) 24 rfl Try.underlying24 (w.heap.size + 2) (.slice (some ⟨g9, 0, none⟩) n cp9) zs [(p : Int)] (some ⟨w2.heap.size, 0, none⟩) 1 1 rfl rfl rfl HOA.out HSA.out HLA.out HZA.out (HV9.out _ _) (n + 1) HNA.out ?_; intro g10 cp10 w10 hown hgrow hcp hob; have HS2 : Hid _ := UT.step HU.out HAL.out hown hgrow (.inl rfl) (HVA.out _ _) hob; clear hown hgrow hob; have e1 := HS2.out.2.cell 1 _ rfl; have ef := HS2.out.2.free; have y1 := HS2.out.1.kq.cell 1 _ rfl; have y0 := HS2.out.1.k0.cell 0 _ rfl; have y1a := al1 (.cells #[] 3) y1; have hcp2 : cp10 ≠ 1 := by omega)
      | (refine wpList_append_shaped _ rfl (.tmp 34) (.tmp 37) 24 rfl Try.underlying24 (w.heap.size + 2) (.slice (some ⟨w10.heap.size, 0, none⟩) 0 0) [] ((zs ++ [(p : Int)]).drop 1) (some ⟨g10, 1, none⟩) n (cp10 - 1) rfl rfl HLD.out (own_empty HS2.out.1) (seg_tail HS2.out.1) HLB.out (size_empty HS2.out.1) (HV.out _) n HN0.out ?_; intro g11 cp11 w11 hown hgrow hcp11 hob; have HS3 : Hid _ := UT.step HS2.out.1 ((Below.refl _ _).alloc (Nat.le_refl _) _) hown hgrow (.inr ⟨w10.heap.size, rfl, by simp⟩) (HV9.out _ _) hob; clear hown hgrow hob y1 y0 y1a e1 ef; have e1 := HS3.out.2.cell 1 _ rfl; have ef := HS3.out.2.free; have y1 := HS3.out.1.kq.cell 1 _ rfl; have y2 := HS3.out.1.kq.cell 0 _ rfl; have F := HS3.out.1.fin; have r0 := HS3.out.1.kr.cell 0 _ rfl; have rf := HS3.out.1.kr.free; have r1 := F.2.2.2.cell 1 _ rfl; have n0 := F.2.2.1.cell 0 _ rfl; have n1 := F.2.2.1.cell 1 _ rfl; have HZ : Hid _ := And.intro F.1 F.2.1; clear F))
    refine bodyPost_ret (v := .tuple #[tlb s (.slice (some ⟨g11, 0, none⟩) n cp11), .bool false]) (by simp [results, Try.results25, go_sem, n0, n1]) rfl ⟨_, rfl, HZ.out.1, ?_⟩
    rw [HUU.out, if_pos HES.out]
    have h := HZ.out.2
    rw [List.nil_append, HDR.out] at h
    exact h
  · have HU : Hid (UT w _ _ s a n cap (.slice (some ⟨g9, 0, none⟩) n cp9) zs) := HX.out.1
    clear HX c0 c1 z0 z1 zf
    generalize W.heap.size = Q at HU ⊢
    generalize (w9.setCell ⟨Q, 0, none⟩ (.int .i64 s)).setCell ⟨Q, 1, none⟩ (.slice (some ⟨g9, 0, none⟩) n cp9) = X at HU ⊢
    have c1 := HU.out.k0.cell 1 _ rfl
    go_wp2_with fail
    refine Calls.mono (spec_has (p : Int) a cap n zs _ (Seg.below HS0.out HU.out.bel) HL.out (by omega)) ?_
    rintro u w2 ⟨rfl, rfl⟩
    rw [HQB.out]
    clear c1
    have q0 := HU.out.kq.cell 0 _ rfl
    have q1 := HU.out.kq.cell 1 _ rfl
    have qf := HU.out.kq.free
    cases qb
    rotate_left
    · have F := HU.out.fin
      have r0 := HU.out.kr.cell 0 _ rfl
      have rf := HU.out.kr.free
      have r1 := F.2.2.2.cell 1 _ rfl
      have n0 := F.2.2.1.cell 0 _ rfl
      have n1 := F.2.2.1.cell 1 _ rfl
      have HZ : Hid _ := And.intro F.1 F.2.1
      clear F
      go_wp2
      refine bodyPost_ret (v := .tuple #[tlb s (.slice (some ⟨g9, 0, none⟩) n cp9), .bool true]) (by simp [results, Try.results25, go_sem, n0, n1]) rfl ⟨_, rfl, HZ.out.1, ?_⟩
      rw [HUU.out]
      exact HZ.out.2
    have hw2 : w.heap.size + 2 ≤ w2.heap.size := by have := HU.out.q2; have := HU.out.kq.lt; omega
    have hAl : Below w2.heap.size w2 (w2.alloc (.cells #[.int .i64 (p : Int)] 3)) := (Below.refl _ _).alloc (Nat.le_refl _) _
    have HAL : Hid _ := hAl
    have HOA : Hid (OwnL (w2.alloc (.cells #[.int .i64 (p : Int)] 3)) (w.heap.size + 2) (.slice (some ⟨g9, 0, none⟩) n cp9) zs) := OwnL.below HU.out.own hAl
    have HSA : Hid (Seg .i64 (w2.alloc (.cells #[.int .i64 (p : Int)] 3)) (some ⟨w2.heap.size, 0, none⟩) [(p : Int)]) := fun _ => ⟨w2.heap.size, 0, rfl, by simp, fun i hi => by
      have : i = 0 := by simp at hi; omega
      subst this
      simp⟩
    have HLA : Hid (zs.length + [(p : Int)].length ≤ 1048576) := by have := HL.out; show _ ≤ _; simp; omega
    have HZA : Hid (w.heap.size + 2 ≤ (w2.alloc (.cells #[.int .i64 (p : Int)] 3)).heap.size) := by show _ ≤ _; simp; omega
    have HNA : Hid (zs.length + 1 = n + 1) := by show _ = _; rw [HL.out]
    have HVA : Hid (∀ g c, Value.slice (some ⟨g, 0, none⟩) (n + 1) c ≠ .slice none 0 0) := fun g c e => by cases e
    have q1a := kept_cell hAl q1
    clear hAl
    by_cases hlt : (n : Int) < s
    · have hcmp : ¬ (s < (n : Int) + 1) := by omega
      have hne : ¬ ((n : Int) = s) := by omega
      go_wp2_with (at_builtin; refine wpList_append_shaped _ rfl (.tmp 23) (.tmp 25) 24 rfl Try.underlying24 (w.heap.size + 2) (.slice (some ⟨g9, 0, none⟩) n cp9) zs [(p : Int)] (some ⟨w2.heap.size, 0, none⟩) 1 1 rfl rfl rfl HOA.out HSA.out HLA.out HZA.out (HV9.out _ _) (n + 1) HNA.out ?_; intro g10 cp10 w10 hown hgrow hcp hob; have HS2 : Hid _ := UT.step HU.out HAL.out hown hgrow (.inl rfl) (HVA.out _ _) hob; clear hown hgrow hob; have e1 := HS2.out.2.cell 1 _ rfl; have ef := HS2.out.2.free; have y1 := HS2.out.1.kq.cell 1 _ rfl; have y2 := HS2.out.1.kq.cell 0 _ rfl; have y0 := HS2.out.1.k0.cell 0 _ rfl; have F := HS2.out.1.fin; have r0 := HS2.out.1.kr.cell 0 _ rfl; have rf := HS2.out.1.kr.free; have r1 := F.2.2.2.cell 1 _ rfl; have n0 := F.2.2.1.cell 0 _ rfl; have n1 := F.2.2.1.cell 1 _ rfl; have HZ : Hid _ := And.intro F.1 F.2.1; clear F)
      refine bodyPost_ret (v := .tuple #[tlb s (.slice (some ⟨g10, 0, none⟩) (n + 1) cp10), .bool false]) (by simp [results, Try.results25, go_sem, n0, n1]) rfl ⟨_, rfl, HZ.out.1, ?_⟩
      rw [HUU.out, if_neg hne]
      exact HZ.out.2
    have HES : Hid ((n : Int) = s) := by show _ = _; omega
    have hcmp : s < (n : Int) + 1 := by omega
    have HDR : Hid ((zs ++ [(p : Int)]).drop 1 = zs.drop 1 ++ [(p : Int)]) := by have := HL.out; have := HES.out; exact List.drop_append_of_le_length (by omega)
    have HLD : Hid (((zs ++ [(p : Int)]).drop 1).length = n) := by have := HL.out; show _ = _; simp; omega
    have HLB : Hid (([] : List Int).length + ((zs ++ [(p : Int)]).drop 1).length ≤ 1048576) := by have := HLD.out; show _ ≤ _; simp only [List.length_nil]; omega
    go_wp2_with (at_builtin; first
      | (refine wpList_append_shaped _ rfl (.tmp 23) (.tmp 25) 24 rfl Try.underlying24 (w.heap.size + 2) (.slice (some ⟨g9, 0, none⟩) n cp9) zs [(p : Int)] (some ⟨w2.heap.size, 0, none⟩) 1 1 rfl rfl rfl HOA.out HSA.out HLA.out HZA.out (HV9.out _ _) (n + 1) HNA.out ?_; intro g10 cp10 w10 hown hgrow hcp hob; have HS2 : Hid _ := UT.step HU.out HAL.out hown hgrow (.inl rfl) (HVA.out _ _) hob; clear hown hgrow hob; have e1 := HS2.out.2.cell 1 _ rfl; have ef := HS2.out.2.free; have y1 := HS2.out.1.kq.cell 1 _ rfl; have y0 := HS2.out.1.k0.cell 0 _ rfl; have y1a := al1 (.cells #[] 3) y1; have hcp2 : cp10 ≠ 1 := by omega)
      | (refine wpList_append_shaped _ rfl (.tmp 34) (.tmp 37) 24 rfl Try.underlying24 (w.heap.size + 2) (.slice (some ⟨w10.heap.size, 0, none⟩) 0 0) [] ((zs ++ [(p : Int)]).drop 1) (some ⟨g10, 1, none⟩) n (cp10 - 1) rfl rfl HLD.out (own_empty HS2.out.1) (seg_tail HS2.out.1) HLB.out (size_empty HS2.out.1) (HV.out _) n HN0.out ?_; intro g11 cp11 w11 hown hgrow hcp11 hob; have HS3 : Hid _ := UT.step HS2.out.1 ((Below.refl _ _).alloc (Nat.le_refl _) _) hown hgrow (.inr ⟨w10.heap.size, rfl, by simp⟩) (HV9.out _ _) hob; clear hown hgrow hob y1 y0 y1a e1 ef; have e1 := HS3.out.2.cell 1 _ rfl; have ef := HS3.out.2.free; have y1 := HS3.out.1.kq.cell 1 _ rfl; have y2 := HS3.out.1.kq.cell 0 _ rfl; have F := HS3.out.1.fin; have r0 := HS3.out.1.kr.cell 0 _ rfl; have rf := HS3.out.1.kr.free; have r1 := F.2.2.2.cell 1 _ rfl; have n0 := F.2.2.1.cell 0 _ rfl; have n1 := F.2.2.1.cell 1 _ rfl; have HZ : Hid _ := And.intro F.1 F.2.1; clear F))
    refine bodyPost_ret (v := .tuple #[tlb s (.slice (some ⟨g11, 0, none⟩) n cp11), .bool false]) (by simp [results, Try.results25, go_sem, n0, n1]) rfl ⟨_, rfl, HZ.out.1, ?_⟩
    rw [HUU.out, if_pos HES.out]
    have h := HZ.out.2
    rw [List.nil_append, HDR.out] at h
    exact h
end Go.Proofs.Ytdjfijkgmeapdaa
