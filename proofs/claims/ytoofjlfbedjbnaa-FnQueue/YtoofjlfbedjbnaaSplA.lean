
/-
  The specification's ChanPlay: what the plain functions say, in memory of its own. Conditions: the ops read as pairs, at most 1048576 of them.
-/
import Derived.Test.YtoofjlfbedjbnaaRows
import Derived.Test.YtoofjlfbedjbnaaOnp
import Derived.Test.YtoofjlfbedjbnaaRcc
import Derived.Test.YtoofjlfbedjbnaaBcc
import Derived.Test.YtoofjlfbedjbnaaImp
import Derived.Deep.AppendLies
namespace Go.Proofs.Ytoofjlfbedjbnaa
open Go.ChangeShapes Go.WideShapes Go.ChangeAt Go.RowKit Go.Deep
set_option linter.unusedVariables false

/-- Words in a block that is none of those that may be written. -/
def SegQ (w : World) (P : Nat → Prop) (a : Option Addr) (zs : List Int) : Prop :=
  0 < zs.length → ∃ b off, a = some ⟨b, off, none⟩ ∧ b < w.heap.size ∧ ¬ P b ∧ ∀ i, i < zs.length → w.cell? ⟨b, off + i, none⟩ = some (.int .u32 (zs.getD i 0))
theorem SegQ.seg {w : World} {P : Nat → Prop} {a : Option Addr} {zs : List Int} (h : SegQ w P a zs) : Seg .u32 w a zs := fun h0 => by
  obtain ⟨b, off, e, hlt, _, hc⟩ := h h0
  exact ⟨b, off, e, hlt, hc⟩
theorem SegQ.nil (w : World) (P : Nat → Prop) (a : Option Addr) : SegQ w P a [] := fun h => absurd h (by simp)
theorem SegQ.keep {w w' : World} {P P' : Nat → Prop} {a : Option Addr} {zs : List Int} (h : SegQ w P a zs) (hsz : w.heap.size ≤ w'.heap.size) (hb : ∀ b, b < w.heap.size → ¬ P b → w'.heap[b]? = w.heap[b]?) (hp : ∀ b, b < w.heap.size → P' b → P b) : SegQ w' P' a zs := fun h0 => by
  obtain ⟨b, off, e, hlt, hn, hc⟩ := h h0
  exact ⟨b, off, e, by omega, fun g => hn (hp b hlt g), fun i hi => (World.cell?_of_block (a := ⟨b, off + i, none⟩) (hb b hlt hn)).trans (hc i hi)⟩
theorem OE.segq {w : World} {lo hi : Nat} {P : Nat → Prop} {a : Option Addr} {zs : List Int} (h : OE w lo hi a zs) (hp : ∀ b, P b → b < lo ∨ hi ≤ b) : SegQ w P a zs := fun h0 => by
  obtain ⟨R, hR⟩ := h
  obtain ⟨off, e, g1, g2, g3, g4, g5⟩ := hR h0
  exact ⟨R, off, e, g3, fun g => by have := hp R g; omega, g4⟩
def badB (bO bI bs : Nat) (v : Value) (b : Nat) : Prop := b = bO ∨ b = bI ∨ v.ownBlock = some b ∨ b = bs
/-- The specification's run in memory: its row, its two ends, what was told. -/
structure PS (w wr : World) (bO bI bs : Nat) (k f t d : Int) (s : Chs) (v : Value) (xs : List Cp) (a1 : Option Addr) (c1 : Nat) (a2 : Option Addr) (c2 : Nat) : Prop where
  gb : Below w.heap.size w wr
  rr : Bk wr w.heap.size (crow k f t d)
  ro : Bk wr bO (orow s.1 a1 s.2.1.length c1)
  ri : Bk wr bI (irow a2 s.2.2.length c2)
  l1 : SegQ wr (badB bO bI bs v) a1 s.2.1
  l2 : SegQ wr (badB bO bI bs v) a2 s.2.2
  cp : s.2.2.length ≤ c2
  ow : OwnP wr (w.heap.size + 1) v xs
  nv : v ≠ .slice none 0 0
  vO : v.ownBlock ≠ some bO
  vI : v.ownBlock ≠ some bI
  hO : w.heap.size < bO
  hI : w.heap.size < bI
  ne : bO ≠ bI
theorem OwnP.own_lt {w : World} {base : Nat} {v : Value} {xs : List Cp} (h : OwnP w base v xs) {b : Nat} (e : v.ownBlock = some b) : base ≤ b ∧ b < w.heap.size := by
  rcases h.2 with ⟨h0, h1⟩ | ⟨g, cap, cur, rfl, hb, hg, r⟩
  · subst h0; cases e
  · have e' : g = b := by have : some g = some b := e; injection this
    subst e'
    refine ⟨hb, ?_⟩
    rcases Nat.lt_or_ge g w.heap.size with hlt | hge
    · exact hlt
    · rw [Array.getElem?_eq_none hge] at hg; cases hg
theorem OwnP.betw {w w' : World} {base lo hi : Nat} {v : Value} {xs : List Cp} (h : OwnP w base v xs) (hb : Betw lo hi w w') (ho : ∀ b, v.ownBlock = some b → b < lo ∨ hi ≤ b) : OwnP w' base v xs := by
  refine ⟨h.1, ?_⟩
  rcases h.2 with hn | ⟨g, cap, cur, e, hbs, hgg, rest⟩
  · exact .inl hn
  · refine .inr ⟨g, cap, cur, e, hbs, ?_, rest⟩
    have e' : v.ownBlock = some g := by rw [e]; rfl
    rw [hb.block g (h.own_lt e').2 (ho g e')]
    exact hgg
theorem SegQ.betw {w w' : World} {P : Nat → Prop} {x : Nat} {a : Option Addr} {zs : List Int} (h : SegQ w P a zs) (hb : Betw x (x + 1) w w') (hx : P x) : SegQ w' P a zs :=
  h.keep hb.size (fun b hlt hn => hb.block b hlt (by
    have : b ≠ x := fun e => hn (e ▸ hx)
    omega)) (fun _ _ g => g)
variable {w wr : World} {bO bI bs : Nat} {k f t d : Int} {s : Chs} {v : Value} {xs : List Cp} {a1 : Option Addr} {c1 : Nat} {a2 : Option Addr} {c2 : Nat}
theorem OE2.fst {w : World} {base : Nat} {a1 a2 : Option Addr} {ys xs : List Int} (h : OE2 w base a1 ys a2 xs) : OE w base w.heap.size a1 ys := by
  obtain ⟨l1, u1, l2, u2, h1, _, g1, _, g2, _⟩ := h
  exact h1.wide g1 g2
theorem PS.bad_lt (h : PS w wr bO bI bs k f t d s v xs a1 c1 a2 c2) {b : Nat} (e : b = bO ∨ b = bI ∨ v.ownBlock = some b) : w.heap.size < b ∧ b < wr.heap.size := by
  rcases e with rfl | rfl | e
  · exact ⟨h.hO, h.ro.lt⟩
  · exact ⟨h.hI, h.ri.lt⟩
  · have := h.ow.own_lt e; exact ⟨by omega, this.2⟩
theorem PS.below {w' : World} (h : PS w wr bO bI bs k f t d s v xs a1 c1 a2 c2) (hb : Below wr.heap.size wr w') : PS w w' bO bI bs k f t d s v xs a1 c1 a2 c2 :=
  ⟨h.gb.trans (hb.mono h.gb.size), h.rr.below hb, h.ro.below hb, h.ri.below hb, h.l1.keep hb.size (fun b hlt _ => hb.block b hlt) (fun _ _ g => g), h.l2.keep hb.size (fun b hlt _ => hb.block b hlt) (fun _ _ g => g), h.cp, h.ow.below hb, h.nv, h.vO, h.vI, h.hO, h.hI, h.ne⟩
/-- A new block for what is told. -/
theorem PS.renew (h : PS w wr bO bI bs k f t d s v xs a1 c1 a2 c2) (b9 : Nat) (hb9 : wr.heap.size ≤ b9) : PS w wr bO bI b9 k f t d s v xs a1 c1 a2 c2 := by
  have hp : ∀ b, b < wr.heap.size → badB bO bI b9 v b → badB bO bI bs v b := fun b hlt g => by
    rcases g with g | g | g | g
    · exact .inl g
    · exact .inr (.inl g)
    · exact .inr (.inr (.inl g))
    · omega
  exact ⟨h.gb, h.rr, h.ro, h.ri, h.l1.keep (Nat.le_refl _) (fun _ _ _ => rfl) hp, h.l2.keep (Nat.le_refl _) (fun _ _ _ => rfl) hp, h.cp, h.ow, h.nv, h.vO, h.vI, h.hO, h.hI, h.ne⟩
/-- What is told is written. -/
theorem PS.said {w' : World} (h : PS w wr bO bI bs k f t d s v xs a1 c1 a2 c2) (hb : Betw bs (bs + 1) wr w') (hx : w.heap.size < bs) (hn : ∀ b, (b = bO ∨ b = bI ∨ v.ownBlock = some b) → b < bs) : PS w w' bO bI bs k f t d s v xs a1 c1 a2 c2 :=
  ⟨h.gb.trans (hb.below (by omega) h.gb.size), h.rr.betw hb (by omega), h.ro.betw hb (by have := hn bO (.inl rfl); omega), h.ri.betw hb (by have := hn bI (.inr (.inl rfl)); omega), h.l1.betw hb (.inr (.inr (.inr rfl))), h.l2.betw hb (.inr (.inr (.inr rfl))), h.cp, h.ow.betw hb (fun b e => by have := hn b (.inr (.inr e)); omega), h.nv, h.vO, h.vI, h.hO, h.hI, h.ne⟩
theorem PS.putO (h : PS w wr bO bI bs k f t d s v xs a1 c1 a2 c2) (h' : Int) (a' : Option Addr) (ys : List Int) (c' n' : Nat) (hn : ys.length = n') (hq : SegQ wr (badB bO bI bs v) a' ys) :
    PS w ((wr.setCell ⟨bO, 0, none⟩ (.int .i64 h')).setCell ⟨bO, 1, none⟩ (.slice a' n' c')) bO bI bs k f t d (h', ys, s.2.2) v xs a' c' a2 c2 := by
  subst hn
  have hbt : Betw bO (bO + 1) wr ((wr.setCell ⟨bO, 0, none⟩ (.int .i64 h')).setCell ⟨bO, 1, none⟩ (.slice a' ys.length c')) := ((Betw.refl _ _ wr).setCell (p := ⟨bO, 0, none⟩) (Nat.le_refl _) (by simp) _).setCell (p := ⟨bO, 1, none⟩) (Nat.le_refl _) (by simp) _
  have hO := h.hO
  have hne := h.ne
  exact ⟨h.gb.trans (hbt.below (by omega) h.gb.size), h.rr.betw hbt (by omega), (h.ro.set 0 (.int .i64 h') (by simp) (cs' := orow h' a1 s.2.1.length c1) rfl).set 1 _ (by simp) rfl, h.ri.betw hbt (by omega), hq.betw hbt (.inl rfl), h.l2.betw hbt (.inl rfl), h.cp, h.ow.betw hbt (fun b e => by have : b ≠ bO := fun e2 => h.vO (by rw [← e2]; exact e); omega), h.nv, h.vO, h.vI, h.hO, h.hI, h.ne⟩
theorem PS.putI (h : PS w wr bO bI bs k f t d s v xs a1 c1 a2 c2) (a' : Option Addr) (ys : List Int) (c' n' : Nat) (hn : ys.length = n') (hcp : n' ≤ c') (hq : SegQ wr (badB bO bI bs v) a' ys) :
    PS w (wr.setCell ⟨bI, 0, none⟩ (.slice a' n' c')) bO bI bs k f t d (s.1, s.2.1, ys) v xs a1 c1 a' c' := by
  subst hn
  have hbt : Betw bI (bI + 1) wr (wr.setCell ⟨bI, 0, none⟩ (.slice a' ys.length c')) := (Betw.refl _ _ wr).setCell (p := ⟨bI, 0, none⟩) (Nat.le_refl _) (by simp) _
  have hI := h.hI
  have hne := h.ne
  exact ⟨h.gb.trans (hbt.below (by omega) h.gb.size), h.rr.betw hbt (by omega), h.ro.betw hbt (by omega), h.ri.set 0 _ (by simp) rfl, h.l1.betw hbt (.inr (.inl rfl)), hq.betw hbt (.inr (.inl rfl)), hcp, h.ow.betw hbt (fun b e => by have : b ≠ bI := fun e2 => h.vI (by rw [← e2]; exact e); omega), h.nv, h.vO, h.vI, h.hO, h.hI, h.ne⟩
theorem PS.push {w9 : World} {v' : Value} {xs' : List Cp} (h : PS w wr bO bI bs k f t d s v xs a1 c1 a2 c2)
    (ho : OwnP w9 (w.heap.size + 1) v' xs') (hg : wr.grownBy w9 v.ownBlock) (hv : v' ≠ .slice none 0 0) (hown : v'.ownBlock = v.ownBlock ∨ v'.ownBlock = some wr.heap.size) : PS w w9 bO bI bs k f t d s v' xs' a1 c1 a2 c2 := by
  have hlt : ∀ b, v.ownBlock = some b → w.heap.size + 1 ≤ b := fun b e => (h.ow.own_lt e).1
  have hOl := h.ro.lt
  have hIl := h.ri.lt
  have hbk : ∀ b, b < wr.heap.size → ¬ badB bO bI bs v b → w9.heap[b]? = wr.heap[b]? := fun b hb hn => hg.block b hb (fun e => hn (.inr (.inr (.inl e.symm))))
  have hp : ∀ b, b < wr.heap.size → badB bO bI bs v' b → badB bO bI bs v b := fun b hb g => by
    rcases g with g | g | g | g
    · exact .inl g
    · exact .inr (.inl g)
    · rcases hown with e | e
      · exact .inr (.inr (.inl (by rw [← e]; exact g)))
      · rw [e] at g; injection g with g; omega
    · exact .inr (.inr (.inr g))
  refine ⟨Below.grown h.gb hg h.gb.size (fun g e => by have := hlt g e; omega), h.rr.grown hg (fun g e => hlt g e) (by omega), ?_, ?_, h.l1.keep hg.size hbk hp, h.l2.keep hg.size hbk hp, h.cp, ho, hv, ?_, ?_, h.hO, h.hI, h.ne⟩
  · have hk := hg.block bO hOl (fun e => h.vO e.symm)
    exact ⟨Nat.lt_of_lt_of_le hOl hg.size, fun i v e => (World.cell?_of_block (a := ⟨bO, i, none⟩) hk).trans (h.ro.cell i v e), fun i => (World.frozen?_of_block (a := ⟨bO, i, none⟩) hk).trans (h.ro.free i)⟩
  · have hk := hg.block bI hIl (fun e => h.vI e.symm)
    exact ⟨Nat.lt_of_lt_of_le hIl hg.size, fun i v e => (World.cell?_of_block (a := ⟨bI, i, none⟩) hk).trans (h.ri.cell i v e), fun i => (World.frozen?_of_block (a := ⟨bI, i, none⟩) hk).trans (h.ri.free i)⟩
  · rcases hown with e | e
    · rw [e]; exact h.vO
    · rw [e]; intro g; injection g with g; omega
  · rcases hown with e | e
    · rw [e]; exact h.vI
    · rw [e]; intro g; injection g with g; omega
end Go.Proofs.Ytoofjlfbedjbnaa
