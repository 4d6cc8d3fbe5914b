
/-
  What the specification's DevPlay keeps in memory: its device, what was told. No function of the program in sight; no conditions but those that each fact names.
-/
import Derived.Test.YthfmggfohegpnaaRows
import Derived.Test.YthfmggfohegpnaaDpl
import Derived.Test.YthfmggfohegpnaaDvt
import Derived.Test.YthfmggfohegpnaaDvu
import Derived.Deep.AppendLies
namespace Go.Proofs.Ythfmggfohegpnaa
open Go.ChangeShapes Go.WideShapes Go.ChangeAt Go.RowKit Go.Deep
set_option linter.unusedVariables false

/-- Words in a block that is none of those that may be written. -/
def SegQ (w : World) (P : Nat → Prop) (a : Option Addr) (zs : List Int) : Prop :=
  0 < zs.length → ∃ b off, a = some ⟨b, off, none⟩ ∧ b < w.heap.size ∧ ¬ P b ∧ ∀ i, i < zs.length → w.cell? ⟨b, off + i, none⟩ = some (.int .u32 (zs.getD i 0))
theorem SegQ.seg {w : World} {P : Nat → Prop} {a : Option Addr} {zs : List Int} (h : SegQ w P a zs) : Seg .u32 w a zs := fun h0 => by
  obtain ⟨b, off, e, hlt, _, hc⟩ := h h0
  exact ⟨b, off, e, hlt, hc⟩
theorem SegQ.nil (w : World) (P : Nat → Prop) (a : Option Addr) : SegQ w P a [] := fun h => absurd h (by simp)
theorem SegQ.keep {w w' : World} {P P' : Nat → Prop} {a : Option Addr} {zs : List Int} (h : SegQ w P a zs) (hsz : w.heap.size ≤ w'.heap.size) (hb : ∀ b, b < w.heap.size → ¬ P b → w'.heap[b]? = w.heap[b]?) (hp : ∀ b, b < w.heap.size → P' b → P b) : SegQ w' P' a zs := fun h0 => by
  obtain ⟨b, off, e, hlt, hn, hc⟩ := h h0
  exact ⟨b, off, e, by omega, fun g => hn (hp b hlt g), fun i hi => (World.cell?_of_block (a := ⟨b, off + i, none⟩) (hb b hlt hn)).trans (hc i hi)⟩
theorem OE.segq {w : World} {lo hi : Nat} {P : Nat → Prop} {a : Option Addr} {zs : List Int} (h : OE w lo hi a zs) (hp : ∀ b, P b → b < lo ∨ hi ≤ b) : SegQ w P a zs := fun h0 => by
  obtain ⟨R, hR⟩ := h
  obtain ⟨off, e, g1, g2, g3, g4, g5⟩ := hR h0
  exact ⟨R, off, e, g3, fun g => by have := hp R g; omega, g4⟩
def badB (bO bs : Nat) (v : Value) (b : Nat) : Prop := b = bO ∨ v.ownBlock = some b ∨ b = bs
theorem OwnA.own_lt {w : World} {base : Nat} {v : Value} {xs : List Ac} (h : OwnA w base v xs) {b : Nat} (e : v.ownBlock = some b) : base ≤ b ∧ b < w.heap.size := by
  rcases h.2 with ⟨h0, h1⟩ | ⟨g, cap, cur, rfl, hb, hg, r⟩
  · subst h0; cases e
  · have e' : g = b := by have : some g = some b := e; injection this
    subst e'
    refine ⟨hb, ?_⟩
    rcases Nat.lt_or_ge g w.heap.size with hlt | hge
    · exact hlt
    · rw [Array.getElem?_eq_none hge] at hg; cases hg
theorem OwnA.betw {w w' : World} {base lo hi : Nat} {v : Value} {xs : List Ac} (h : OwnA w base v xs) (hb : Betw lo hi w w') (ho : ∀ b, v.ownBlock = some b → b < lo ∨ hi ≤ b) : OwnA w' base v xs := by
  refine ⟨h.1, ?_⟩
  rcases h.2 with hn | ⟨g, cap, cur, e, hbs, hgg, rest⟩
  · exact .inl hn
  · refine .inr ⟨g, cap, cur, e, hbs, ?_, rest⟩
    have e' : v.ownBlock = some g := by rw [e]; rfl
    rw [hb.block g (h.own_lt e').2 (ho g e')]
    exact hgg
theorem SegQ.betw {w w' : World} {P : Nat → Prop} {x : Nat} {a : Option Addr} {zs : List Int} (h : SegQ w P a zs) (hb : Betw x (x + 1) w w') (hx : P x) : SegQ w' P a zs :=
  h.keep hb.size (fun b hlt hn => hb.block b hlt (by
    have : b ≠ x := fun e => hn (e ▸ hx)
    omega)) (fun _ _ g => g)
/-- The specification's run in memory: its device, what was told. -/
structure PD (w wr : World) (bO bs : Nat) (s : Ds) (v : Value) (xs : List Ac) (a1 : Option Addr) (c1 : Nat) (a2 : Option Addr) (c2 : Nat) : Prop where
  gb : Below w.heap.size w wr
  ro : Bk wr bO (dsr a1 s.1.length c1 a2 s.2.length c2)
  l1 : SegQ wr (badB bO bs v) a1 s.1
  l2 : SegQ wr (badB bO bs v) a2 s.2
  p1 : s.1.length ≤ c1
  p2 : s.2.length ≤ c2
  ow : OwnA wr w.heap.size v xs
  nv : v ≠ .slice none 0 0
  vO : v.ownBlock ≠ some bO
  hO : w.heap.size ≤ bO
variable {w wr : World} {bO bs : Nat} {s : Ds} {v : Value} {xs : List Ac} {a1 : Option Addr} {c1 : Nat} {a2 : Option Addr} {c2 : Nat}
theorem PD.bad_lt (h : PD w wr bO bs s v xs a1 c1 a2 c2) {b : Nat} (e : b = bO ∨ v.ownBlock = some b) : w.heap.size ≤ b ∧ b < wr.heap.size := by
  rcases e with rfl | e
  · exact ⟨h.hO, h.ro.lt⟩
  · exact h.ow.own_lt e
theorem PD.below {w' : World} (h : PD w wr bO bs s v xs a1 c1 a2 c2) (hb : Below wr.heap.size wr w') : PD w w' bO bs s v xs a1 c1 a2 c2 :=
  ⟨h.gb.trans (hb.mono h.gb.size), h.ro.below hb, h.l1.keep hb.size (fun b hlt _ => hb.block b hlt) (fun _ _ g => g), h.l2.keep hb.size (fun b hlt _ => hb.block b hlt) (fun _ _ g => g), h.p1, h.p2, h.ow.below hb, h.nv, h.vO, h.hO⟩
/-- A new block for what is told. -/
theorem PD.renew (h : PD w wr bO bs s v xs a1 c1 a2 c2) (b9 : Nat) (hb9 : wr.heap.size ≤ b9) : PD w wr bO b9 s v xs a1 c1 a2 c2 := by
  have hp : ∀ b, b < wr.heap.size → badB bO b9 v b → badB bO bs v b := fun b hlt g => by
    rcases g with g | g | g
    · exact .inl g
    · exact .inr (.inl g)
    · omega
  exact ⟨h.gb, h.ro, h.l1.keep (Nat.le_refl _) (fun _ _ _ => rfl) hp, h.l2.keep (Nat.le_refl _) (fun _ _ _ => rfl) hp, h.p1, h.p2, h.ow, h.nv, h.vO, h.hO⟩
/-- What is told is written. -/
theorem PD.said {w' : World} (h : PD w wr bO bs s v xs a1 c1 a2 c2) (hb : Betw bs (bs + 1) wr w') (hx : w.heap.size ≤ bs) (hn : ∀ b, (b = bO ∨ v.ownBlock = some b) → b < bs) : PD w w' bO bs s v xs a1 c1 a2 c2 :=
  ⟨h.gb.trans (hb.below (by omega) h.gb.size), h.ro.betw hb (by have := hn bO (.inl rfl); omega), h.l1.betw hb (.inr (.inr rfl)), h.l2.betw hb (.inr (.inr rfl)), h.p1, h.p2, h.ow.betw hb (fun b e => by have := hn b (.inr e); omega), h.nv, h.vO, h.hO⟩
theorem PD.put (h : PD w wr bO bs s v xs a1 c1 a2 c2) (a' : Option Addr) (ls : List Int) (c' n' : Nat) (b' : Option Addr) (ms : List Int) (d' m' : Nat) (hn : ls.length = n') (hm : ms.length = m') (hc : n' ≤ c') (hd : m' ≤ d') (hq : SegQ wr (badB bO bs v) a' ls) (hr : SegQ wr (badB bO bs v) b' ms) :
    PD w ((wr.setCell ⟨bO, 0, none⟩ (.slice a' n' c')).setCell ⟨bO, 1, none⟩ (.slice b' m' d')) bO bs (ls, ms) v xs a' c' b' d' := by
  subst hn hm
  have hbt : Betw bO (bO + 1) wr ((wr.setCell ⟨bO, 0, none⟩ (.slice a' ls.length c')).setCell ⟨bO, 1, none⟩ (.slice b' ms.length d')) := ((Betw.refl _ _ wr).setCell (p := ⟨bO, 0, none⟩) (Nat.le_refl _) (by simp) _).setCell (p := ⟨bO, 1, none⟩) (Nat.le_refl _) (by simp) _
  have hO := h.hO
  exact ⟨h.gb.trans (hbt.below (by omega) h.gb.size), (h.ro.set 0 (.slice a' ls.length c') (by simp) (cs' := dsr a' ls.length c' a2 s.2.length c2) rfl).set 1 _ (by simp) rfl, hq.betw hbt (.inl rfl), hr.betw hbt (.inl rfl), hc, hd, h.ow.betw hbt (fun b e => by have : b ≠ bO := fun e2 => h.vO (by rw [← e2]; exact e); omega), h.nv, h.vO, h.hO⟩
theorem PD.push {w9 : World} {v' : Value} {xs' : List Ac} (h : PD w wr bO bs s v xs a1 c1 a2 c2)
    (ho : OwnA w9 w.heap.size v' xs') (hg : wr.grownBy w9 v.ownBlock) (hv : v' ≠ .slice none 0 0) (hown : v'.ownBlock = v.ownBlock ∨ v'.ownBlock = some wr.heap.size) : PD w w9 bO bs s v' xs' a1 c1 a2 c2 := by
  have hlt : ∀ b, v.ownBlock = some b → w.heap.size ≤ b := fun b e => (h.ow.own_lt e).1
  have hOl := h.ro.lt
  have hbk : ∀ b, b < wr.heap.size → ¬ badB bO bs v b → w9.heap[b]? = wr.heap[b]? := fun b hb hn => hg.block b hb (fun e => hn (.inr (.inl e.symm)))
  have hp : ∀ b, b < wr.heap.size → badB bO bs v' b → badB bO bs v b := fun b hb g => by
    rcases g with g | g | g
    · exact .inl g
    · rcases hown with e | e
      · exact .inr (.inl (by rw [← e]; exact g))
      · rw [e] at g; injection g with g; omega
    · exact .inr (.inr g)
  refine ⟨Below.grown h.gb hg h.gb.size hlt, ?_, h.l1.keep hg.size hbk hp, h.l2.keep hg.size hbk hp, h.p1, h.p2, ho, hv, ?_, h.hO⟩
  · have hk := hg.block bO hOl (fun e => h.vO e.symm)
    exact ⟨Nat.lt_of_lt_of_le hOl hg.size, fun i v e => (World.cell?_of_block (a := ⟨bO, i, none⟩) hk).trans (h.ro.cell i v e), fun i => (World.frozen?_of_block (a := ⟨bO, i, none⟩) hk).trans (h.ro.free i)⟩
  · rcases hown with e | e
    · rw [e]; exact h.vO
    · rw [e]; intro g; injection g with g; omega
/-- A device in a variable of its own, its words apart from it. -/
def EFD (w1 V : World) (k : Nat) (row : Array Value) (a : Option Addr) (ys : List Int) (b : Option Addr) (zs : List Int) : Prop :=
  Below w1.heap.size w1 V ∧ Bk V k row ∧ w1.heap.size ≤ k ∧ ∃ lo hi, DE V lo hi a ys b zs ∧ w1.heap.size ≤ lo ∧ lo ≤ hi ∧ hi ≤ V.heap.size ∧ (k < lo ∨ hi ≤ k)
theorem efd_new {w1 w7 : World} {lo : Nat} {a b : Option Addr} {ys zs : List Int} (row : Array Value) (T : TypeId) (hb : Below w1.heap.size w1 w7) (ho : DE w7 lo w7.heap.size a ys b zs) (hlo : w1.heap.size ≤ lo) (hl7 : lo ≤ w7.heap.size) : EFD w1 (w7.alloc (.cells row T)) w7.heap.size row a ys b zs :=
  ⟨hb.alloc hb.size _, Bk.new _ _ _ _ rfl, hb.size, lo, w7.heap.size, ho.below ((Below.refl _ _).alloc (Nat.le_refl _) _), hlo, hl7, by simp, .inr (Nat.le_refl _)⟩
theorem efd_set2 {w1 w7 : World} {k lo : Nat} {a b : Option Addr} {ys zs : List Int} {x0 x1 v0 v1 : Value} (hb : Below w1.heap.size w1 w7) (hV : Bk w7 k #[x0, x1]) (hk : w1.heap.size ≤ k) (ho : DE w7 lo w7.heap.size a ys b zs) (hlo : k < lo) (hl7 : lo ≤ w7.heap.size) :
    EFD w1 ((w7.setCell ⟨k, 0, none⟩ v0).setCell ⟨k, 1, none⟩ v1) k #[v0, v1] a ys b zs := by
  have hbt := ((Betw.refl k (k + 1) w7).setCell (p := ⟨k, 0, none⟩) (Nat.le_refl _) (Nat.lt_succ_self _) v0).setCell (p := ⟨k, 1, none⟩) (Nat.le_refl _) (Nat.lt_succ_self _) v1
  exact ⟨hb.trans (hbt.below hk hb.size), (hV.set 0 v0 (by simp) (cs' := #[v0, x1]) rfl).set 1 v1 (by simp) rfl, hk, lo, w7.heap.size, ho.betw hbt (.inr hlo), by omega, hl7, by simp, .inl hlo⟩
def inr (x lo hi : Int) : Bool := decide (lo ≤ x) && decide (x ≤ hi)
theorem inr_yes {x lo hi : Int} (h : lo ≤ x ∧ x ≤ hi) : inr x lo hi = true := by simp [inr, h.1, h.2]
theorem inr_no {x lo hi : Int} (h : ¬ (lo ≤ x ∧ x ≤ hi)) : inr x lo hi = false := by
  unfold inr; rw [← Bool.decide_and]; exact decide_eq_false h
theorem inr_iff {x lo hi : Int} : inr x lo hi = true ↔ lo ≤ x ∧ x ≤ hi := by simp [inr]
theorem in_any (x a b : Int) (w : World) : Calls Try.prog 45 #[.int .i64 x, .int .i64 a, .int .i64 b] w fun e w' => e = .returned (.bool (inr x a b)) ∧ w' = w := by
  by_cases h1 : a ≤ x
  · by_cases h2 : x ≤ b
    · rw [inr_yes ⟨h1, h2⟩]
      go_enter Try.func45, Try.ntmps45
      go_wp2
      go_ret
      exact ⟨rfl, rfl⟩
    · rw [inr_no (fun g => h2 g.2)]
      go_enter Try.func45, Try.ntmps45
      go_wp2
      go_ret
      exact ⟨rfl, rfl⟩
  · rw [inr_no (fun g => h1 g.1)]
    go_enter Try.func45, Try.ntmps45
    go_wp2
    go_ret
    exact ⟨rfl, rfl⟩
end Go.Proofs.Ythfmggfohegpnaa
