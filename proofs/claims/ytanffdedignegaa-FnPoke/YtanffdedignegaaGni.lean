
/-
  A new guest, by the program: registers and rows of noughts, in memory of its own. Conditions: lengths are lengths of slices.
-/
import Derived.Test.YtanffdedignegaaBas
import Derived.Test.YtanffdedignegaaProg
import Derived.Test.YtanffdedignegaaGrg
import Derived.Test.YtanffdedignegaaWsi
import Derived.Test.YtanffdedignegaaWso
import Derived.Test.YtanffdedignegaaWat
import Derived.Deep.RegionHeldLaw
import Derived.Deep.RegionLaw
namespace Go.Proofs.Ytanffdedignegaa
open Go.ChangeShapes Go.WideShapes Go.ChangeAt Go.RowKit Go.Deep
set_option linter.unusedVariables false

def regs0 : List Int := List.replicate 16 0
def rows0 (xs : List Wn) : Nat → List Int := fun i => List.replicate (xs.getD i wn0).2.1.toNat 0
theorem step_append_one {P : Program} {w : World} {ops : Array Oper} {o : Oper} {a : Act} {K : Act → World → Prop} {Q : Exit → Act → World → Prop} {E : Prop} (hgd : o.guard = none) (s x : Operand) (t : TypeId)
    (ho : o.op = .call { callee := .builtin .append, args := #[s, x], argTypes := #[t, t] })
    (base : Nat) (e : TypeId) (i : TypeInfo) (z : Value) (size bytes : Nat) (ht : P.underlying t = some (.slice e)) (hi : P.info? e = some i) (hz : i.zero = some z)
    (hsize : i.size = size) (hby : i.bytes = bytes) (hzs : z.cells.size = size) (hsz : 0 < size)
    (v : Value) (n : Nat) (xs : List Value) (hs : a.eval s = v) (hown : w.ownsRow base e size v n xs)
    (ad : Addr) (m c : Nat) (news : List Value) (hx : a.eval x = .slice (some ad) m c) (hl : news.length = m * size) (hnews : ∀ j u, news[j]? = some u → w.cell? (ad.add j) = some u) (h1 : ∀ u ∈ news, u.oneCell' = true)
    (hm : 0 < m) (h63 : n + m ≤ maxLen) (hbytes : (n + m) * bytes ≤ 140737488355328) (hbase : base ≤ w.heap.size) (d : Option Nat) (hd : o.dst = d)
    (h : ∀ g cap w', w'.ownsRow base e size (.slice (some ⟨g, 0, none⟩) (n + m) cap) (n + m) (xs ++ news) → w.grownBy w' v.ownBlock → (v.ownBlock = some g ∨ g = w.heap.size) → g < w'.heap.size → K (a.put d (.slice (some ⟨g, 0, none⟩) (n + m) cap)) w') :
    if Region.wanted o (yielded ops a.tmps) = true then Oper.wp P o a w K Q else E := by
  subst hd
  exact step_append_lies w hgd s x t ho base e i z size bytes ht hi hz hsize hby hzs hsz v n xs hs hown ad m c news hx hl hnews h1 hm h63 hbytes hbase _ rfl h
theorem on_low {k : IntKind} {w w' : World} {lo hi B R : Nat} {a : Option Addr} {zs : List Int} (h : ON k w lo hi a zs R) (hb : Below B w w') (hlt : R < B) : ON k w' lo hi a zs R := fun h0 => by
  obtain ⟨off, e, h1, h2, h3, hc, hf⟩ := h h0
  exact ⟨off, e, h1, h2, Nat.lt_of_lt_of_le h3 hb.size, fun i hi => (World.cell?_of_block (a := ⟨R, off + i, none⟩) (hb.block R hlt)).trans (hc i hi), fun j => (World.frozen?_of_block (a := ⟨R, j, none⟩) (hb.block R hlt)).trans (hf j)⟩
structure NL (w wr : World) (B : Nat) (pc : Int) (k : Nat) (D : Nat → List Int) (v : Value) (m : Nat) (A : Nat → Option Addr) (C R : Nat → Nat) : Prop where
  bel : Below w.heap.size w wr
  b0 : Bk wr w.heap.size #[.slice none 0 0, .int .u32 0, .slice none 0 0]
  low : w.heap.size < B
  regs : ON .u32 wr B (B + 1) (some ⟨B, 0, none⟩) regs0 B
  var : Bk wr (B + 1) #[.slice (some ⟨B, 0, none⟩) 16 16, .int .u32 pc, v]
  rows : Bla wr (B + 2) m v k D A C R
  top : B + 2 ≤ wr.heap.size
theorem NL.below {w wr w' : World} {B : Nat} {pc : Int} {k : Nat} {D : Nat → List Int} {v : Value} {m : Nat} {A : Nat → Option Addr} {C R : Nat → Nat} (h : NL w wr B pc k D v m A C R) (hb : Below wr.heap.size wr w') : NL w w' B pc k D v m A C R :=
  ⟨h.bel.trans (hb.mono h.bel.size), h.b0.below hb, h.low, h.regs.below hb, h.var.below hb, h.rows.below hb, Nat.le_trans h.top hb.size⟩
theorem NL.push {w W w' : World} {B : Nat} {pc : Int} {k : Nat} {D : Nat → List Int} {v : Value} {m : Nat} {A : Nat → Option Addr} {C R : Nat → Nat} (h : NL w W B pc k D v m A C R) (a : Option Addr) (ca Rk g cap : Nat) (how : ON .u8 W (B + 2) W.heap.size a (D k) Rk) (hR : 0 < (D k).length → m ≤ Rk) (hca : (D k).length ≤ ca)
    (hown : w'.ownsRow (B + 2) 22 1 (.slice (some ⟨g, 0, none⟩) (k + 1) cap) (k + 1) (browCells A C D k ++ [.slice a (D k).length ca])) (hgrow : W.grownBy w' v.ownBlock) (hat : v.ownBlock = some g ∨ g = W.heap.size) (hg : g < w'.heap.size) :
    Bk w' (B + 1) #[.slice (some ⟨B, 0, none⟩) 16 16, .int .u32 pc, v] ∧ ∃ m' A' C' R', NL w (w'.setCell ⟨B + 1, 2, none⟩ (.slice (some ⟨g, 0, none⟩) (k + 1) cap)) B pc (k + 1) D (.slice (some ⟨g, 0, none⟩) (k + 1) cap) m' A' C' R' := by
  have hlow := own_low h.rows.own
  have hbl : Below (B + 2) W w' := grown_below hgrow hlow h.top
  have h2 := h.rows.step a ca Rk _ g cap how hR hca hown hgrow hat rfl hg
  have hvar := h.var.low hbl (by omega)
  have hbt : Betw (B + 1) (B + 1 + 1) w' (w'.setCell ⟨B + 1, 2, none⟩ (.slice (some ⟨g, 0, none⟩) (k + 1) cap)) := (Betw.refl _ _ _).setCell (p := ⟨B + 1, 2, none⟩) (Nat.le_refl _) (Nat.lt_succ_self _) _
  have hl := h.low
  have hb' := h.bel.trans (hbl.mono (by omega))
  have hreg : ON .u32 w' B (B + 1) (some ⟨B, 0, none⟩) regs0 B := on_low h.regs hbl (by omega)
  refine ⟨hvar, _, _, _, _, ⟨hb'.trans (hbt.below (by omega) hb'.size), (h.b0.low hbl (by omega)).other _ _ _ (by omega), hl, hreg.betw hbt (fun _ => .inl (by omega)), hvar.set 2 _ (by simp) rfl, h2.betw hbt (Nat.le_refl _), ?_⟩⟩
  have := hbl.size
  have := h.top
  simp
  omega
end Go.Proofs.Ytanffdedignegaa
