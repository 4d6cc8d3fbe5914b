
/-
  An element put behind the list of devices or of channels on the way through the draw that spoils tables. No conditions but those that each fact names.
-/
import Derived.Test.YtlomcdgfcocmmaaGreatDoorBas
import Derived.Test.YtlomcdgfcocmmaaGreatDoorAnu
namespace Go.Proofs.YtlomcdgfcocmmaaGreatDoor
open Go.ChangeShapes Go.WideShapes Go.ChangeAt Go.RowKit Go.Deep Go.Joins
set_option linter.unusedVariables false

theorem ct_grown {w X X' : World} {B lo : Nat} {a : Option Addr} {zs : List Int} {cap : Nat} {row : Option Nat} (h : CT w X B a zs cap) (hg : X.grownBy X' row) (hr : ∀ k, row = some k → lo ≤ k) (hb : B < w.heap.size) (hl : w.heap.size < lo) (hX : lo ≤ X.heap.size) : CT w X' B a zs cap := by
  have hbl : Below lo X X' := grown_below hg hr hX
  exact ⟨h.cur.belowC hbl (by omega) (fun b off e h0 => by have := h.la b off e h0; omega), ⟨hg.os.trans h.turn.os, hg.tape.trans h.turn.tape, hg.output.trans h.turn.output, Nat.le_trans h.turn.size hbl.size, fun k hk hn => (hbl.block k (by omega)).trans (h.turn.block k hk hn)⟩, h.lo, h.la⟩
theorem AN.appd {w X X' : World} {B : Nat} {a : Option Addr} {zs : List Int} {cap VB lo gg cc9 : Nat} {T : Tb} {A : Ad} {y : Int} (h : AN w X B a zs cap VB lo T A) (g : AB w B VB lo A) (hX : lo ≤ X.heap.size) (hfew : A.dn ≤ 100) (hown : X'.ownsRow lo 3 1 (.slice (some ⟨gg, 0, none⟩) (A.dn + 1) cc9) (A.dn + 1) (flr A.dn (inX T.ds) ++ [Value.int .i64 y])) (hg : X.grownBy X' (Value.slice A.da A.dn A.dc).ownBlock) (hat : (Value.slice A.da A.dn A.dc).ownBlock = some gg ∨ gg = X.heap.size) :
    AN w (X'.setCell ⟨VB, 16, none⟩ (.slice (some ⟨gg, 0, none⟩) (A.dn + 1) cc9)) B a zs cap VB lo { T with ds := T.ds ++ [y] } { A with da := some ⟨gg, 0, none⟩, dn := A.dn + 1, dc := cc9 } := by
  have hlow : ∀ q, (Value.slice A.da A.dn A.dc).ownBlock = some q → lo ≤ q := fun q e => (h.o.pd.lt q e).1
  have hct := ct_grown h.ct hg hlow g.b g.l hX
  have hgv : gg ≠ VB := by
    rcases hat with e | e
    · exact g.n gg (.inr (.inl e))
    · have := h.rv.lt; omega
  have hblk : ∀ q, q < X.heap.size → (Value.slice A.da A.dn A.dc).ownBlock ≠ some q → X'.heap[q]? = X.heap[q]? := fun q h1 h2 => hg.block q h1 (fun e => h2 e.symm)
  have hkeep : ∀ q, InL A q → (Value.slice A.da A.dn A.dc).ownBlock ≠ some q → (X'.setCell ⟨VB, 16, none⟩ (Value.slice (some ⟨gg, 0, none⟩) (A.dn + 1) cc9)).heap[q]? = X.heap[q]? := fun q h1 h2 => (heap_far _ _ _ _ (g.n q h1)).trans (hblk q (h.o.inl h1).2 h2)
  have hz : X.heap.size ≤ (X'.setCell ⟨VB, 16, none⟩ (Value.slice (some ⟨gg, 0, none⟩) (A.dn + 1) cc9)).heap.size := by simpa using hg.size
  have hgood : ∀ i, i < A.pn → Good lo (X'.setCell ⟨VB, 16, none⟩ (Value.slice (some ⟨gg, 0, none⟩) (A.dn + 1) cc9)) (A.Y i) (T.ps.getD i pt0) := fun i hi => (h.o.pw i hi).at_block hz (fun b off e h0 => hkeep b (.inr (.inr (.inr (.inr ⟨i, off, hi, h0, e⟩)))) (fun e2 => (h.o.xd b e2).2 i hi h0 b off e rfl))
  have hnl : (flr (A.dn + 1) (inX (T.ds ++ [y]))) = flr A.dn (inX T.ds) ++ [Value.int .i64 y] := by
    have hll := h.w.dl
    rw [flr_succ]
    congr 1
    · exact flr_congr fun i hi => by
        show (fun z : Int => [Value.int .i64 z]) ((T.ds ++ [y]).getD i 0) = (fun z : Int => [Value.int .i64 z]) (T.ds.getD i 0)
        rw [List.getD_eq_getElem?_getD, List.getElem?_append_left (by omega), ← List.getD_eq_getElem?_getD]
    · show (fun z : Int => [Value.int .i64 z]) ((T.ds ++ [y]).getD A.dn 0) = _
      rw [List.getD_eq_getElem?_getD, List.getElem?_append_right (by omega), hll, Nat.sub_self]
      rfl
  have hrv : RV (X'.setCell ⟨VB, 16, none⟩ (Value.slice (some ⟨gg, 0, none⟩) (A.dn + 1) cc9)) VB (tbA { T with ds := T.ds ++ [y] } { A with da := some ⟨gg, 0, none⟩, dn := A.dn + 1, dc := cc9 }) := by
    have h1 : RV X' VB (tbA T A) := (hblk VB h.rv.lt (fun e => g.n VB (.inr (.inl e)) rfl)).trans h.rv
    exact h1.set 16 _ (by simp [tbA])
  have hr0 : RV (X'.setCell ⟨VB, 16, none⟩ (Value.slice (some ⟨gg, 0, none⟩) (A.dn + 1) cc9)) w.heap.size (#[.int .i64 0, .int .i64 0, .int .i64 0, .int .i64 0, .int .i64 0, .int .i64 0, .int .i64 0, .int .i64 0, .int .i64 0, .int .i64 0, .int .i64 0, .int .i64 0, .int .i64 0, .int .i64 0, .int .i64 0, .slice none 0 0, .slice none 0 0, .slice none 0 0, .slice none 0 0]) := RV.other ((hblk _ h.r0.lt (fun e => by have := hlow _ e; have := g.l; omega)).trans h.r0) (by have := g.v; omega)
  have hnew : (X'.setCell ⟨VB, 16, none⟩ (Value.slice (some ⟨gg, 0, none⟩) (A.dn + 1) cc9)).ownsRow lo 3 1 (Value.slice (some ⟨gg, 0, none⟩) (A.dn + 1) cc9) (A.dn + 1) (flr (A.dn + 1) (inX (T.ds ++ [y]))) := by
    rw [hnl]
    exact owns_block hown fun q e => by
      have e1 : gg = q := by simpa [Value.ownBlock] using e
      subst e1
      exact heap_far _ _ _ _ hgv
  have hfr : ∀ q, InL A q → (Value.slice A.da A.dn A.dc).ownBlock ≠ some q → gg ≠ q := fun q h1 h2 e => by
    subst e
    rcases hat with e2 | e2
    · exact h2 e2
    · have := (h.o.inl h1).2; omega
  have hap : Ap (.slice A.pa A.pn A.pc) A.Y A.pn (Value.slice (some ⟨gg, 0, none⟩) (A.dn + 1) cc9) := fun q e => by
    have e1 : gg = q := by simpa [Value.ownBlock] using e
    subst e1
    rcases hat with e2 | e2
    · exact h.o.xd gg e2
    · exact ⟨fun e3 => by have := (h.o.pp.lt gg e3).2; omega, fun i hi h0 b off e3 e4 => by
        have := (h.o.inl (.inr (.inr (.inr (.inr ⟨i, off, hi, h0, e3⟩))))).2
        omega⟩
  have hnb : ∀ q, ((Value.slice (some ⟨gg, 0, none⟩) (A.dn + 1) cc9) : Value).ownBlock = some q → q = gg := fun q e => by
    have e1 : gg = q := by simpa [Value.ownBlock] using e
    exact e1.symm
  exact ⟨hct.set VB 16 _ (Nat.le_of_lt g.v), hr0, hrv, ⟨owns_block h.o.pp (fun q e => hkeep q (.inl e) (fun e2 => (h.o.xd q e2).1 e)), hnew, owns_block h.o.pc (fun q e => hkeep q (.inr (.inr (.inl e))) (fun e2 => h.o.ydc q e2 e)), owns_block h.o.ps (fun q e => hkeep q (.inr (.inr (.inr (.inl e)))) (fun e2 => h.o.yds q e2 e)), hgood, h.o.ap, h.o.two, hap, h.o.xc, h.o.xs, fun q e e2 => hfr q (.inr (.inr (.inl e2))) (fun e3 => h.o.ydc q e3 e2) (hnb q e).symm, fun q e e2 => hfr q (.inr (.inr (.inr (.inl e2)))) (fun e3 => h.o.yds q e3 e2) (hnb q e).symm, h.o.ycs⟩, ⟨h.w.pl, (by simp [h.w.dl]), h.w.cl, h.w.sl, h.w.pb, by show A.dn + 1 ≤ _; omega, h.w.cb, h.w.sb, h.w.wb, h.w.wf, h.w.sf⟩, ⟨h.s.p, by show A.dn + 1 ≤ _; omega, h.s.c, h.s.s, h.s.w⟩, h.c1, h.c2, h.p2⟩
theorem AN.appc {w X X' : World} {B : Nat} {a : Option Addr} {zs : List Int} {cap VB lo gg cc9 : Nat} {T : Tb} {A : Ad} {y : chT} (h : AN w X B a zs cap VB lo T A) (g : AB w B VB lo A) (hX : lo ≤ X.heap.size) (hfew : A.cn ≤ 100) (hown : X'.ownsRow lo 76 4 (.slice (some ⟨gg, 0, none⟩) (A.cn + 1) cc9) (A.cn + 1) (flr A.cn (chX T.cs) ++ chL y)) (hg : X.grownBy X' (Value.slice A.ca A.cn A.cc).ownBlock) (hat : (Value.slice A.ca A.cn A.cc).ownBlock = some gg ∨ gg = X.heap.size) :
    AN w (X'.setCell ⟨VB, 17, none⟩ (.slice (some ⟨gg, 0, none⟩) (A.cn + 1) cc9)) B a zs cap VB lo { T with cs := T.cs ++ [y] } { A with ca := some ⟨gg, 0, none⟩, cn := A.cn + 1, cc := cc9 } := by
  have hlow : ∀ q, (Value.slice A.ca A.cn A.cc).ownBlock = some q → lo ≤ q := fun q e => (h.o.pc.lt q e).1
  have hct := ct_grown h.ct hg hlow g.b g.l hX
  have hgv : gg ≠ VB := by
    rcases hat with e | e
    · exact g.n gg (.inr (.inr (.inl e)))
    · have := h.rv.lt; omega
  have hblk : ∀ q, q < X.heap.size → (Value.slice A.ca A.cn A.cc).ownBlock ≠ some q → X'.heap[q]? = X.heap[q]? := fun q h1 h2 => hg.block q h1 (fun e => h2 e.symm)
  have hkeep : ∀ q, InL A q → (Value.slice A.ca A.cn A.cc).ownBlock ≠ some q → (X'.setCell ⟨VB, 17, none⟩ (Value.slice (some ⟨gg, 0, none⟩) (A.cn + 1) cc9)).heap[q]? = X.heap[q]? := fun q h1 h2 => (heap_far _ _ _ _ (g.n q h1)).trans (hblk q (h.o.inl h1).2 h2)
  have hz : X.heap.size ≤ (X'.setCell ⟨VB, 17, none⟩ (Value.slice (some ⟨gg, 0, none⟩) (A.cn + 1) cc9)).heap.size := by simpa using hg.size
  have hgood : ∀ i, i < A.pn → Good lo (X'.setCell ⟨VB, 17, none⟩ (Value.slice (some ⟨gg, 0, none⟩) (A.cn + 1) cc9)) (A.Y i) (T.ps.getD i pt0) := fun i hi => (h.o.pw i hi).at_block hz (fun b off e h0 => hkeep b (.inr (.inr (.inr (.inr ⟨i, off, hi, h0, e⟩)))) (fun e2 => (h.o.xc b e2).2 i hi h0 b off e rfl))
  have hnl : (flr (A.cn + 1) (chX (T.cs ++ [y]))) = flr A.cn (chX T.cs) ++ chL y := by
    have hll := h.w.cl
    rw [flr_succ]
    congr 1
    · exact flr_congr fun i hi => by
        show chL ((T.cs ++ [y]).getD i ch0) = chL (T.cs.getD i ch0)
        rw [List.getD_eq_getElem?_getD, List.getElem?_append_left (by omega), ← List.getD_eq_getElem?_getD]
    · show chL ((T.cs ++ [y]).getD A.cn ch0) = _
      rw [List.getD_eq_getElem?_getD, List.getElem?_append_right (by omega), hll, Nat.sub_self]
      rfl
  have hrv : RV (X'.setCell ⟨VB, 17, none⟩ (Value.slice (some ⟨gg, 0, none⟩) (A.cn + 1) cc9)) VB (tbA { T with cs := T.cs ++ [y] } { A with ca := some ⟨gg, 0, none⟩, cn := A.cn + 1, cc := cc9 }) := by
    have h1 : RV X' VB (tbA T A) := (hblk VB h.rv.lt (fun e => g.n VB (.inr (.inr (.inl e))) rfl)).trans h.rv
    exact h1.set 17 _ (by simp [tbA])
  have hr0 : RV (X'.setCell ⟨VB, 17, none⟩ (Value.slice (some ⟨gg, 0, none⟩) (A.cn + 1) cc9)) w.heap.size (#[.int .i64 0, .int .i64 0, .int .i64 0, .int .i64 0, .int .i64 0, .int .i64 0, .int .i64 0, .int .i64 0, .int .i64 0, .int .i64 0, .int .i64 0, .int .i64 0, .int .i64 0, .int .i64 0, .int .i64 0, .slice none 0 0, .slice none 0 0, .slice none 0 0, .slice none 0 0]) := RV.other ((hblk _ h.r0.lt (fun e => by have := hlow _ e; have := g.l; omega)).trans h.r0) (by have := g.v; omega)
  have hnew : (X'.setCell ⟨VB, 17, none⟩ (Value.slice (some ⟨gg, 0, none⟩) (A.cn + 1) cc9)).ownsRow lo 76 4 (Value.slice (some ⟨gg, 0, none⟩) (A.cn + 1) cc9) (A.cn + 1) (flr (A.cn + 1) (chX (T.cs ++ [y]))) := by
    rw [hnl]
    exact owns_block hown fun q e => by
      have e1 : gg = q := by simpa [Value.ownBlock] using e
      subst e1
      exact heap_far _ _ _ _ hgv
  have hfr : ∀ q, InL A q → (Value.slice A.ca A.cn A.cc).ownBlock ≠ some q → gg ≠ q := fun q h1 h2 e => by
    subst e
    rcases hat with e2 | e2
    · exact h2 e2
    · have := (h.o.inl h1).2; omega
  have hap : Ap (.slice A.pa A.pn A.pc) A.Y A.pn (Value.slice (some ⟨gg, 0, none⟩) (A.cn + 1) cc9) := fun q e => by
    have e1 : gg = q := by simpa [Value.ownBlock] using e
    subst e1
    rcases hat with e2 | e2
    · exact h.o.xc gg e2
    · exact ⟨fun e3 => by have := (h.o.pp.lt gg e3).2; omega, fun i hi h0 b off e3 e4 => by
        have := (h.o.inl (.inr (.inr (.inr (.inr ⟨i, off, hi, h0, e3⟩))))).2
        omega⟩
  have hnb : ∀ q, ((Value.slice (some ⟨gg, 0, none⟩) (A.cn + 1) cc9) : Value).ownBlock = some q → q = gg := fun q e => by
    have e1 : gg = q := by simpa [Value.ownBlock] using e
    exact e1.symm
  exact ⟨hct.set VB 17 _ (Nat.le_of_lt g.v), hr0, hrv, ⟨owns_block h.o.pp (fun q e => hkeep q (.inl e) (fun e2 => (h.o.xc q e2).1 e)), owns_block h.o.pd (fun q e => hkeep q (.inr (.inl e)) (fun e2 => h.o.ydc q e e2)), hnew, owns_block h.o.ps (fun q e => hkeep q (.inr (.inr (.inr (.inl e)))) (fun e2 => h.o.ycs q e2 e)), hgood, h.o.ap, h.o.two, h.o.xd, hap, h.o.xs, fun q e e2 => hfr q (.inr (.inl e)) (fun e3 => h.o.ydc q e e3) (hnb q e2).symm, h.o.yds, fun q e e2 => hfr q (.inr (.inr (.inr (.inl e2)))) (fun e3 => h.o.ycs q e3 e2) (hnb q e).symm⟩, ⟨h.w.pl, h.w.dl, (by simp [h.w.cl]), h.w.sl, h.w.pb, h.w.db, by show A.cn + 1 ≤ _; omega, h.w.sb, h.w.wb, h.w.wf, h.w.sf⟩, ⟨h.s.p, h.s.d, by show A.cn + 1 ≤ _; omega, h.s.s, h.s.w⟩, h.c1, h.c2, h.p2⟩
end Go.Proofs.YtlomcdgfcocmmaaGreatDoor
