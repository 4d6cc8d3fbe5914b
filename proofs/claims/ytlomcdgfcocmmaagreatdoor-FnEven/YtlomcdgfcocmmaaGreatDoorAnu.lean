
/-
  Tables on the way through the draw that spoils them: what each kind of spoiling makes of them. No conditions but those that each fact names.
-/
import Derived.Test.YtlomcdgfcocmmaaGreatDoorBas
import Derived.Test.YtlomcdgfcocmmaaGreatDoorAnt
namespace Go.Proofs.YtlomcdgfcocmmaaGreatDoor
open Go.ChangeShapes Go.WideShapes Go.ChangeAt Go.RowKit Go.Deep Go.Joins
set_option linter.unusedVariables false

/-- Tables drawn, in their own box, behind a cursor. -/
structure AN (w X : World) (B : Nat) (a : Option Addr) (zs : List Int) (cap VB lo : Nat) (T : Tb) (A : Ad) : Prop where
  ct : CT w X B a zs cap
  r0 : RV X w.heap.size (#[.int .i64 0, .int .i64 0, .int .i64 0, .int .i64 0, .int .i64 0, .int .i64 0, .int .i64 0, .int .i64 0, .int .i64 0, .int .i64 0, .int .i64 0, .int .i64 0, .int .i64 0, .int .i64 0, .int .i64 0, .slice none 0 0, .slice none 0 0, .slice none 0 0, .slice none 0 0])
  rv : RV X VB (tbA T A)
  o : OU lo X T A
  w : TW T A
  s : TS A
  c1 : A.pn ≤ A.pc
  c2 : A.sn ≤ A.sc
  p2 : 2 ≤ A.pn ∧ A.pn ≤ 4
/-- Where the boxes lie. -/
structure AB (w : World) (B VB lo : Nat) (A : Ad) : Prop where
  b : B < w.heap.size
  l : w.heap.size < lo
  v : w.heap.size < VB
  n : ∀ k, InL A k → k ≠ VB
theorem AN.turn {w X Y : World} {B : Nat} {a : Option Addr} {zs : List Int} {cap VB lo : Nat} {T : Tb} {A : Ad} (h : AN w X B a zs cap VB lo T A) (g : AB w B VB lo A) (hc : Cur Y B a zs cap) (ht : Turn B X Y) : AN w Y B a zs cap VB lo T A :=
  ⟨h.ct.step hc ht, h.r0.turn ht (by have := g.b; omega), h.rv.turn ht (by have := g.b; have := g.v; omega), h.o.keep ht.size (fun k hk => ht.block k (h.o.inl hk).2 (by have := (h.o.inl hk).1; have := g.b; have := g.l; omega)), h.w, h.s, h.c1, h.c2, h.p2⟩
theorem AN.alloc {w X : World} {B : Nat} {a : Option Addr} {zs : List Int} {cap VB lo : Nat} {T : Tb} {A : Ad} (h : AN w X B a zs cap VB lo T A) (o : Obj) : AN w (X.alloc o) B a zs cap VB lo T A := by
  have hb : Below X.heap.size X (X.alloc o) := (Below.refl _ _).alloc (Nat.le_refl _) _
  exact ⟨h.ct.alloc o, h.r0.below hb h.r0.lt, h.rv.below hb h.rv.lt, h.o.keep hb.size (fun k hk => hb.block k (h.o.inl hk).2), h.w, h.s, h.c1, h.c2, h.p2⟩
theorem TW.nums {t t' : Tb} {ad : Ad} (h : TW t ad) (h1 : t'.ps = t.ps) (h2 : t'.ds = t.ds) (h3 : t'.cs = t.cs) (h4 : t'.ss = t.ss) : TW t' ad :=
  ⟨by rw [h1]; exact h.pl, by rw [h2]; exact h.dl, by rw [h3]; exact h.cl, by rw [h4]; exact h.sl, h.pb, h.db, h.cb, h.sb, h.wb, by rw [h1]; exact h.wf, by rw [h4]; exact h.sf⟩
/-- A number laid into the box. -/
theorem AN.num {w X : World} {B : Nat} {a : Option Addr} {zs : List Int} {cap VB lo : Nat} {T T' : Tb} {A : Ad} (h : AN w X B a zs cap VB lo T A) (g : AB w B VB lo A) (j : Nat) (v : Value) (e : (tbA T A).setIfInBounds j v = tbA T' A) (h1 : T'.ps = T.ps) (h2 : T'.ds = T.ds) (h3 : T'.cs = T.cs) (h4 : T'.ss = T.ss) : AN w (X.setCell ⟨VB, j, none⟩ v) B a zs cap VB lo T' A :=
  ⟨h.ct.set VB j v (Nat.le_of_lt g.v), h.r0.other (by have := g.v; omega), h.rv.set j v e, (h.o.keep (by simp) (fun k hk => heap_far _ _ _ _ (g.n k hk))).nums h1 h2 h3 h4, h.w.nums h1 h2 h3 h4, h.s, h.c1, h.c2, h.p2⟩
/-- A cell laid into a partition's row. -/
theorem AN.setp {w X : World} {B : Nat} {a : Option Addr} {zs : List Int} {cap VB lo : Nat} {T : Tb} {A : Ad} (h : AN w X B a zs cap VB lo T A) (g : AB w B VB lo A) (i j : Nat) (hi : i < A.pn) (hj : j < 5) (v : Value) (y' : Rw) (p' : Pt) (hy : rwL y' = (rwL (A.Y i)).set j v) (hp : y'.nm = p'.nm ∧ y'.en = p'.en ∧ y'.kd = p'.kd ∧ y'.ms = p'.ms ∧ p'.ws.length = y'.wn ∧ y'.wn ≤ y'.wc) (hw : (y'.wa = (A.Y i).wa ∧ y'.wn = (A.Y i).wn ∧ p'.ws = (T.ps.getD i pt0).ws) ∨ y'.wn = 0) (hn : y'.nm.size ≤ 1048576) (hpw : p'.ws = (T.ps.getD i pt0).ws ∨ p'.ws = []) :
    ∃ b, A.pa = some ⟨b, 0, none⟩ ∧ (∀ o, X.frozen? ⟨b, o, none⟩ = false) ∧ (∀ u, (rwL (A.Y i))[j]? = some u → X.cell? ⟨b, i * 5 + j, none⟩ = some u) ∧ ∃ T' A', tbA T' A' = tbA T A ∧ AN w (X.setCell ⟨b, i * 5 + j, none⟩ v) B a zs cap VB lo T' A' := by
  obtain ⟨b, e, h1, h2, h3, h4, hin, h5⟩ := h.o.set_p h.w.pl i j hi hj v y' p' hy hp hw
  have hwn : y'.wn ≤ (A.Y i).wn := by
    rcases hw with ⟨_, q, _⟩ | q <;> omega
  refine ⟨b, e, h3, h4, { T with ps := T.ps.set i p' }, { A with Y := fun m => if m = i then y' else A.Y m }, rfl, h.ct.set b _ v (by have := g.l; omega), h.r0.other (by have := g.l; omega), h.rv.other (fun e' => g.n b hin e'.symm), h5, ?_, ?_, h.c1, h.c2, h.p2⟩
  · refine ⟨(List.length_set ..).trans h.w.pl, h.w.dl, h.w.cl, h.w.sl, h.w.pb, h.w.db, h.w.cb, h.w.sb, fun m hm => ?_, fun m hm q hq => ?_, h.w.sf⟩
    · show (if m = i then y' else A.Y m).wn ≤ _ ∧ (if m = i then y' else A.Y m).nm.size ≤ _
      have := h.w.wb m hm
      by_cases em : m = i
      · subst em
        rw [if_pos rfl]
        omega
      · rw [if_neg em]
        exact this
    · have hq' : q < ((T.ps.set i p').getD m pt0).ws.length := hq
      show (((T.ps.set i p').getD m pt0).ws.getD q wi0).2.1 ≤ _
      by_cases em : m = i
      · subst em
        have hl := h.w.pl
        have eg : (T.ps.set m p').getD m pt0 = p' := by rw [List.getD_eq_getElem?_getD, List.getElem?_set, if_pos rfl, if_pos (by omega)]; rfl
        rw [eg] at hq' ⊢
        rcases hpw with q1 | q1
        · rw [q1] at hq' ⊢
          exact h.w.wf m hm q hq'
        · rw [q1] at hq'
          exact absurd hq' (by simp)
      · have eg : (T.ps.set i p').getD m pt0 = T.ps.getD m pt0 := by rw [List.getD_eq_getElem?_getD, List.getElem?_set, if_neg (fun e2 => em e2.symm), ← List.getD_eq_getElem?_getD]
        rw [eg] at hq' ⊢
        exact h.w.wf m hm q hq'
  · refine ⟨h.s.p, h.s.d, h.s.c, h.s.s, fun m hm => ?_⟩
    show (if m = i then y' else A.Y m).wn ≤ _ ∧ (if m = i then y' else A.Y m).nm.size ≤ _
    have := h.s.w m hm
    by_cases em : m = i
    · subst em
      rw [if_pos rfl]
      omega
    · rw [if_neg em]
      exact this
/-- A cell laid into a partition's windows. -/
theorem AN.setw {w X : World} {B : Nat} {a : Option Addr} {zs : List Int} {cap VB lo : Nat} {T : Tb} {A : Ad} (h : AN w X B a zs cap VB lo T A) (g : AB w B VB lo A) (i k j : Nat) (hi : i < A.pn) (hk : k < (A.Y i).wn) (hj : j < 3) (v : Value) (x' : wiT) (hx : wiL x' = (wiL ((T.ps.getD i pt0).ws.getD k wi0)).set j v) (hsz : x'.2.1 = ((T.ps.getD i pt0).ws.getD k wi0).2.1) :
    ∃ b off, (A.Y i).wa = some ⟨b, off, none⟩ ∧ (∀ o, X.frozen? ⟨b, o, none⟩ = false) ∧ CellsAt X b (off + k * 3) (wiL ((T.ps.getD i pt0).ws.getD k wi0)) ∧ ∃ T', tbA T' A = tbA T A ∧ AN w (X.setCell ⟨b, off + k * 3 + j, none⟩ v) B a zs cap VB lo T' A := by
  obtain ⟨b, off, e, h1, h2, h3, h4, hin, h5⟩ := h.o.set_w (by have := g.l; omega) h.w.pl i k j hi hk hj v x' hx
  refine ⟨b, off, e, h3, h4, { T with ps := T.ps.set i { T.ps.getD i pt0 with ws := (T.ps.getD i pt0).ws.set k x' } }, rfl, h.ct.set b _ v (by have := g.l; omega), h.r0.other (by have := g.l; omega), h.rv.other (fun e' => g.n b hin e'.symm), h5, ?_, h.s, h.c1, h.c2, h.p2⟩
  refine ⟨(List.length_set ..).trans h.w.pl, h.w.dl, h.w.cl, h.w.sl, h.w.pb, h.w.db, h.w.cb, h.w.sb, h.w.wb, fun m hm q hq => ?_, h.w.sf⟩
  have hq' : q < ((T.ps.set i { T.ps.getD i pt0 with ws := (T.ps.getD i pt0).ws.set k x' }).getD m pt0).ws.length := hq
  show (((T.ps.set i { T.ps.getD i pt0 with ws := (T.ps.getD i pt0).ws.set k x' }).getD m pt0).ws.getD q wi0).2.1 ≤ _
  by_cases em : m = i
  · subst em
    have hl := h.w.pl
    have eg : (T.ps.set m { T.ps.getD m pt0 with ws := (T.ps.getD m pt0).ws.set k x' }).getD m pt0 = { T.ps.getD m pt0 with ws := (T.ps.getD m pt0).ws.set k x' } := by rw [List.getD_eq_getElem?_getD, List.getElem?_set, if_pos rfl, if_pos (by omega)]; rfl
    rw [eg] at hq' ⊢
    have hq2 : q < (T.ps.getD m pt0).ws.length := by simpa using hq'
    have hb := h.w.wf m hm q hq2
    show (((T.ps.getD m pt0).ws.set k x').getD q wi0).2.1 ≤ _
    by_cases eq : q = k
    · subst eq
      rw [List.getD_eq_getElem?_getD, List.getElem?_set, if_pos rfl, if_pos hq2]
      show x'.2.1 ≤ _
      rw [hsz]
      exact hb
    · rw [List.getD_eq_getElem?_getD, List.getElem?_set, if_neg (fun e2 => eq e2.symm), ← List.getD_eq_getElem?_getD]
      exact hb
  · have eg : (T.ps.set i { T.ps.getD i pt0 with ws := (T.ps.getD i pt0).ws.set k x' }).getD m pt0 = T.ps.getD m pt0 := by rw [List.getD_eq_getElem?_getD, List.getElem?_set, if_neg (fun e2 => em e2.symm), ← List.getD_eq_getElem?_getD]
    rw [eg] at hq' ⊢
    exact h.w.wf m hm q hq'
/-- A cell laid into the slots. -/
theorem AN.sets {w X : World} {B : Nat} {a : Option Addr} {zs : List Int} {cap VB lo : Nat} {T : Tb} {A : Ad} (h : AN w X B a zs cap VB lo T A) (g : AB w B VB lo A) (i j : Nat) (hi : i < A.sn) (hj : j < 3) (v : Value) (x' : slT) (hx : slL x' = (slL (T.ss.getD i sl0)).set j v) (hb : x'.2.1 ≤ 9223372036854775807 ∧ -9223372036854775808 ≤ x'.2.1) :
    ∃ b, A.sa = some ⟨b, 0, none⟩ ∧ (∀ o, X.frozen? ⟨b, o, none⟩ = false) ∧ (∀ q u, (slL (T.ss.getD i sl0))[q]? = some u → X.cell? ⟨b, i * 3 + q, none⟩ = some u) ∧ tbA { T with ss := T.ss.set i x' } A = tbA T A ∧ AN w (X.setCell ⟨b, i * 3 + j, none⟩ v) B a zs cap VB lo { T with ss := T.ss.set i x' } A := by
  obtain ⟨b, e, h1, h2, h3, h4, hin, h5⟩ := h.o.set_s h.w.sl i j hi hj v x' hx
  refine ⟨b, e, h3, h4, rfl, h.ct.set b _ v (by have := g.l; omega), h.r0.other (by have := g.l; omega), h.rv.other (fun e' => g.n b hin e'.symm), h5, ?_, h.s, h.c1, h.c2, h.p2⟩
  refine ⟨h.w.pl, h.w.dl, h.w.cl, (List.length_set ..).trans h.w.sl, h.w.pb, h.w.db, h.w.cb, h.w.sb, h.w.wb, h.w.wf, fun m hm => ?_⟩
  show ((T.ss.set i x').getD m sl0).2.1 ≤ _ ∧ _ ≤ ((T.ss.set i x').getD m sl0).2.1
  by_cases em : m = i
  · subst em
    have hl := h.w.sl
    have eg : (T.ss.set m x').getD m sl0 = x' := by rw [List.getD_eq_getElem?_getD, List.getElem?_set, if_pos rfl, if_pos (by omega)]; rfl
    rw [eg]
    exact hb
  · have eg : (T.ss.set i x').getD m sl0 = T.ss.getD m sl0 := by rw [List.getD_eq_getElem?_getD, List.getElem?_set, if_neg (fun e2 => em e2.symm), ← List.getD_eq_getElem?_getD]
    rw [eg]
    exact h.w.sf m hm
/-- No slots: an empty list in a block of its own. -/
theorem AN.noslots {w X : World} {B : Nat} {a : Option Addr} {zs : List Int} {cap VB lo : Nat} {T : Tb} {A : Ad} (h : AN w X B a zs cap VB lo T A) (g : AB w B VB lo A) (hX : lo ≤ X.heap.size) :
    ∃ T' A', AN w ((X.alloc (.cells #[] 42)).setCell ⟨VB, 18, none⟩ (.slice (some ⟨X.heap.size, 0, none⟩) 0 0)) B a zs cap VB lo T' A' := by
  have ha := h.alloc (.cells #[] 42)
  have hvb : X.heap.size ≠ VB := by have := h.rv.lt; omega
  refine ⟨{ T with ss := [] }, { A with sa := some ⟨X.heap.size, 0, none⟩, sn := 0, sc := 0 }, ha.ct.set VB 18 _ (Nat.le_of_lt g.v), ha.r0.other (by have := g.v; omega), ha.rv.set 18 _ (by simp [tbA]), ?_, ?_, ⟨h.s.p, h.s.d, h.s.c, by show 0 ≤ _; omega, h.s.w⟩, h.c1, Nat.le_refl _, h.p2⟩
  · have ho := ha.o.keep (X := (X.alloc (.cells #[] 42)).setCell ⟨VB, 18, none⟩ (.slice (some ⟨X.heap.size, 0, none⟩) 0 0)) (by simp) (fun k hk => heap_far _ _ _ _ (g.n k hk))
    have hfresh : ∀ k, InL A k → k ≠ X.heap.size := fun k hk e => by have := (h.o.inl hk).2; omega
    refine ⟨ho.pp, ho.pd, ho.pc, ⟨rfl, .inr ⟨X.heap.size, 0, #[], rfl, hX, ?_, Nat.le_refl _, Nat.zero_le _, by simp, rfl⟩⟩, ho.pw, ho.ap, ho.two, ho.xd, ho.xc, fun k e => ?_, ho.ydc, fun k e e2 => ?_, fun k e e2 => ?_⟩
    · rw [heap_far _ _ _ _ hvb]
      exact new_row X _ _ _ rfl
    · have e1 : X.heap.size = k := by simpa [Value.ownBlock] using e
      subst e1
      exact ⟨fun e2 => hfresh _ (.inl e2) rfl, fun i hi h0 b off e3 e4 => hfresh b (.inr (.inr (.inr (.inr ⟨i, off, hi, h0, e3⟩)))) e4⟩
    · have e1 : X.heap.size = k := by simpa [Value.ownBlock] using e2
      exact hfresh k (.inr (.inl e)) e1.symm
    · have e1 : X.heap.size = k := by simpa [Value.ownBlock] using e2
      exact hfresh k (.inr (.inr (.inl e))) e1.symm
  · exact ⟨h.w.pl, h.w.dl, h.w.cl, rfl, h.w.pb, h.w.db, h.w.cb, by show 0 ≤ _; omega, h.w.wb, h.w.wf, fun m hm => absurd hm (Nat.not_lt_zero m)⟩
/-- The end: the row goes to the answer's own room. -/
theorem AN.fin {w X : World} {B : Nat} {a : Option Addr} {zs : List Int} {cap VB lo : Nat} {T : Tb} {A : Ad} (h : AN w X B a zs cap VB lo T A) (hb : B < w.heap.size) (hl : w.heap.size < lo) :
    (X.setRow w.heap.size (tbA T A)).heap[w.heap.size]? = some (.cells (tbA T A) 33 (0, 0)) ∧ OU (w.heap.size + 1) (X.setRow w.heap.size (tbA T A)) T A ∧ Cur (X.setRow w.heap.size (tbA T A)) B a zs cap ∧ Turn B w (X.setRow w.heap.size (tbA T A)) := by
  have hct : CT w (X.setRow w.heap.size (tbA T A)) B a zs cap := h.ct.belowC (below_setRow (Below.refl _ _) (Nat.le_refl _) _)
  exact ⟨setRow_heap _ _ _ _ _ _ h.r0, (h.o.keep (by rw [setRow_size]; exact Nat.le_refl _) (fun k hk => setRow_other _ _ _ _ (by have := (h.o.inl hk).1; omega))).low hl, hct.cur, hct.turn⟩
end Go.Proofs.YtlomcdgfcocmmaaGreatDoor
