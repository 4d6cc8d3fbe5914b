/-
  Tables in memory: the copies that the laws make, their likeness and their measure. Conditions: lengths are at most 1048576 where a copy is made.
  The copy of tables that the laws make. Conditions: the lengths are at most 1048576.
  The likeness of two tables that the laws ask for. Conditions: the lengths are at most 1048576.
-/
import Derived.Test.YtlomcdgfcocmmaaGreatDoorBas
import Derived.Test.YtlomcdgfcocmmaaGreatDoorPev
import Derived.Test.YtlomcdgfcocmmaaGreatDoorWns
import Derived.Test.YtlomcdgfcocmmaaGreatDoorIns
import Derived.Test.YtlomcdgfcocmmaaGreatDoorCost
import Derived.Test.YtlomcdgfcocmmaaGreatDoorShp
import Derived.Laws.CopyOwn
import Derived.Laws.Rows
import Derived.Laws.Tables
import Derived.Laws.CopyRow
namespace Go.Proofs.YtlomcdgfcocmmaaGreatDoor
open Go.ChangeShapes Go.WideShapes Go.ChangeAt Go.RowKit Go.Deep Go.Joins
set_option linter.unusedVariables false

/-- Tables, as numbers and lists. -/
structure Tb where
  mem : Int
  s1 : Int
  s2 : Int
  s3 : Int
  tlb : Int
  c1 : Int
  c2 : Int
  c3 : Int
  c4 : Int
  c5 : Int
  c6 : Int
  c7 : Int
  pad : Int
  grd : Int
  maj : Int
  ps : List Pt
  ds : List Int
  cs : List chT
  ss : List slT
/-- Where the lists of tables lie. -/
structure Ad where
  pa : Option Addr
  pn : Nat
  pc : Nat
  da : Option Addr
  dn : Nat
  dc : Nat
  ca : Option Addr
  cn : Nat
  cc : Nat
  sa : Option Addr
  sn : Nat
  sc : Nat
  Y : Nat → Rw
def tbL (t : Tb) (a : Ad) : List Value := [.int .i64 t.mem, .int .i64 t.s1, .int .i64 t.s2, .int .i64 t.s3, .int .i64 t.tlb, .int .i64 t.c1, .int .i64 t.c2, .int .i64 t.c3, .int .i64 t.c4, .int .i64 t.c5, .int .i64 t.c6, .int .i64 t.c7, .int .i64 t.pad, .int .i64 t.grd, .int .i64 t.maj, .slice a.pa a.pn a.pc, .slice a.da a.dn a.dc, .slice a.ca a.cn a.cc, .slice a.sa a.sn a.sc]
abbrev tbV (t : Tb) (a : Ad) : Value := .agg #[.int .i64 t.mem, .int .i64 t.s1, .int .i64 t.s2, .int .i64 t.s3, .int .i64 t.tlb, .int .i64 t.c1, .int .i64 t.c2, .int .i64 t.c3, .int .i64 t.c4, .int .i64 t.c5, .int .i64 t.c6, .int .i64 t.c7, .int .i64 t.pad, .int .i64 t.grd, .int .i64 t.maj, .slice a.pa a.pn a.pc, .slice a.da a.dn a.dc, .slice a.ca a.cn a.cc, .slice a.sa a.sn a.sc]
abbrev tbA (t : Tb) (a : Ad) : Array Value := #[.int .i64 t.mem, .int .i64 t.s1, .int .i64 t.s2, .int .i64 t.s3, .int .i64 t.tlb, .int .i64 t.c1, .int .i64 t.c2, .int .i64 t.c3, .int .i64 t.c4, .int .i64 t.c5, .int .i64 t.c6, .int .i64 t.c7, .int .i64 t.pad, .int .i64 t.grd, .int .i64 t.maj, .slice a.pa a.pn a.pc, .slice a.da a.dn a.dc, .slice a.ca a.cn a.cc, .slice a.sa a.sn a.sc]
/-- The lists lie where they are said to, from 'lo' on. -/
structure TM (lo : Nat) (w : World) (t : Tb) (a : Ad) : Prop where
  p : PSegL lo w a.pa a.pn t.ps a.Y
  d : GSegL 1 lo w a.da a.dn (inX t.ds)
  c : GSegL 4 lo w a.ca a.cn (chX t.cs)
  s : GSegL 3 lo w a.sa a.sn (slX t.ss)
/-- What is known of numbers and lengths alone. -/
structure TW (t : Tb) (a : Ad) : Prop where
  pl : t.ps.length = a.pn
  dl : t.ds.length = a.dn
  cl : t.cs.length = a.cn
  sl : t.ss.length = a.sn
  pb : a.pn ≤ 9223372036854775807
  db : a.dn ≤ 9223372036854775807
  cb : a.cn ≤ 9223372036854775807
  sb : a.sn ≤ 9223372036854775807
  wb : ∀ i, i < a.pn → (a.Y i).wn ≤ 9223372036854775807 ∧ (a.Y i).nm.size ≤ 9223372036854775807
  wf : ∀ i, i < a.pn → ∀ j, j < (t.ps.getD i pt0).ws.length → ((t.ps.getD i pt0).ws.getD j wi0).2.1 ≤ 9223372036854775807
  sf : ∀ i, i < a.sn → (t.ss.getD i sl0).2.1 ≤ 9223372036854775807 ∧ -9223372036854775808 ≤ (t.ss.getD i sl0).2.1
/-- The lengths are small. -/
structure TS (a : Ad) : Prop where
  p : a.pn ≤ 1048576
  d : a.dn ≤ 1048576
  c : a.cn ≤ 1048576
  s : a.sn ≤ 1048576
  w : ∀ i, i < a.pn → (a.Y i).wn ≤ 1048576 ∧ (a.Y i).nm.size ≤ 1048576
theorem TM.below {lo : Nat} {w w' : World} {t : Tb} {a : Ad} (h : TM lo w t a) (hb : Below w.heap.size w w') : TM lo w' t a := ⟨h.p.below hb, h.d.below hb, h.c.below hb, h.s.below hb⟩
theorem TM.wide {lo lo' : Nat} {w : World} {t : Tb} {a : Ad} (h : TM lo w t a) (hl : lo' ≤ lo) : TM lo' w t a := ⟨h.p.wide hl, h.d.wide hl, h.c.wide hl, h.s.wide hl⟩
end Go.Proofs.YtlomcdgfcocmmaaGreatDoor
namespace Go.Proofs.YtlomcdgfcocmmaaGreatDoor
open Go.ChangeShapes Go.WideShapes Go.ChangeAt Go.RowKit Go.Deep Go.Joins
set_option linter.unusedVariables false

theorem block_set_other (w : World) (B' B o : Nat) (v : Value) (hn : B' ≠ B) : (w.setCell ⟨B', o, none⟩ v).heap[B]? = w.heap[B]? := by
  simp [World.setCell, Array.getElem?_modify, hn]
/-- A block of n cells, the first of which have been laid. -/
structure Lay (w : World) (B n : Nat) (done : List Value) : Prop where
  lt : B < w.heap.size
  row : ∃ cur : List Value, w.heap[B]? = some (.cells cur.toArray 33 (0, 0)) ∧ cur.length = n
  free : ∀ j, w.frozen? ⟨B, j, none⟩ = false
  room : ∀ j, j < n → ∃ u, w.cell? ⟨B, j, none⟩ = some u
  cells : CellsAt w B 0 done
theorem Lay.below {w w' : World} {B n : Nat} {done : List Value} (h : Lay w B n done) (hb : Below w.heap.size w w') : Lay w' B n done :=
  ⟨Nat.lt_of_lt_of_le h.lt hb.size, by
    obtain ⟨cur, h1, h2⟩ := h.row
    exact ⟨cur, by rw [hb.block B h.lt]; exact h1, h2⟩, fun j => (hb.frozen (p := ⟨B, j, none⟩) h.lt).trans (h.free j), fun j hj => by
    obtain ⟨u, hu⟩ := h.room j hj
    exact ⟨u, (hb.cell (p := ⟨B, j, none⟩) h.lt).trans hu⟩, h.cells.below hb⟩
theorem row_set {B : Nat} {T : TypeId} (vs : List Value) : ∀ {w : World} {cur : List Value} (o : Nat), w.heap[B]? = some (.cells cur.toArray T (0, 0)) → ∃ cur' : List Value, (setAll w B o vs).heap[B]? = some (.cells cur'.toArray T (0, 0)) ∧ cur'.length = cur.length := by
  induction vs with
  | nil => intro w cur o h; exact ⟨cur, h, rfl⟩
  | cons v vs ih =>
    intro w cur o h
    have h1 : (w.setCell ⟨B, o, none⟩ v).heap[B]? = some (.cells (cur.set o v).toArray T (0, 0)) := by
      rw [setCell_eq_setRow w B o cur.toArray T (0, 0) v h, setRow_heap w B _ _ T (0, 0) h]
      simp
    obtain ⟨cur', h2, h3⟩ := ih (o + 1) h1
    exact ⟨cur', h2, by rw [h3]; simp⟩
theorem block_other {B B' : Nat} (vs : List Value) (hn : B' ≠ B) : ∀ (w : World) (o : Nat), (setAll w B' o vs).heap[B]? = w.heap[B]? := by
  induction vs with
  | nil => intro w o; rfl
  | cons v vs ih =>
    intro w o
    unfold setAll
    rw [ih]
    exact block_set_other w B' B o v hn
theorem Lay.new (w : World) (cs : Array Value) (B n : Nat) (done : List Value) (hB : B = w.heap.size) (hn : cs.size = n) (hd : ∀ (j : Nat) (v : Value), done[j]? = some v → cs[j]? = some v) : Lay (w.alloc (.cells cs 33)) B n done := by
  subst hB
  refine ⟨by simp, ⟨cs.toList, by show (w.heap.push _)[w.heap.size]? = _; simp, by simpa using hn⟩, fun j => by simp, fun j hj => ⟨_, new_cell w cs _ j _ (Array.getElem?_eq_getElem (by omega))⟩, fun j v hj => ?_⟩
  rw [Nat.zero_add]
  exact new_cell w cs _ j v (hd j v hj)
theorem Lay.alloc {w : World} {B n : Nat} {done : List Value} (h : Lay w B n done) (ob : Obj) : Lay (w.alloc ob) B n done := h.below ((Below.refl _ _).alloc (Nat.le_refl _) _)
theorem Lay.other {w : World} {B B' o n : Nat} {done : List Value} (vs : List Value) (h : Lay w B n done) (hn : B' ≠ B) : Lay (setAll w B' o vs) B n done :=
  ⟨by rw [setAll_size]; exact h.lt, by rw [block_other vs hn]; exact h.row, fun j => by rw [setAll_free]; exact h.free j, fun j hj => by rw [setAll_other _ _ _ _ _ _ (.inl (fun e => hn e.symm))]; exact h.room j hj, fun j v hj => by rw [setAll_other _ _ _ _ _ _ (.inl (fun e => hn e.symm))]; exact h.cells j v hj⟩
theorem Lay.put {w : World} {B n o : Nat} {done : List Value} (h : Lay w B n done) (vs : List Value) (ho : done.length = o) (hl : o + vs.length ≤ n) : Lay (setAll w B o vs) B n (done ++ vs) := by
  subst ho
  have hr : ∀ j, j < vs.length → ∃ u, w.cell? ⟨B, done.length + j, none⟩ = some u := fun j hj => h.room _ (by omega)
  have hc := setAll_cells B vs w done.length hr
  refine ⟨by rw [setAll_size]; exact h.lt, by
    obtain ⟨cur, h1, h2⟩ := h.row
    obtain ⟨cur', h3, h4⟩ := row_set vs done.length h1
    exact ⟨cur', h3, by rw [h4]; exact h2⟩, fun j => by rw [setAll_free]; exact h.free j, fun j hj => ?_, fun j v hj => ?_⟩
  · by_cases e : done.length ≤ j ∧ j < done.length + vs.length
    · obtain ⟨q, rfl⟩ : ∃ q, j = done.length + q := ⟨j - done.length, by omega⟩
      exact ⟨_, hc q _ (List.getElem?_eq_getElem (by omega))⟩
    · rw [setAll_other _ _ _ _ _ _ (.inr (by omega))]
      exact h.room j hj
  · rw [Nat.zero_add]
    by_cases e : j < done.length
    · rw [List.getElem?_append_left e] at hj
      rw [setAll_other _ _ _ _ _ _ (.inr (.inl e))]
      have := h.cells j v hj
      rw [Nat.zero_add] at this
      exact this
    · rw [List.getElem?_append_right (by omega)] at hj
      have := hc (j - done.length) v hj
      rw [show done.length + (j - done.length) = j by omega] at this
      exact this
theorem CellsAt.setO {w : World} {b o B o' : Nat} {xs : List Value} (vs : List Value) (h : CellsAt w b o xs) (hn : B ≠ b) : CellsAt (setAll w B o' vs) b o xs := fun j v hj => by
  rw [setAll_other _ _ _ _ _ _ (.inl (fun e => hn e.symm))]
  exact h j v hj
theorem cell0 {w : World} {b : Nat} {vs : List Value} (h : CellsAt w b 0 vs) (j : Nat) {v : Value} (hj : vs[j]? = some v) : w.cell? ⟨b, j, none⟩ = some v := by
  have := h j v hj
  rw [Nat.zero_add] at this
  exact this
theorem GSegL.setRow {k lo B : Nat} {w : World} {a : Option Addr} {n : Nat} {X : Nat → List Value} (cs : Array Value) (h : GSegL k lo w a n X) (hB : B < lo) : GSegL k lo (w.setRow B cs) a n X := fun h0 => by
  obtain ⟨b, off, e, h1, hlt, hc, hf⟩ := h h0
  refine ⟨b, off, e, h1, by rw [setRow_size]; exact hlt, fun i hi j v hj => ?_, fun g j => (World.frozen?_of_block (a := ⟨b, j, none⟩) (setRow_other w B b cs (by omega))).trans (hf g j)⟩
  rw [cell_setRow_other _ _ _ _ (by simp; omega)]
  exact hc i hi j v hj
theorem PSegL.setRow {lo B : Nat} {w : World} {a : Option Addr} {n : Nat} {ps : List Pt} {Y : Nat → Rw} (cs : Array Value) (h : PSegL lo w a n ps Y) (hB : B < lo) : PSegL lo (w.setRow B cs) a n ps Y :=
  ⟨h.1.setRow cs hB, fun i hi => ⟨(h.2 i hi).nm, (h.2 i hi).en, (h.2 i hi).kd, (h.2 i hi).ms, (h.2 i hi).ln, (h.2 i hi).cp, (h.2 i hi).sg.setRow cs hB⟩, fun g b off e i hi => ⟨(h.2 i hi).nm, (h.2 i hi).en, (h.2 i hi).kd, (h.2 i hi).ms, (h.2 i hi).ln, (h.2 i hi).cp, (h.3 g b off e i hi).sg.setRow cs (by have := h.lob e hi; omega)⟩⟩
theorem Lay.full {w : World} {B n : Nat} {done : List Value} (h : Lay w B n done) (hl : done.length = n) : w.heap[B]? = some (.cells done.toArray 33 (0, 0)) := by
  obtain ⟨cur, h1, h2⟩ := h.row
  have e : cur = done := by
    apply List.ext_getElem?
    intro j
    by_cases hj : j < done.length
    · have hc := cell0 h.cells j (List.getElem?_eq_getElem hj)
      rw [cell_of_row w B j cur.toArray _ _ h1] at hc
      rw [List.getElem?_eq_getElem hj]
      simpa using hc
    · rw [List.getElem?_eq_none (by omega), List.getElem?_eq_none (by omega)]
  rw [← e]
  exact h1
/-- What the copy is, once its cells are laid. -/
structure FinT (w W : World) (t : Tb) (a : Ad) (N3 N4 N5 N6 : Nat) (Y3 : Nat → Rw) : Prop where
  b : Below w.heap.size w W
  k : W.heap[w.heap.size + 1]? = some (.cells #[.int .i64 t.mem, .int .i64 t.s1, .int .i64 t.s2, .int .i64 t.s3, .int .i64 t.tlb, .int .i64 t.c1, .int .i64 t.c2, .int .i64 t.c3, .int .i64 t.c4, .int .i64 t.c5, .int .i64 t.c6, .int .i64 t.c7, .int .i64 t.pad, .int .i64 t.grd, .int .i64 t.maj, .slice (some ⟨N3, 0, none⟩) a.pn a.pn, .slice (some ⟨N4, 0, none⟩) a.dn a.dn, .slice (some ⟨N5, 0, none⟩) a.cn a.cn, .slice (some ⟨N6, 0, none⟩) a.sn a.sn] 33 (0, 0))
  p : PSegL (w.heap.size + 3) W (some ⟨N3, 0, none⟩) a.pn t.ps Y3
  d : GSegL 1 (w.heap.size + 3) W (some ⟨N4, 0, none⟩) a.dn (inX t.ds)
  c : GSegL 4 (w.heap.size + 3) W (some ⟨N5, 0, none⟩) a.cn (chX t.cs)
  s : GSegL 3 (w.heap.size + 3) W (some ⟨N6, 0, none⟩) a.sn (slX t.ss)
end Go.Proofs.YtlomcdgfcocmmaaGreatDoor
namespace Go.Proofs.YtlomcdgfcocmmaaGreatDoor
open Go.ChangeShapes Go.WideShapes Go.ChangeAt Go.RowKit Go.Deep Go.Joins
set_option linter.unusedVariables false

end Go.Proofs.YtlomcdgfcocmmaaGreatDoor
