/-
  Tables in memory: the copies that the laws make, their likeness and their measure. Conditions: lengths are at most 1048576 where a copy is made.
  The copy of tables that the laws make. Conditions: the lengths are at most 1048576.
  The likeness of two tables that the laws ask for. Conditions: the lengths are at most 1048576.
-/
import Derived.Test.YtphdijkpjjokaaaGreatDoorBas
import Derived.Test.YtphdijkpjjokaaaGreatDoorPev
import Derived.Test.YtphdijkpjjokaaaGreatDoorWns
import Derived.Test.YtphdijkpjjokaaaGreatDoorIns
import Derived.Test.YtphdijkpjjokaaaGreatDoorCost
import Derived.Test.YtphdijkpjjokaaaGreatDoorShp
import Derived.Laws.CopyOwn
import Derived.Laws.Rows
import Derived.Laws.Tables
import Derived.Laws.CopyRow
namespace Go.Proofs.YtphdijkpjjokaaaGreatDoor
open Go.ChangeShapes Go.WideShapes Go.ChangeAt Go.RowKit Go.Deep Go.Joins
set_option linter.unusedVariables false

/-- Tables, as numbers and lists. -/
structure Tb where
  mem : Int
  s1 : Int
  s2 : Int
  s3 : Int
  tlb : Int
  c1 : Int
  c2 : Int
  c3 : Int
  c4 : Int
  c5 : Int
  c6 : Int
  c7 : Int
  pad : Int
  grd : Int
  maj : Int
  ps : List Pt
  ds : List Int
  cs : List chT
  ss : List slT
/-- Where the lists of tables lie. -/
structure Ad where
  pa : Option Addr
  pn : Nat
  pc : Nat
  da : Option Addr
  dn : Nat
  dc : Nat
  ca : Option Addr
  cn : Nat
  cc : Nat
  sa : Option Addr
  sn : Nat
  sc : Nat
  Y : Nat → Rw
def tbL (t : Tb) (a : Ad) : List Value := [.int .i64 t.mem, .int .i64 t.s1, .int .i64 t.s2, .int .i64 t.s3, .int .i64 t.tlb, .int .i64 t.c1, .int .i64 t.c2, .int .i64 t.c3, .int .i64 t.c4, .int .i64 t.c5, .int .i64 t.c6, .int .i64 t.c7, .int .i64 t.pad, .int .i64 t.grd, .int .i64 t.maj, .slice a.pa a.pn a.pc, .slice a.da a.dn a.dc, .slice a.ca a.cn a.cc, .slice a.sa a.sn a.sc]
abbrev tbV (t : Tb) (a : Ad) : Value := .agg #[.int .i64 t.mem, .int .i64 t.s1, .int .i64 t.s2, .int .i64 t.s3, .int .i64 t.tlb, .int .i64 t.c1, .int .i64 t.c2, .int .i64 t.c3, .int .i64 t.c4, .int .i64 t.c5, .int .i64 t.c6, .int .i64 t.c7, .int .i64 t.pad, .int .i64 t.grd, .int .i64 t.maj, .slice a.pa a.pn a.pc, .slice a.da a.dn a.dc, .slice a.ca a.cn a.cc, .slice a.sa a.sn a.sc]
abbrev tbA (t : Tb) (a : Ad) : Array Value := #[.int .i64 t.mem, .int .i64 t.s1, .int .i64 t.s2, .int .i64 t.s3, .int .i64 t.tlb, .int .i64 t.c1, .int .i64 t.c2, .int .i64 t.c3, .int .i64 t.c4, .int .i64 t.c5, .int .i64 t.c6, .int .i64 t.c7, .int .i64 t.pad, .int .i64 t.grd, .int .i64 t.maj, .slice a.pa a.pn a.pc, .slice a.da a.dn a.dc, .slice a.ca a.cn a.cc, .slice a.sa a.sn a.sc]
/-- The lists lie where they are said to, from 'lo' on. -/
structure TM (lo : Nat) (w : World) (t : Tb) (a : Ad) : Prop where
  p : PSegL lo w a.pa a.pn t.ps a.Y
  d : GSegL 1 lo w a.da a.dn (inX t.ds)
  c : GSegL 4 lo w a.ca a.cn (chX t.cs)
  s : GSegL 3 lo w a.sa a.sn (slX t.ss)
/-- What is known of numbers and lengths alone. -/
structure TW (t : Tb) (a : Ad) : Prop where
  pl : t.ps.length = a.pn
  dl : t.ds.length = a.dn
  cl : t.cs.length = a.cn
  sl : t.ss.length = a.sn
  pb : a.pn ≤ 9223372036854775807
  db : a.dn ≤ 9223372036854775807
  cb : a.cn ≤ 9223372036854775807
  sb : a.sn ≤ 9223372036854775807
  wb : ∀ i, i < a.pn → (a.Y i).wn ≤ 9223372036854775807 ∧ (a.Y i).nm.size ≤ 9223372036854775807
  wf : ∀ i, i < a.pn → ∀ j, j < (t.ps.getD i pt0).ws.length → ((t.ps.getD i pt0).ws.getD j wi0).2.1 ≤ 9223372036854775807
  sf : ∀ i, i < a.sn → (t.ss.getD i sl0).2.1 ≤ 9223372036854775807 ∧ -9223372036854775808 ≤ (t.ss.getD i sl0).2.1
/-- The lengths are small. -/
structure TS (a : Ad) : Prop where
  p : a.pn ≤ 1048576
  d : a.dn ≤ 1048576
  c : a.cn ≤ 1048576
  s : a.sn ≤ 1048576
  w : ∀ i, i < a.pn → (a.Y i).wn ≤ 1048576 ∧ (a.Y i).nm.size ≤ 1048576
theorem TM.below {lo : Nat} {w w' : World} {t : Tb} {a : Ad} (h : TM lo w t a) (hb : Below w.heap.size w w') : TM lo w' t a := ⟨h.p.below hb, h.d.below hb, h.c.below hb, h.s.below hb⟩
theorem TM.wide {lo lo' : Nat} {w : World} {t : Tb} {a : Ad} (h : TM lo w t a) (hl : lo' ≤ lo) : TM lo' w t a := ⟨h.p.wide hl, h.d.wide hl, h.c.wide hl, h.s.wide hl⟩
set_option maxRecDepth 20000 in
set_option maxHeartbeats 4000000 in
theorem sz_tab (t : Tb) (a : Ad) (w : World) (hm : TM 0 w t a) (hw : TW t a) :
    Calls Tryz.prog 6 #[tbV t a, .int .i64 1048576] w fun e w' => (∃ r : Int, e = .returned (.int .i64 r) ∧ (r = -1 ∨ (0 ≤ r ∧ TS a))) ∧ Below w.heap.size w w' := by
  have HM : Hid (TM 0 w t a) := hm
  have HW : Hid (TW t a) := hw
  clear hm hw
  have HB0 : Hid (Below w.heap.size w (w.alloc (.cells (tbA t a) 31))) := (Below.refl _ _).alloc (Nat.le_refl _) _
  have KB0 : Hid (Bk (w.alloc (.cells (tbA t a) 31)) w.heap.size (tbA t a)) := Bk.new w _ _ _ rfl
  have h8 := HW.out.db
  have h9 := HW.out.cb
  have h10 := HW.out.sb
  have HZ : Hid (∀ X, Below w.heap.size w X → Calls Tryz.prog 21 #[.slice a.pa a.pn a.pc, .int .i64 ((1048576 : Nat) : Int)] X fun e w' => (∃ r : Int, e = .returned (.int .i64 r) ∧ (r = -1 ∨ ∃ d : Nat, r = (d : Int) ∧ d ≤ 1048576 ∧ a.pn ≤ 1048576 ∧ ∀ i, i < a.pn → (a.Y i).wn ≤ 1048576 ∧ (a.Y i).nm.size ≤ 1048576)) ∧ Below X.heap.size X w') := fun X hX => sz_parts a.pa a.pc a.pn 1048576 a.Y X (HM.out.p.below hX).1.seg HW.out.pb (Nat.le_refl _) HW.out.wb
  go_enter Tryz.func6, Tryz.ntmps6
  go_wp2_with fail
  refine (HZ.out _ HB0.out).mono ?_
  rintro e1 w1 ⟨⟨r, rfl, hr⟩, hb1⟩
  have HB1 : Hid (Below w.heap.size w w1) := HB0.out.trans (hb1.mono HB0.out.size)
  have KB1 : Hid (Bk w1 w.heap.size (tbA t a)) := KB0.out.below hb1
  clear hb1 HB0 KB0 HZ
  rcases hr with rfl | ⟨D, rfl, hD, hp, hww⟩
  · go_wp2
    go_ret
    exact ⟨⟨_, rfl, .inl rfl⟩, HB1.out⟩
  have HP : Hid (a.pn ≤ 1048576 ∧ ∀ i, i < a.pn → (a.Y i).wn ≤ 1048576 ∧ (a.Y i).nm.size ≤ 1048576) := ⟨hp, hww⟩
  clear hp hww
  have hd0 : ¬ ((D : Int) < 0) := by omega
  have k16 : w1.cell? ⟨w.heap.size, 16, none⟩ = some (.slice a.da a.dn a.dc) := KB1.out.cell 16 _ rfl
  have k17 : w1.cell? ⟨w.heap.size, 17, none⟩ = some (.slice a.ca a.cn a.cc) := KB1.out.cell 17 _ rfl
  have k18 : w1.cell? ⟨w.heap.size, 18, none⟩ = some (.slice a.sa a.sn a.sc) := KB1.out.cell 18 _ rfl
  go_wp2_with fail
  refine (in_sz a.da a.dc a.dn D _ h8 hD).mono ?_
  rintro e2 w2 ⟨⟨r, rfl, hr⟩, rfl⟩
  rcases hr with rfl | ⟨hr, hd⟩
  · go_wp2
    go_ret
    exact ⟨⟨_, rfl, .inl rfl⟩, HB1.out⟩
  obtain ⟨E, hE⟩ : ∃ E : Nat, D - a.dn = E := ⟨_, rfl⟩
  rw [hE] at hr
  subst hr
  have hE2 : E ≤ 1048576 := by omega
  have he0 : ¬ ((E : Int) < 0) := by omega
  have HD : Hid (a.dn ≤ 1048576) := by show _ ≤ _; omega
  clear hE hd
  go_wp2_with fail
  refine (ch_sz a.ca a.cc a.cn E _ h9 hE2).mono ?_
  rintro e2 w2 ⟨⟨r, rfl, hr⟩, rfl⟩
  rcases hr with rfl | ⟨hr, hd⟩
  · go_wp2
    go_ret
    exact ⟨⟨_, rfl, .inl rfl⟩, HB1.out⟩
  obtain ⟨G, hG⟩ : ∃ G : Nat, E - a.cn = G := ⟨_, rfl⟩
  rw [hG] at hr
  subst hr
  have hG2 : G ≤ 1048576 := by omega
  have hg0 : ¬ ((G : Int) < 0) := by omega
  have HC : Hid (a.cn ≤ 1048576) := by show _ ≤ _; omega
  clear hG hd
  go_wp2_with fail
  refine (sl_sz a.sa a.sc a.sn G _ h10 hG2).mono ?_
  rintro e2 w2 ⟨⟨r, rfl, hr⟩, rfl⟩
  rcases hr with rfl | ⟨hr, hd⟩
  · go_wp2
    go_ret
    exact ⟨⟨_, rfl, .inl rfl⟩, HB1.out⟩
  obtain ⟨J, hJ⟩ : ∃ J : Nat, G - a.sn = J := ⟨_, rfl⟩
  rw [hJ] at hr
  subst hr
  have hj0 : ¬ ((J : Int) < 0) := by omega
  have HS : Hid (a.sn ≤ 1048576) := by show _ ≤ _; omega
  clear hJ hd
  go_wp2
  go_ret
  exact ⟨⟨_, rfl, .inr ⟨by omega, HP.out.1, HD.out, HC.out, HS.out, HP.out.2⟩⟩, HB1.out⟩
end Go.Proofs.YtphdijkpjjokaaaGreatDoor
namespace Go.Proofs.YtphdijkpjjokaaaGreatDoor
open Go.ChangeShapes Go.WideShapes Go.ChangeAt Go.RowKit Go.Deep Go.Joins
set_option linter.unusedVariables false

theorem block_set_other (w : World) (B' B o : Nat) (v : Value) (hn : B' ≠ B) : (w.setCell ⟨B', o, none⟩ v).heap[B]? = w.heap[B]? := by
  simp [World.setCell, Array.getElem?_modify, hn]
/-- A block of n cells, the first of which have been laid. -/
structure Lay (w : World) (B n : Nat) (done : List Value) : Prop where
  lt : B < w.heap.size
  row : ∃ cur : List Value, w.heap[B]? = some (.cells cur.toArray 41 (0, 0)) ∧ cur.length = n
  free : ∀ j, w.frozen? ⟨B, j, none⟩ = false
  room : ∀ j, j < n → ∃ u, w.cell? ⟨B, j, none⟩ = some u
  cells : CellsAt w B 0 done
theorem Lay.below {w w' : World} {B n : Nat} {done : List Value} (h : Lay w B n done) (hb : Below w.heap.size w w') : Lay w' B n done :=
  ⟨Nat.lt_of_lt_of_le h.lt hb.size, by
    obtain ⟨cur, h1, h2⟩ := h.row
    exact ⟨cur, by rw [hb.block B h.lt]; exact h1, h2⟩, fun j => (hb.frozen (p := ⟨B, j, none⟩) h.lt).trans (h.free j), fun j hj => by
    obtain ⟨u, hu⟩ := h.room j hj
    exact ⟨u, (hb.cell (p := ⟨B, j, none⟩) h.lt).trans hu⟩, h.cells.below hb⟩
theorem row_set {B : Nat} {T : TypeId} (vs : List Value) : ∀ {w : World} {cur : List Value} (o : Nat), w.heap[B]? = some (.cells cur.toArray T (0, 0)) → ∃ cur' : List Value, (setAll w B o vs).heap[B]? = some (.cells cur'.toArray T (0, 0)) ∧ cur'.length = cur.length := by
  induction vs with
  | nil => intro w cur o h; exact ⟨cur, h, rfl⟩
  | cons v vs ih =>
    intro w cur o h
    have h1 : (w.setCell ⟨B, o, none⟩ v).heap[B]? = some (.cells (cur.set o v).toArray T (0, 0)) := by
      rw [setCell_eq_setRow w B o cur.toArray T (0, 0) v h, setRow_heap w B _ _ T (0, 0) h]
      simp
    obtain ⟨cur', h2, h3⟩ := ih (o + 1) h1
    exact ⟨cur', h2, by rw [h3]; simp⟩
theorem block_other {B B' : Nat} (vs : List Value) (hn : B' ≠ B) : ∀ (w : World) (o : Nat), (setAll w B' o vs).heap[B]? = w.heap[B]? := by
  induction vs with
  | nil => intro w o; rfl
  | cons v vs ih =>
    intro w o
    unfold setAll
    rw [ih]
    exact block_set_other w B' B o v hn
theorem Lay.new (w : World) (cs : Array Value) (B n : Nat) (done : List Value) (hB : B = w.heap.size) (hn : cs.size = n) (hd : ∀ (j : Nat) (v : Value), done[j]? = some v → cs[j]? = some v) : Lay (w.alloc (.cells cs 41)) B n done := by
  subst hB
  refine ⟨by simp, ⟨cs.toList, by show (w.heap.push _)[w.heap.size]? = _; simp, by simpa using hn⟩, fun j => by simp, fun j hj => ⟨_, new_cell w cs _ j _ (Array.getElem?_eq_getElem (by omega))⟩, fun j v hj => ?_⟩
  rw [Nat.zero_add]
  exact new_cell w cs _ j v (hd j v hj)
theorem Lay.alloc {w : World} {B n : Nat} {done : List Value} (h : Lay w B n done) (ob : Obj) : Lay (w.alloc ob) B n done := h.below ((Below.refl _ _).alloc (Nat.le_refl _) _)
theorem Lay.other {w : World} {B B' o n : Nat} {done : List Value} (vs : List Value) (h : Lay w B n done) (hn : B' ≠ B) : Lay (setAll w B' o vs) B n done :=
  ⟨by rw [setAll_size]; exact h.lt, by rw [block_other vs hn]; exact h.row, fun j => by rw [setAll_free]; exact h.free j, fun j hj => by rw [setAll_other _ _ _ _ _ _ (.inl (fun e => hn e.symm))]; exact h.room j hj, fun j v hj => by rw [setAll_other _ _ _ _ _ _ (.inl (fun e => hn e.symm))]; exact h.cells j v hj⟩
theorem Lay.put {w : World} {B n o : Nat} {done : List Value} (h : Lay w B n done) (vs : List Value) (ho : done.length = o) (hl : o + vs.length ≤ n) : Lay (setAll w B o vs) B n (done ++ vs) := by
  subst ho
  have hr : ∀ j, j < vs.length → ∃ u, w.cell? ⟨B, done.length + j, none⟩ = some u := fun j hj => h.room _ (by omega)
  have hc := setAll_cells B vs w done.length hr
  refine ⟨by rw [setAll_size]; exact h.lt, by
    obtain ⟨cur, h1, h2⟩ := h.row
    obtain ⟨cur', h3, h4⟩ := row_set vs done.length h1
    exact ⟨cur', h3, by rw [h4]; exact h2⟩, fun j => by rw [setAll_free]; exact h.free j, fun j hj => ?_, fun j v hj => ?_⟩
  · by_cases e : done.length ≤ j ∧ j < done.length + vs.length
    · obtain ⟨q, rfl⟩ : ∃ q, j = done.length + q := ⟨j - done.length, by omega⟩
      exact ⟨_, hc q _ (List.getElem?_eq_getElem (by omega))⟩
    · rw [setAll_other _ _ _ _ _ _ (.inr (by omega))]
      exact h.room j hj
  · rw [Nat.zero_add]
    by_cases e : j < done.length
    · rw [List.getElem?_append_left e] at hj
      rw [setAll_other _ _ _ _ _ _ (.inr (.inl e))]
      have := h.cells j v hj
      rw [Nat.zero_add] at this
      exact this
    · rw [List.getElem?_append_right (by omega)] at hj
      have := hc (j - done.length) v hj
      rw [show done.length + (j - done.length) = j by omega] at this
      exact this
theorem CellsAt.setO {w : World} {b o B o' : Nat} {xs : List Value} (vs : List Value) (h : CellsAt w b o xs) (hn : B ≠ b) : CellsAt (setAll w B o' vs) b o xs := fun j v hj => by
  rw [setAll_other _ _ _ _ _ _ (.inl (fun e => hn e.symm))]
  exact h j v hj
theorem cell0 {w : World} {b : Nat} {vs : List Value} (h : CellsAt w b 0 vs) (j : Nat) {v : Value} (hj : vs[j]? = some v) : w.cell? ⟨b, j, none⟩ = some v := by
  have := h j v hj
  rw [Nat.zero_add] at this
  exact this
theorem GSegL.setRow {k lo B : Nat} {w : World} {a : Option Addr} {n : Nat} {X : Nat → List Value} (cs : Array Value) (h : GSegL k lo w a n X) (hB : B < lo) : GSegL k lo (w.setRow B cs) a n X := fun h0 => by
  obtain ⟨b, off, e, h1, hlt, hc, hf⟩ := h h0
  refine ⟨b, off, e, h1, by rw [setRow_size]; exact hlt, fun i hi j v hj => ?_, fun g j => (World.frozen?_of_block (a := ⟨b, j, none⟩) (setRow_other w B b cs (by omega))).trans (hf g j)⟩
  rw [cell_setRow_other _ _ _ _ (by simp; omega)]
  exact hc i hi j v hj
theorem PSegL.setRow {lo B : Nat} {w : World} {a : Option Addr} {n : Nat} {ps : List Pt} {Y : Nat → Rw} (cs : Array Value) (h : PSegL lo w a n ps Y) (hB : B < lo) : PSegL lo (w.setRow B cs) a n ps Y :=
  ⟨h.1.setRow cs hB, fun i hi => ⟨(h.2 i hi).nm, (h.2 i hi).en, (h.2 i hi).kd, (h.2 i hi).ms, (h.2 i hi).ln, (h.2 i hi).cp, (h.2 i hi).sg.setRow cs hB⟩, fun g b off e i hi => ⟨(h.2 i hi).nm, (h.2 i hi).en, (h.2 i hi).kd, (h.2 i hi).ms, (h.2 i hi).ln, (h.2 i hi).cp, (h.3 g b off e i hi).sg.setRow cs (by have := h.lob e hi; omega)⟩⟩
theorem Lay.full {w : World} {B n : Nat} {done : List Value} (h : Lay w B n done) (hl : done.length = n) : w.heap[B]? = some (.cells done.toArray 41 (0, 0)) := by
  obtain ⟨cur, h1, h2⟩ := h.row
  have e : cur = done := by
    apply List.ext_getElem?
    intro j
    by_cases hj : j < done.length
    · have hc := cell0 h.cells j (List.getElem?_eq_getElem hj)
      rw [cell_of_row w B j cur.toArray _ _ h1] at hc
      rw [List.getElem?_eq_getElem hj]
      simpa using hc
    · rw [List.getElem?_eq_none (by omega), List.getElem?_eq_none (by omega)]
  rw [← e]
  exact h1
theorem res_tab {W : World} {B : Nat} {cs : Array Value} {tmps : Array Value} (h : W.heap[B]? = some (.cells cs 41 (0, 0))) (hl : cs.size = 19) (ht : tmps[2]? = some (.pointer (some ⟨B, 0, none⟩))) : (results Tryz.f8 tmps).run Tryz.prog W = .ok (.agg cs) W := by
  have hld : (loadVar 41 ⟨B, 0, none⟩).run Tryz.prog W = .ok (.agg cs) W := run_loadVar_row (P := Tryz.prog) W B 41 41 cs (0, 0) _ h Tryz.underlying41 rfl (by rw [hl]; kernel_rfl)
  unfold results
  rw [Tryz.results8]
  simp [ht, asAddr, hld]
/-- What the copy is, once its cells are laid. -/
structure FinT (w W : World) (t : Tb) (a : Ad) (N3 N4 N5 N6 : Nat) (Y3 : Nat → Rw) : Prop where
  b : Below w.heap.size w W
  k : W.heap[w.heap.size + 1]? = some (.cells #[.int .i64 t.mem, .int .i64 t.s1, .int .i64 t.s2, .int .i64 t.s3, .int .i64 t.tlb, .int .i64 t.c1, .int .i64 t.c2, .int .i64 t.c3, .int .i64 t.c4, .int .i64 t.c5, .int .i64 t.c6, .int .i64 t.c7, .int .i64 t.pad, .int .i64 t.grd, .int .i64 t.maj, .slice (some ⟨N3, 0, none⟩) a.pn a.pn, .slice (some ⟨N4, 0, none⟩) a.dn a.dn, .slice (some ⟨N5, 0, none⟩) a.cn a.cn, .slice (some ⟨N6, 0, none⟩) a.sn a.sn] 41 (0, 0))
  p : PSegL (w.heap.size + 3) W (some ⟨N3, 0, none⟩) a.pn t.ps Y3
  d : GSegL 1 (w.heap.size + 3) W (some ⟨N4, 0, none⟩) a.dn (inX t.ds)
  c : GSegL 4 (w.heap.size + 3) W (some ⟨N5, 0, none⟩) a.cn (chX t.cs)
  s : GSegL 3 (w.heap.size + 3) W (some ⟨N6, 0, none⟩) a.sn (slX t.ss)
set_option maxRecDepth 40000 in
set_option maxHeartbeats 8000000 in
theorem to_tab (t : Tb) (a : Ad) (w : World) (hm : TM 0 w t a) (hs : TS a) :
    Calls Tryz.prog 8 #[tbV t a] w fun e w' => ∃ a', e = .returned (tbV t a') ∧ Below w.heap.size w w' ∧ TM w.heap.size w' t a' ∧ (a'.pn = a.pn ∧ a'.dn = a.dn ∧ a'.cn = a.cn ∧ a'.sn = a.sn) ∧ (a'.pc = a.pn ∧ a'.dc = a.dn ∧ a'.cc = a.cn ∧ a'.sc = a.sn) := by
  have HM : Hid (∀ X, Below w.heap.size w X → TM 0 X t a) := fun X hX => hm.below hX
  have HS : Hid (TS a) := hs
  clear hm hs
  have HB0 : Hid (Below w.heap.size w (((w.alloc (.cells (tbA t a) 31)).alloc (.cells #[.int .i64 0, .int .i64 0, .int .i64 0, .int .i64 0, .int .i64 0, .int .i64 0, .int .i64 0, .int .i64 0, .int .i64 0, .int .i64 0, .int .i64 0, .int .i64 0, .int .i64 0, .int .i64 0, .int .i64 0, .slice none 0 0, .slice none 0 0, .slice none 0 0, .slice none 0 0] 41)).alloc (.cells #[.int .i64 t.mem, .int .i64 0, .int .i64 0, .int .i64 0, .int .i64 0, .int .i64 0, .int .i64 0, .int .i64 0, .int .i64 0, .int .i64 0, .int .i64 0, .int .i64 0, .int .i64 0, .int .i64 0, .int .i64 0, .slice none 0 0, .slice none 0 0, .slice none 0 0, .slice none 0 0] 41))) := (((Below.refl _ _).alloc (Nat.le_refl _) _).alloc (by simp) _).alloc (by simp; omega) _
  have KB0 : Hid (CellsAt (((w.alloc (.cells (tbA t a) 31)).alloc (.cells #[.int .i64 0, .int .i64 0, .int .i64 0, .int .i64 0, .int .i64 0, .int .i64 0, .int .i64 0, .int .i64 0, .int .i64 0, .int .i64 0, .int .i64 0, .int .i64 0, .int .i64 0, .int .i64 0, .int .i64 0, .slice none 0 0, .slice none 0 0, .slice none 0 0, .slice none 0 0] 41)).alloc (.cells #[.int .i64 t.mem, .int .i64 0, .int .i64 0, .int .i64 0, .int .i64 0, .int .i64 0, .int .i64 0, .int .i64 0, .int .i64 0, .int .i64 0, .int .i64 0, .int .i64 0, .int .i64 0, .int .i64 0, .int .i64 0, .slice none 0 0, .slice none 0 0, .slice none 0 0, .slice none 0 0] 41)) w.heap.size 0 (tbL t a)) := ((CellsAt.new w (tbL t a) _ _ rfl).alloc _).alloc _
  have KR0 : Hid (Lay (((w.alloc (.cells (tbA t a) 31)).alloc (.cells #[.int .i64 0, .int .i64 0, .int .i64 0, .int .i64 0, .int .i64 0, .int .i64 0, .int .i64 0, .int .i64 0, .int .i64 0, .int .i64 0, .int .i64 0, .int .i64 0, .int .i64 0, .int .i64 0, .int .i64 0, .slice none 0 0, .slice none 0 0, .slice none 0 0, .slice none 0 0] 41)).alloc (.cells #[.int .i64 t.mem, .int .i64 0, .int .i64 0, .int .i64 0, .int .i64 0, .int .i64 0, .int .i64 0, .int .i64 0, .int .i64 0, .int .i64 0, .int .i64 0, .int .i64 0, .int .i64 0, .int .i64 0, .int .i64 0, .slice none 0 0, .slice none 0 0, .slice none 0 0, .slice none 0 0] 41)) (w.heap.size + 1) 19 []) := (Lay.new _ _ _ _ _ (by simp) rfl (fun j v hj => by simp at hj)).alloc _
  have KO0 : Hid (Lay (((w.alloc (.cells (tbA t a) 31)).alloc (.cells #[.int .i64 0, .int .i64 0, .int .i64 0, .int .i64 0, .int .i64 0, .int .i64 0, .int .i64 0, .int .i64 0, .int .i64 0, .int .i64 0, .int .i64 0, .int .i64 0, .int .i64 0, .int .i64 0, .int .i64 0, .slice none 0 0, .slice none 0 0, .slice none 0 0, .slice none 0 0] 41)).alloc (.cells #[.int .i64 t.mem, .int .i64 0, .int .i64 0, .int .i64 0, .int .i64 0, .int .i64 0, .int .i64 0, .int .i64 0, .int .i64 0, .int .i64 0, .int .i64 0, .int .i64 0, .int .i64 0, .int .i64 0, .int .i64 0, .slice none 0 0, .slice none 0 0, .slice none 0 0, .slice none 0 0] 41)) (w.heap.size + 2) 19 [.int .i64 t.mem]) := Lay.new _ _ _ _ _ (by simp) rfl (fun j v hj => by match j, hj with | 0, hj => exact hj | j + 1, hj => simp at hj)
  have HZ0 : Hid (w.heap.size + 3 ≤ (((w.alloc (.cells (tbA t a) 31)).alloc (.cells #[.int .i64 0, .int .i64 0, .int .i64 0, .int .i64 0, .int .i64 0, .int .i64 0, .int .i64 0, .int .i64 0, .int .i64 0, .int .i64 0, .int .i64 0, .int .i64 0, .int .i64 0, .int .i64 0, .int .i64 0, .slice none 0 0, .slice none 0 0, .slice none 0 0, .slice none 0 0] 41)).alloc (.cells #[.int .i64 t.mem, .int .i64 0, .int .i64 0, .int .i64 0, .int .i64 0, .int .i64 0, .int .i64 0, .int .i64 0, .int .i64 0, .int .i64 0, .int .i64 0, .int .i64 0, .int .i64 0, .int .i64 0, .int .i64 0, .slice none 0 0, .slice none 0 0, .slice none 0 0, .slice none 0 0] 41)).heap.size) := by show _ ≤ _; simp
  go_enter Tryz.func8, Tryz.ntmps8
  go_wp2_with fail
  refine (to_shape t.s1 t.s2 t.s3 _).mono ?_
  rintro e1 w1 ⟨rfl, hb1⟩
  have HB1 : Hid (Below w.heap.size w w1) := HB0.out.trans (hb1.mono HB0.out.size)
  have KB1 : Hid (CellsAt w1 w.heap.size 0 (tbL t a)) := KB0.out.below hb1
  have KR1 : Hid (Lay w1 (w.heap.size + 1) 19 []) := KR0.out.below hb1
  have KO1 : Hid (Lay w1 (w.heap.size + 2) 19 [.int .i64 t.mem]) := KO0.out.below hb1
  have HZ1 : Hid (w.heap.size + 3 ≤ w1.heap.size) := Nat.le_trans HZ0.out hb1.size
  clear hb1 HB0 KB0 KR0 KO0 HZ0
  have HBV1 : Hid (Below w.heap.size w (setAll w1 (w.heap.size + 2) 1 [.int .i64 t.s1, .int .i64 t.s2, .int .i64 t.s3, .int .i64 t.tlb])) := setAll_below (by omega) _ _ HB1.out
  have KBV1 : Hid (CellsAt (setAll w1 (w.heap.size + 2) 1 [.int .i64 t.s1, .int .i64 t.s2, .int .i64 t.s3, .int .i64 t.tlb]) w.heap.size 0 (tbL t a)) := KB1.out.setO _ (by omega)
  have KRV1 : Hid (Lay (setAll w1 (w.heap.size + 2) 1 [.int .i64 t.s1, .int .i64 t.s2, .int .i64 t.s3, .int .i64 t.tlb]) (w.heap.size + 1) 19 []) := KR1.out.other _ (by omega)
  have KOV1 : Hid (Lay (setAll w1 (w.heap.size + 2) 1 [.int .i64 t.s1, .int .i64 t.s2, .int .i64 t.s3, .int .i64 t.tlb]) (w.heap.size + 2) 19 [.int .i64 t.mem, .int .i64 t.s1, .int .i64 t.s2, .int .i64 t.s3, .int .i64 t.tlb]) := KO1.out.put [.int .i64 t.s1, .int .i64 t.s2, .int .i64 t.s3, .int .i64 t.tlb] rfl (by simp)
  have HZV1 : Hid (w.heap.size + 3 ≤ (setAll w1 (w.heap.size + 2) 1 [.int .i64 t.s1, .int .i64 t.s2, .int .i64 t.s3, .int .i64 t.tlb]).heap.size) := by show _ ≤ _; rw [setAll_size]; exact HZ1.out
  simp only [setAll] at HBV1 KBV1 KRV1 KOV1 HZV1
  obtain ⟨ou1, o1⟩ := KO1.out.room 1 (by omega)
  obtain ⟨ou2, o2⟩ := KO1.out.room 2 (by omega)
  obtain ⟨ou3, o3⟩ := KO1.out.room 3 (by omega)
  obtain ⟨ou4, o4⟩ := KO1.out.room 4 (by omega)
  have of := KO1.out.free
  have b4 : w1.cell? ⟨w.heap.size, 4, none⟩ = some (.int .i64 t.tlb) := cell0 KB1.out 4 rfl
  have b5 : w1.cell? ⟨w.heap.size, 5, none⟩ = some (.int .i64 t.c1) := cell0 KB1.out 5 rfl
  have b6 : w1.cell? ⟨w.heap.size, 6, none⟩ = some (.int .i64 t.c2) := cell0 KB1.out 6 rfl
  have b7 : w1.cell? ⟨w.heap.size, 7, none⟩ = some (.int .i64 t.c3) := cell0 KB1.out 7 rfl
  have b8 : w1.cell? ⟨w.heap.size, 8, none⟩ = some (.int .i64 t.c4) := cell0 KB1.out 8 rfl
  have b9 : w1.cell? ⟨w.heap.size, 9, none⟩ = some (.int .i64 t.c5) := cell0 KB1.out 9 rfl
  have b10 : w1.cell? ⟨w.heap.size, 10, none⟩ = some (.int .i64 t.c6) := cell0 KB1.out 10 rfl
  have b11 : w1.cell? ⟨w.heap.size, 11, none⟩ = some (.int .i64 t.c7) := cell0 KB1.out 11 rfl
  go_wp2_with fail
  refine Calls.mono (to_costs t.c1 t.c2 t.c3 t.c4 t.c5 t.c6 t.c7 _) ?_
  clear o1 o2 o3 o4 of b4 b5 b6 b7 b8 b9 b10 b11
  revert HBV1 KBV1 KRV1 KOV1 HZV1
  generalize ((((w1.setCell ⟨w.heap.size + 2, 1, none⟩ (.int .i64 t.s1)).setCell ⟨w.heap.size + 2, 2, none⟩ (.int .i64 t.s2)).setCell ⟨w.heap.size + 2, 3, none⟩ (.int .i64 t.s3)).setCell ⟨w.heap.size + 2, 4, none⟩ (.int .i64 t.tlb)) = V1
  intro HBV1 KBV1 KRV1 KOV1 HZV1
  rintro e2 w2 ⟨rfl, hb2⟩
  have HB2 : Hid (Below w.heap.size w w2) := HBV1.out.trans (hb2.mono HBV1.out.size)
  have KB2 : Hid (CellsAt w2 w.heap.size 0 (tbL t a)) := KBV1.out.below hb2
  have KR2 : Hid (Lay w2 (w.heap.size + 1) 19 []) := KRV1.out.below hb2
  have KO2 : Hid (Lay w2 (w.heap.size + 2) 19 [.int .i64 t.mem, .int .i64 t.s1, .int .i64 t.s2, .int .i64 t.s3, .int .i64 t.tlb]) := KOV1.out.below hb2
  have HZ2 : Hid (w.heap.size + 3 ≤ w2.heap.size) := Nat.le_trans HZV1.out hb2.size
  clear hb2 HBV1 KBV1 KRV1 KOV1 HZV1 HB1 KB1 KR1 KO1 HZ1
  have HBV2 : Hid (Below w.heap.size w (setAll w2 (w.heap.size + 2) 5 [.int .i64 t.c1, .int .i64 t.c2, .int .i64 t.c3, .int .i64 t.c4, .int .i64 t.c5, .int .i64 t.c6, .int .i64 t.c7, .int .i64 t.pad, .int .i64 t.grd, .int .i64 t.maj])) := setAll_below (by omega) _ _ HB2.out
  have KBV2 : Hid (CellsAt (setAll w2 (w.heap.size + 2) 5 [.int .i64 t.c1, .int .i64 t.c2, .int .i64 t.c3, .int .i64 t.c4, .int .i64 t.c5, .int .i64 t.c6, .int .i64 t.c7, .int .i64 t.pad, .int .i64 t.grd, .int .i64 t.maj]) w.heap.size 0 (tbL t a)) := KB2.out.setO _ (by omega)
  have KRV2 : Hid (Lay (setAll w2 (w.heap.size + 2) 5 [.int .i64 t.c1, .int .i64 t.c2, .int .i64 t.c3, .int .i64 t.c4, .int .i64 t.c5, .int .i64 t.c6, .int .i64 t.c7, .int .i64 t.pad, .int .i64 t.grd, .int .i64 t.maj]) (w.heap.size + 1) 19 []) := KR2.out.other _ (by omega)
  have KOV2 : Hid (Lay (setAll w2 (w.heap.size + 2) 5 [.int .i64 t.c1, .int .i64 t.c2, .int .i64 t.c3, .int .i64 t.c4, .int .i64 t.c5, .int .i64 t.c6, .int .i64 t.c7, .int .i64 t.pad, .int .i64 t.grd, .int .i64 t.maj]) (w.heap.size + 2) 19 [.int .i64 t.mem, .int .i64 t.s1, .int .i64 t.s2, .int .i64 t.s3, .int .i64 t.tlb, .int .i64 t.c1, .int .i64 t.c2, .int .i64 t.c3, .int .i64 t.c4, .int .i64 t.c5, .int .i64 t.c6, .int .i64 t.c7, .int .i64 t.pad, .int .i64 t.grd, .int .i64 t.maj]) := KO2.out.put [.int .i64 t.c1, .int .i64 t.c2, .int .i64 t.c3, .int .i64 t.c4, .int .i64 t.c5, .int .i64 t.c6, .int .i64 t.c7, .int .i64 t.pad, .int .i64 t.grd, .int .i64 t.maj] rfl (by simp)
  have HZV2 : Hid (w.heap.size + 3 ≤ (setAll w2 (w.heap.size + 2) 5 [.int .i64 t.c1, .int .i64 t.c2, .int .i64 t.c3, .int .i64 t.c4, .int .i64 t.c5, .int .i64 t.c6, .int .i64 t.c7, .int .i64 t.pad, .int .i64 t.grd, .int .i64 t.maj]).heap.size) := by show _ ≤ _; rw [setAll_size]; exact HZ2.out
  simp only [setAll] at HBV2 KBV2 KRV2 KOV2 HZV2
  obtain ⟨ou5, o5⟩ := KO2.out.room 5 (by omega)
  obtain ⟨ou6, o6⟩ := KO2.out.room 6 (by omega)
  obtain ⟨ou7, o7⟩ := KO2.out.room 7 (by omega)
  obtain ⟨ou8, o8⟩ := KO2.out.room 8 (by omega)
  obtain ⟨ou9, o9⟩ := KO2.out.room 9 (by omega)
  obtain ⟨ou10, o10⟩ := KO2.out.room 10 (by omega)
  obtain ⟨ou11, o11⟩ := KO2.out.room 11 (by omega)
  obtain ⟨ou12, o12⟩ := KO2.out.room 12 (by omega)
  obtain ⟨ou13, o13⟩ := KO2.out.room 13 (by omega)
  obtain ⟨ou14, o14⟩ := KO2.out.room 14 (by omega)
  have of := KO2.out.free
  have b12 : w2.cell? ⟨w.heap.size, 12, none⟩ = some (.int .i64 t.pad) := cell0 KB2.out 12 rfl
  have b13 : w2.cell? ⟨w.heap.size, 13, none⟩ = some (.int .i64 t.grd) := cell0 KB2.out 13 rfl
  have b14 : w2.cell? ⟨w.heap.size, 14, none⟩ = some (.int .i64 t.maj) := cell0 KB2.out 14 rfl
  have b15 : w2.cell? ⟨w.heap.size, 15, none⟩ = some (.slice a.pa a.pn a.pc) := cell0 KB2.out 15 rfl
  go_wp2_with fail
  refine Calls.mono (to_parts a.pa a.pc a.pn t.ps a.Y _ (HM.out _ HBV2.out).p HS.out.p (fun i hi => (HS.out.w i hi).1)) ?_
  clear o5 o6 o7 o8 o9 o10 o11 o12 o13 o14 of b12 b13 b14 b15
  revert HBV2 KBV2 KRV2 KOV2 HZV2
  generalize ((((((((((w2.setCell ⟨w.heap.size + 2, 5, none⟩ (.int .i64 t.c1)).setCell ⟨w.heap.size + 2, 6, none⟩ (.int .i64 t.c2)).setCell ⟨w.heap.size + 2, 7, none⟩ (.int .i64 t.c3)).setCell ⟨w.heap.size + 2, 8, none⟩ (.int .i64 t.c4)).setCell ⟨w.heap.size + 2, 9, none⟩ (.int .i64 t.c5)).setCell ⟨w.heap.size + 2, 10, none⟩ (.int .i64 t.c6)).setCell ⟨w.heap.size + 2, 11, none⟩ (.int .i64 t.c7)).setCell ⟨w.heap.size + 2, 12, none⟩ (.int .i64 t.pad)).setCell ⟨w.heap.size + 2, 13, none⟩ (.int .i64 t.grd)).setCell ⟨w.heap.size + 2, 14, none⟩ (.int .i64 t.maj)) = V2
  intro HBV2 KBV2 KRV2 KOV2 HZV2
  rintro e3 w3 ⟨rfl, hb3, Y3, hseg⟩
  obtain ⟨N3, hN3⟩ : ∃ N, V2.heap.size = N := ⟨_, rfl⟩
  have HP3 : Hid (PSegL (w.heap.size + 3) w3 (some ⟨N3, 0, none⟩) a.pn t.ps Y3) := by rw [← hN3]; exact hseg.wide HZV2.out
  have HB3 : Hid (Below w.heap.size w w3) := HBV2.out.trans (hb3.mono HBV2.out.size)
  have KB3 : Hid (CellsAt w3 w.heap.size 0 (tbL t a)) := KBV2.out.below hb3
  have KR3 : Hid (Lay w3 (w.heap.size + 1) 19 []) := KRV2.out.below hb3
  have KO3 : Hid (Lay w3 (w.heap.size + 2) 19 [.int .i64 t.mem, .int .i64 t.s1, .int .i64 t.s2, .int .i64 t.s3, .int .i64 t.tlb, .int .i64 t.c1, .int .i64 t.c2, .int .i64 t.c3, .int .i64 t.c4, .int .i64 t.c5, .int .i64 t.c6, .int .i64 t.c7, .int .i64 t.pad, .int .i64 t.grd, .int .i64 t.maj]) := KOV2.out.below hb3
  have HZ3 : Hid (w.heap.size + 3 ≤ w3.heap.size) := Nat.le_trans HZV2.out hb3.size
  rw [hN3]
  clear hb3 HBV2 KBV2 KRV2 KOV2 HZV2 HB2 KB2 KR2 KO2 HZ2 hseg
  clear hN3
  have HBV3 : Hid (Below w.heap.size w (setAll w3 (w.heap.size + 2) 15 [.slice (some ⟨N3, 0, none⟩) a.pn a.pn])) := setAll_below (by omega) _ _ HB3.out
  have KBV3 : Hid (CellsAt (setAll w3 (w.heap.size + 2) 15 [.slice (some ⟨N3, 0, none⟩) a.pn a.pn]) w.heap.size 0 (tbL t a)) := KB3.out.setO _ (by omega)
  have KRV3 : Hid (Lay (setAll w3 (w.heap.size + 2) 15 [.slice (some ⟨N3, 0, none⟩) a.pn a.pn]) (w.heap.size + 1) 19 []) := KR3.out.other _ (by omega)
  have KOV3 : Hid (Lay (setAll w3 (w.heap.size + 2) 15 [.slice (some ⟨N3, 0, none⟩) a.pn a.pn]) (w.heap.size + 2) 19 [.int .i64 t.mem, .int .i64 t.s1, .int .i64 t.s2, .int .i64 t.s3, .int .i64 t.tlb, .int .i64 t.c1, .int .i64 t.c2, .int .i64 t.c3, .int .i64 t.c4, .int .i64 t.c5, .int .i64 t.c6, .int .i64 t.c7, .int .i64 t.pad, .int .i64 t.grd, .int .i64 t.maj, .slice (some ⟨N3, 0, none⟩) a.pn a.pn]) := KO3.out.put [.slice (some ⟨N3, 0, none⟩) a.pn a.pn] rfl (by simp)
  have HZV3 : Hid (w.heap.size + 3 ≤ (setAll w3 (w.heap.size + 2) 15 [.slice (some ⟨N3, 0, none⟩) a.pn a.pn]).heap.size) := by show _ ≤ _; rw [setAll_size]; exact HZ3.out
  have HPV3 : Hid (PSegL (w.heap.size + 3) (setAll w3 (w.heap.size + 2) 15 [.slice (some ⟨N3, 0, none⟩) a.pn a.pn]) (some ⟨N3, 0, none⟩) a.pn t.ps Y3) := HP3.out.setAll _ (by omega)
  simp only [setAll] at HBV3 KBV3 KRV3 KOV3 HZV3 HPV3
  obtain ⟨ou15, o15⟩ := KO3.out.room 15 (by omega)
  have of := KO3.out.free
  have b16 : w3.cell? ⟨w.heap.size, 16, none⟩ = some (.slice a.da a.dn a.dc) := cell0 KB3.out 16 rfl
  go_wp2_with fail
  refine Calls.mono (in_tos a.da a.dc a.dn t.ds _ (HM.out _ HBV3.out).d.seg HS.out.d) ?_
  clear o15 of b16
  revert HBV3 KBV3 KRV3 KOV3 HZV3 HPV3
  generalize (w3.setCell ⟨w.heap.size + 2, 15, none⟩ (.slice (some ⟨N3, 0, none⟩) a.pn a.pn)) = V3
  intro HBV3 KBV3 KRV3 KOV3 HZV3 HPV3
  rintro e4 w4 ⟨rfl, hb4, hblk⟩
  obtain ⟨N4, hN4⟩ : ∃ N, V3.heap.size = N := ⟨_, rfl⟩
  have HDD4 : Hid (GSegL 1 (w.heap.size + 3) w4 (some ⟨N4, 0, none⟩) a.dn (inX t.ds)) := by rw [← hN4]; exact hblk.segL _ HZV3.out
  have HB4 : Hid (Below w.heap.size w w4) := HBV3.out.trans (hb4.mono HBV3.out.size)
  have KB4 : Hid (CellsAt w4 w.heap.size 0 (tbL t a)) := KBV3.out.below hb4
  have KR4 : Hid (Lay w4 (w.heap.size + 1) 19 []) := KRV3.out.below hb4
  have KO4 : Hid (Lay w4 (w.heap.size + 2) 19 [.int .i64 t.mem, .int .i64 t.s1, .int .i64 t.s2, .int .i64 t.s3, .int .i64 t.tlb, .int .i64 t.c1, .int .i64 t.c2, .int .i64 t.c3, .int .i64 t.c4, .int .i64 t.c5, .int .i64 t.c6, .int .i64 t.c7, .int .i64 t.pad, .int .i64 t.grd, .int .i64 t.maj, .slice (some ⟨N3, 0, none⟩) a.pn a.pn]) := KOV3.out.below hb4
  have HZ4 : Hid (w.heap.size + 3 ≤ w4.heap.size) := Nat.le_trans HZV3.out hb4.size
  have HP4 : Hid (PSegL (w.heap.size + 3) w4 (some ⟨N3, 0, none⟩) a.pn t.ps Y3) := HPV3.out.below hb4
  rw [hN4]
  clear hb4 HBV3 KBV3 KRV3 KOV3 HZV3 HPV3 HB3 KB3 KR3 KO3 HZ3 hblk
  clear HP3
  clear hN4
  have HBV4 : Hid (Below w.heap.size w (setAll w4 (w.heap.size + 2) 16 [.slice (some ⟨N4, 0, none⟩) a.dn a.dn])) := setAll_below (by omega) _ _ HB4.out
  have KBV4 : Hid (CellsAt (setAll w4 (w.heap.size + 2) 16 [.slice (some ⟨N4, 0, none⟩) a.dn a.dn]) w.heap.size 0 (tbL t a)) := KB4.out.setO _ (by omega)
  have KRV4 : Hid (Lay (setAll w4 (w.heap.size + 2) 16 [.slice (some ⟨N4, 0, none⟩) a.dn a.dn]) (w.heap.size + 1) 19 []) := KR4.out.other _ (by omega)
  have KOV4 : Hid (Lay (setAll w4 (w.heap.size + 2) 16 [.slice (some ⟨N4, 0, none⟩) a.dn a.dn]) (w.heap.size + 2) 19 [.int .i64 t.mem, .int .i64 t.s1, .int .i64 t.s2, .int .i64 t.s3, .int .i64 t.tlb, .int .i64 t.c1, .int .i64 t.c2, .int .i64 t.c3, .int .i64 t.c4, .int .i64 t.c5, .int .i64 t.c6, .int .i64 t.c7, .int .i64 t.pad, .int .i64 t.grd, .int .i64 t.maj, .slice (some ⟨N3, 0, none⟩) a.pn a.pn, .slice (some ⟨N4, 0, none⟩) a.dn a.dn]) := KO4.out.put [.slice (some ⟨N4, 0, none⟩) a.dn a.dn] rfl (by simp)
  have HZV4 : Hid (w.heap.size + 3 ≤ (setAll w4 (w.heap.size + 2) 16 [.slice (some ⟨N4, 0, none⟩) a.dn a.dn]).heap.size) := by show _ ≤ _; rw [setAll_size]; exact HZ4.out
  have HPV4 : Hid (PSegL (w.heap.size + 3) (setAll w4 (w.heap.size + 2) 16 [.slice (some ⟨N4, 0, none⟩) a.dn a.dn]) (some ⟨N3, 0, none⟩) a.pn t.ps Y3) := HP4.out.setAll _ (by omega)
  have HDDV4 : Hid (GSegL 1 (w.heap.size + 3) (setAll w4 (w.heap.size + 2) 16 [.slice (some ⟨N4, 0, none⟩) a.dn a.dn]) (some ⟨N4, 0, none⟩) a.dn (inX t.ds)) := HDD4.out.setAll _ (by omega)
  simp only [setAll] at HBV4 KBV4 KRV4 KOV4 HZV4 HPV4 HDDV4
  obtain ⟨ou16, o16⟩ := KO4.out.room 16 (by omega)
  have of := KO4.out.free
  have b17 : w4.cell? ⟨w.heap.size, 17, none⟩ = some (.slice a.ca a.cn a.cc) := cell0 KB4.out 17 rfl
  go_wp2_with fail
  refine Calls.mono (ch_tos a.ca a.cc a.cn t.cs _ (HM.out _ HBV4.out).c.seg HS.out.c) ?_
  clear o16 of b17
  revert HBV4 KBV4 KRV4 KOV4 HZV4 HPV4 HDDV4
  generalize (w4.setCell ⟨w.heap.size + 2, 16, none⟩ (.slice (some ⟨N4, 0, none⟩) a.dn a.dn)) = V4
  intro HBV4 KBV4 KRV4 KOV4 HZV4 HPV4 HDDV4
  rintro e5 w5 ⟨rfl, hb5, hblk⟩
  obtain ⟨N5, hN5⟩ : ∃ N, V4.heap.size = N := ⟨_, rfl⟩
  have HCC5 : Hid (GSegL 4 (w.heap.size + 3) w5 (some ⟨N5, 0, none⟩) a.cn (chX t.cs)) := by rw [← hN5]; exact hblk.segL _ HZV4.out
  have HB5 : Hid (Below w.heap.size w w5) := HBV4.out.trans (hb5.mono HBV4.out.size)
  have KB5 : Hid (CellsAt w5 w.heap.size 0 (tbL t a)) := KBV4.out.below hb5
  have KR5 : Hid (Lay w5 (w.heap.size + 1) 19 []) := KRV4.out.below hb5
  have KO5 : Hid (Lay w5 (w.heap.size + 2) 19 [.int .i64 t.mem, .int .i64 t.s1, .int .i64 t.s2, .int .i64 t.s3, .int .i64 t.tlb, .int .i64 t.c1, .int .i64 t.c2, .int .i64 t.c3, .int .i64 t.c4, .int .i64 t.c5, .int .i64 t.c6, .int .i64 t.c7, .int .i64 t.pad, .int .i64 t.grd, .int .i64 t.maj, .slice (some ⟨N3, 0, none⟩) a.pn a.pn, .slice (some ⟨N4, 0, none⟩) a.dn a.dn]) := KOV4.out.below hb5
  have HZ5 : Hid (w.heap.size + 3 ≤ w5.heap.size) := Nat.le_trans HZV4.out hb5.size
  have HP5 : Hid (PSegL (w.heap.size + 3) w5 (some ⟨N3, 0, none⟩) a.pn t.ps Y3) := HPV4.out.below hb5
  have HDD5 : Hid (GSegL 1 (w.heap.size + 3) w5 (some ⟨N4, 0, none⟩) a.dn (inX t.ds)) := HDDV4.out.below hb5
  rw [hN5]
  clear hb5 HBV4 KBV4 KRV4 KOV4 HZV4 HPV4 HDDV4 HB4 KB4 KR4 KO4 HZ4 hblk
  clear HP4
  clear HDD4
  clear hN5
  have HBV5 : Hid (Below w.heap.size w (setAll w5 (w.heap.size + 2) 17 [.slice (some ⟨N5, 0, none⟩) a.cn a.cn])) := setAll_below (by omega) _ _ HB5.out
  have KBV5 : Hid (CellsAt (setAll w5 (w.heap.size + 2) 17 [.slice (some ⟨N5, 0, none⟩) a.cn a.cn]) w.heap.size 0 (tbL t a)) := KB5.out.setO _ (by omega)
  have KRV5 : Hid (Lay (setAll w5 (w.heap.size + 2) 17 [.slice (some ⟨N5, 0, none⟩) a.cn a.cn]) (w.heap.size + 1) 19 []) := KR5.out.other _ (by omega)
  have KOV5 : Hid (Lay (setAll w5 (w.heap.size + 2) 17 [.slice (some ⟨N5, 0, none⟩) a.cn a.cn]) (w.heap.size + 2) 19 [.int .i64 t.mem, .int .i64 t.s1, .int .i64 t.s2, .int .i64 t.s3, .int .i64 t.tlb, .int .i64 t.c1, .int .i64 t.c2, .int .i64 t.c3, .int .i64 t.c4, .int .i64 t.c5, .int .i64 t.c6, .int .i64 t.c7, .int .i64 t.pad, .int .i64 t.grd, .int .i64 t.maj, .slice (some ⟨N3, 0, none⟩) a.pn a.pn, .slice (some ⟨N4, 0, none⟩) a.dn a.dn, .slice (some ⟨N5, 0, none⟩) a.cn a.cn]) := KO5.out.put [.slice (some ⟨N5, 0, none⟩) a.cn a.cn] rfl (by simp)
  have HZV5 : Hid (w.heap.size + 3 ≤ (setAll w5 (w.heap.size + 2) 17 [.slice (some ⟨N5, 0, none⟩) a.cn a.cn]).heap.size) := by show _ ≤ _; rw [setAll_size]; exact HZ5.out
  have HPV5 : Hid (PSegL (w.heap.size + 3) (setAll w5 (w.heap.size + 2) 17 [.slice (some ⟨N5, 0, none⟩) a.cn a.cn]) (some ⟨N3, 0, none⟩) a.pn t.ps Y3) := HP5.out.setAll _ (by omega)
  have HDDV5 : Hid (GSegL 1 (w.heap.size + 3) (setAll w5 (w.heap.size + 2) 17 [.slice (some ⟨N5, 0, none⟩) a.cn a.cn]) (some ⟨N4, 0, none⟩) a.dn (inX t.ds)) := HDD5.out.setAll _ (by omega)
  have HCCV5 : Hid (GSegL 4 (w.heap.size + 3) (setAll w5 (w.heap.size + 2) 17 [.slice (some ⟨N5, 0, none⟩) a.cn a.cn]) (some ⟨N5, 0, none⟩) a.cn (chX t.cs)) := HCC5.out.setAll _ (by omega)
  simp only [setAll] at HBV5 KBV5 KRV5 KOV5 HZV5 HPV5 HDDV5 HCCV5
  obtain ⟨ou17, o17⟩ := KO5.out.room 17 (by omega)
  have of := KO5.out.free
  have b18 : w5.cell? ⟨w.heap.size, 18, none⟩ = some (.slice a.sa a.sn a.sc) := cell0 KB5.out 18 rfl
  go_wp2_with fail
  refine Calls.mono (sl_tos a.sa a.sc a.sn t.ss _ (HM.out _ HBV5.out).s.seg HS.out.s) ?_
  clear o17 of b18
  revert HBV5 KBV5 KRV5 KOV5 HZV5 HPV5 HDDV5 HCCV5
  generalize (w5.setCell ⟨w.heap.size + 2, 17, none⟩ (.slice (some ⟨N5, 0, none⟩) a.cn a.cn)) = V5
  intro HBV5 KBV5 KRV5 KOV5 HZV5 HPV5 HDDV5 HCCV5
  rintro e6 w6 ⟨rfl, hb6, hblk⟩
  obtain ⟨N6, hN6⟩ : ∃ N, V5.heap.size = N := ⟨_, rfl⟩
  have HSS6 : Hid (GSegL 3 (w.heap.size + 3) w6 (some ⟨N6, 0, none⟩) a.sn (slX t.ss)) := by rw [← hN6]; exact hblk.segL _ HZV5.out
  have HB6 : Hid (Below w.heap.size w w6) := HBV5.out.trans (hb6.mono HBV5.out.size)
  have KB6 : Hid (CellsAt w6 w.heap.size 0 (tbL t a)) := KBV5.out.below hb6
  have KR6 : Hid (Lay w6 (w.heap.size + 1) 19 []) := KRV5.out.below hb6
  have KO6 : Hid (Lay w6 (w.heap.size + 2) 19 [.int .i64 t.mem, .int .i64 t.s1, .int .i64 t.s2, .int .i64 t.s3, .int .i64 t.tlb, .int .i64 t.c1, .int .i64 t.c2, .int .i64 t.c3, .int .i64 t.c4, .int .i64 t.c5, .int .i64 t.c6, .int .i64 t.c7, .int .i64 t.pad, .int .i64 t.grd, .int .i64 t.maj, .slice (some ⟨N3, 0, none⟩) a.pn a.pn, .slice (some ⟨N4, 0, none⟩) a.dn a.dn, .slice (some ⟨N5, 0, none⟩) a.cn a.cn]) := KOV5.out.below hb6
  have HZ6 : Hid (w.heap.size + 3 ≤ w6.heap.size) := Nat.le_trans HZV5.out hb6.size
  have HP6 : Hid (PSegL (w.heap.size + 3) w6 (some ⟨N3, 0, none⟩) a.pn t.ps Y3) := HPV5.out.below hb6
  have HDD6 : Hid (GSegL 1 (w.heap.size + 3) w6 (some ⟨N4, 0, none⟩) a.dn (inX t.ds)) := HDDV5.out.below hb6
  have HCC6 : Hid (GSegL 4 (w.heap.size + 3) w6 (some ⟨N5, 0, none⟩) a.cn (chX t.cs)) := HCCV5.out.below hb6
  rw [hN6]
  clear hb6 HBV5 KBV5 KRV5 KOV5 HZV5 HPV5 HDDV5 HCCV5 HB5 KB5 KR5 KO5 HZ5 hblk
  clear HP5
  clear HDD5
  clear HCC5
  clear hN6
  have KO7 : Lay (w6.setCell ⟨w.heap.size + 2, 18, none⟩ (.slice (some ⟨N6, 0, none⟩) a.sn a.sn)) (w.heap.size + 2) 19 [.int .i64 t.mem, .int .i64 t.s1, .int .i64 t.s2, .int .i64 t.s3, .int .i64 t.tlb, .int .i64 t.c1, .int .i64 t.c2, .int .i64 t.c3, .int .i64 t.c4, .int .i64 t.c5, .int .i64 t.c6, .int .i64 t.c7, .int .i64 t.pad, .int .i64 t.grd, .int .i64 t.maj, .slice (some ⟨N3, 0, none⟩) a.pn a.pn, .slice (some ⟨N4, 0, none⟩) a.dn a.dn, .slice (some ⟨N5, 0, none⟩) a.cn a.cn, .slice (some ⟨N6, 0, none⟩) a.sn a.sn] := KO6.out.put (o := 18) [.slice (some ⟨N6, 0, none⟩) a.sn a.sn] rfl (by simp)
  have KR7 : Lay (w6.setCell ⟨w.heap.size + 2, 18, none⟩ (.slice (some ⟨N6, 0, none⟩) a.sn a.sn)) (w.heap.size + 1) 19 [] := KR6.out.other (o := 18) [.slice (some ⟨N6, 0, none⟩) a.sn a.sn] (by omega)
  have hO := Lay.full KO7 rfl
  obtain ⟨old, hR, hRl⟩ := KR7.row
  have hb9 : Below w.heap.size w ((w6.setCell ⟨w.heap.size + 2, 18, none⟩ (.slice (some ⟨N6, 0, none⟩) a.sn a.sn)).setRow (w.heap.size + 1) #[.int .i64 t.mem, .int .i64 t.s1, .int .i64 t.s2, .int .i64 t.s3, .int .i64 t.tlb, .int .i64 t.c1, .int .i64 t.c2, .int .i64 t.c3, .int .i64 t.c4, .int .i64 t.c5, .int .i64 t.c6, .int .i64 t.c7, .int .i64 t.pad, .int .i64 t.grd, .int .i64 t.maj, .slice (some ⟨N3, 0, none⟩) a.pn a.pn, .slice (some ⟨N4, 0, none⟩) a.dn a.dn, .slice (some ⟨N5, 0, none⟩) a.cn a.cn, .slice (some ⟨N6, 0, none⟩) a.sn a.sn]) := below_setRow (HB6.out.setCell (p := ⟨w.heap.size + 2, 18, none⟩) (by simp) _) (by omega) _
  have k9 : ((w6.setCell ⟨w.heap.size + 2, 18, none⟩ (.slice (some ⟨N6, 0, none⟩) a.sn a.sn)).setRow (w.heap.size + 1) #[.int .i64 t.mem, .int .i64 t.s1, .int .i64 t.s2, .int .i64 t.s3, .int .i64 t.tlb, .int .i64 t.c1, .int .i64 t.c2, .int .i64 t.c3, .int .i64 t.c4, .int .i64 t.c5, .int .i64 t.c6, .int .i64 t.c7, .int .i64 t.pad, .int .i64 t.grd, .int .i64 t.maj, .slice (some ⟨N3, 0, none⟩) a.pn a.pn, .slice (some ⟨N4, 0, none⟩) a.dn a.dn, .slice (some ⟨N5, 0, none⟩) a.cn a.cn, .slice (some ⟨N6, 0, none⟩) a.sn a.sn]).heap[w.heap.size + 1]? = some (.cells #[.int .i64 t.mem, .int .i64 t.s1, .int .i64 t.s2, .int .i64 t.s3, .int .i64 t.tlb, .int .i64 t.c1, .int .i64 t.c2, .int .i64 t.c3, .int .i64 t.c4, .int .i64 t.c5, .int .i64 t.c6, .int .i64 t.c7, .int .i64 t.pad, .int .i64 t.grd, .int .i64 t.maj, .slice (some ⟨N3, 0, none⟩) a.pn a.pn, .slice (some ⟨N4, 0, none⟩) a.dn a.dn, .slice (some ⟨N5, 0, none⟩) a.cn a.cn, .slice (some ⟨N6, 0, none⟩) a.sn a.sn] 41 (0, 0)) := setRow_heap _ _ _ _ _ _ hR
  have g3 : PSegL (w.heap.size + 3) ((w6.setCell ⟨w.heap.size + 2, 18, none⟩ (.slice (some ⟨N6, 0, none⟩) a.sn a.sn)).setRow (w.heap.size + 1) #[.int .i64 t.mem, .int .i64 t.s1, .int .i64 t.s2, .int .i64 t.s3, .int .i64 t.tlb, .int .i64 t.c1, .int .i64 t.c2, .int .i64 t.c3, .int .i64 t.c4, .int .i64 t.c5, .int .i64 t.c6, .int .i64 t.c7, .int .i64 t.pad, .int .i64 t.grd, .int .i64 t.maj, .slice (some ⟨N3, 0, none⟩) a.pn a.pn, .slice (some ⟨N4, 0, none⟩) a.dn a.dn, .slice (some ⟨N5, 0, none⟩) a.cn a.cn, .slice (some ⟨N6, 0, none⟩) a.sn a.sn]) (some ⟨N3, 0, none⟩) a.pn t.ps Y3 := PSegL.setRow _ (PSegL.setAll (o := 18) [.slice (some ⟨N6, 0, none⟩) a.sn a.sn] HP6.out (by omega)) (by omega)
  have g4 : GSegL 1 (w.heap.size + 3) ((w6.setCell ⟨w.heap.size + 2, 18, none⟩ (.slice (some ⟨N6, 0, none⟩) a.sn a.sn)).setRow (w.heap.size + 1) #[.int .i64 t.mem, .int .i64 t.s1, .int .i64 t.s2, .int .i64 t.s3, .int .i64 t.tlb, .int .i64 t.c1, .int .i64 t.c2, .int .i64 t.c3, .int .i64 t.c4, .int .i64 t.c5, .int .i64 t.c6, .int .i64 t.c7, .int .i64 t.pad, .int .i64 t.grd, .int .i64 t.maj, .slice (some ⟨N3, 0, none⟩) a.pn a.pn, .slice (some ⟨N4, 0, none⟩) a.dn a.dn, .slice (some ⟨N5, 0, none⟩) a.cn a.cn, .slice (some ⟨N6, 0, none⟩) a.sn a.sn]) (some ⟨N4, 0, none⟩) a.dn (inX t.ds) := GSegL.setRow _ (GSegL.setAll (o := 18) [.slice (some ⟨N6, 0, none⟩) a.sn a.sn] HDD6.out (by omega)) (by omega)
  have g5 : GSegL 4 (w.heap.size + 3) ((w6.setCell ⟨w.heap.size + 2, 18, none⟩ (.slice (some ⟨N6, 0, none⟩) a.sn a.sn)).setRow (w.heap.size + 1) #[.int .i64 t.mem, .int .i64 t.s1, .int .i64 t.s2, .int .i64 t.s3, .int .i64 t.tlb, .int .i64 t.c1, .int .i64 t.c2, .int .i64 t.c3, .int .i64 t.c4, .int .i64 t.c5, .int .i64 t.c6, .int .i64 t.c7, .int .i64 t.pad, .int .i64 t.grd, .int .i64 t.maj, .slice (some ⟨N3, 0, none⟩) a.pn a.pn, .slice (some ⟨N4, 0, none⟩) a.dn a.dn, .slice (some ⟨N5, 0, none⟩) a.cn a.cn, .slice (some ⟨N6, 0, none⟩) a.sn a.sn]) (some ⟨N5, 0, none⟩) a.cn (chX t.cs) := GSegL.setRow _ (GSegL.setAll (o := 18) [.slice (some ⟨N6, 0, none⟩) a.sn a.sn] HCC6.out (by omega)) (by omega)
  have g6 : GSegL 3 (w.heap.size + 3) ((w6.setCell ⟨w.heap.size + 2, 18, none⟩ (.slice (some ⟨N6, 0, none⟩) a.sn a.sn)).setRow (w.heap.size + 1) #[.int .i64 t.mem, .int .i64 t.s1, .int .i64 t.s2, .int .i64 t.s3, .int .i64 t.tlb, .int .i64 t.c1, .int .i64 t.c2, .int .i64 t.c3, .int .i64 t.c4, .int .i64 t.c5, .int .i64 t.c6, .int .i64 t.c7, .int .i64 t.pad, .int .i64 t.grd, .int .i64 t.maj, .slice (some ⟨N3, 0, none⟩) a.pn a.pn, .slice (some ⟨N4, 0, none⟩) a.dn a.dn, .slice (some ⟨N5, 0, none⟩) a.cn a.cn, .slice (some ⟨N6, 0, none⟩) a.sn a.sn]) (some ⟨N6, 0, none⟩) a.sn (slX t.ss) := GSegL.setRow _ (GSegL.setAll (o := 18) [.slice (some ⟨N6, 0, none⟩) a.sn a.sn] HSS6.out (by omega)) (by omega)
  have HF : Hid (FinT w ((w6.setCell ⟨w.heap.size + 2, 18, none⟩ (.slice (some ⟨N6, 0, none⟩) a.sn a.sn)).setRow (w.heap.size + 1) #[.int .i64 t.mem, .int .i64 t.s1, .int .i64 t.s2, .int .i64 t.s3, .int .i64 t.tlb, .int .i64 t.c1, .int .i64 t.c2, .int .i64 t.c3, .int .i64 t.c4, .int .i64 t.c5, .int .i64 t.c6, .int .i64 t.c7, .int .i64 t.pad, .int .i64 t.grd, .int .i64 t.maj, .slice (some ⟨N3, 0, none⟩) a.pn a.pn, .slice (some ⟨N4, 0, none⟩) a.dn a.dn, .slice (some ⟨N5, 0, none⟩) a.cn a.cn, .slice (some ⟨N6, 0, none⟩) a.sn a.sn]) t a N3 N4 N5 N6 Y3) := ⟨hb9, k9, g3, g4, g5, g6⟩
  obtain ⟨ou18, o18⟩ := KO6.out.room 18 (by omega)
  have of := KO6.out.free
  have HO : Hid ((w6.setCell ⟨w.heap.size + 2, 18, none⟩ (.slice (some ⟨N6, 0, none⟩) a.sn a.sn)).heap[w.heap.size + 2]? = some (.cells #[.int .i64 t.mem, .int .i64 t.s1, .int .i64 t.s2, .int .i64 t.s3, .int .i64 t.tlb, .int .i64 t.c1, .int .i64 t.c2, .int .i64 t.c3, .int .i64 t.c4, .int .i64 t.c5, .int .i64 t.c6, .int .i64 t.c7, .int .i64 t.pad, .int .i64 t.grd, .int .i64 t.maj, .slice (some ⟨N3, 0, none⟩) a.pn a.pn, .slice (some ⟨N4, 0, none⟩) a.dn a.dn, .slice (some ⟨N5, 0, none⟩) a.cn a.cn, .slice (some ⟨N6, 0, none⟩) a.sn a.sn] 41 (0, 0))) := hO
  have HR : Hid ((w6.setCell ⟨w.heap.size + 2, 18, none⟩ (.slice (some ⟨N6, 0, none⟩) a.sn a.sn)).heap[w.heap.size + 1]? = some (.cells old.toArray 41 (0, 0)) ∧ old.toArray.size = 19) := ⟨hR, by simpa using hRl⟩
  clear hO hR hRl hb9 k9 g3 g4 g5 g6 KO7 KR7 KO6 KR6 KB6 HB6 HZ6 HP6 HDD6 HCC6 HSS6
  go_wp2_with (first | (refine wpList_load_row rfl 41 (.tmp 3) rfl (w.heap.size + 2) rfl 41 #[.int .i64 t.mem, .int .i64 t.s1, .int .i64 t.s2, .int .i64 t.s3, .int .i64 t.tlb, .int .i64 t.c1, .int .i64 t.c2, .int .i64 t.c3, .int .i64 t.c4, .int .i64 t.c5, .int .i64 t.c6, .int .i64 t.c7, .int .i64 t.pad, .int .i64 t.grd, .int .i64 t.maj, .slice (some ⟨N3, 0, none⟩) a.pn a.pn, .slice (some ⟨N4, 0, none⟩) a.dn a.dn, .slice (some ⟨N5, 0, none⟩) a.cn a.cn, .slice (some ⟨N6, 0, none⟩) a.sn a.sn] (0, 0) _ HO.out Tryz.underlying41 rfl (by kernel_rfl) ?_) | (refine wpList_store_row rfl 41 (.tmp 2) (.tmp 43) rfl (w.heap.size + 1) #[.int .i64 t.mem, .int .i64 t.s1, .int .i64 t.s2, .int .i64 t.s3, .int .i64 t.tlb, .int .i64 t.c1, .int .i64 t.c2, .int .i64 t.c3, .int .i64 t.c4, .int .i64 t.c5, .int .i64 t.c6, .int .i64 t.c7, .int .i64 t.pad, .int .i64 t.grd, .int .i64 t.maj, .slice (some ⟨N3, 0, none⟩) a.pn a.pn, .slice (some ⟨N4, 0, none⟩) a.dn a.dn, .slice (some ⟨N5, 0, none⟩) a.cn a.cn, .slice (some ⟨N6, 0, none⟩) a.sn a.sn] rfl rfl 41 old.toArray HR.out.1 (by kernel_rfl) HR.out.2 (by simp [Value.oneCell']) ?_))
  clear HO HR o18 of
  revert HF
  generalize ((w6.setCell ⟨w.heap.size + 2, 18, none⟩ (.slice (some ⟨N6, 0, none⟩) a.sn a.sn)).setRow (w.heap.size + 1) #[.int .i64 t.mem, .int .i64 t.s1, .int .i64 t.s2, .int .i64 t.s3, .int .i64 t.tlb, .int .i64 t.c1, .int .i64 t.c2, .int .i64 t.c3, .int .i64 t.c4, .int .i64 t.c5, .int .i64 t.c6, .int .i64 t.c7, .int .i64 t.pad, .int .i64 t.grd, .int .i64 t.maj, .slice (some ⟨N3, 0, none⟩) a.pn a.pn, .slice (some ⟨N4, 0, none⟩) a.dn a.dn, .slice (some ⟨N5, 0, none⟩) a.cn a.cn, .slice (some ⟨N6, 0, none⟩) a.sn a.sn]) = Wf
  intro HF
  obtain ⟨hb9, k9, g3, g4, g5, g6⟩ := HF.out
  refine bodyPost_ret (v := tbV t ⟨some ⟨N3, 0, none⟩, a.pn, a.pn, some ⟨N4, 0, none⟩, a.dn, a.dn, some ⟨N5, 0, none⟩, a.cn, a.cn, some ⟨N6, 0, none⟩, a.sn, a.sn, Y3⟩) ?_ ?_ ⟨⟨some ⟨N3, 0, none⟩, a.pn, a.pn, some ⟨N4, 0, none⟩, a.dn, a.dn, some ⟨N5, 0, none⟩, a.cn, a.cn, some ⟨N6, 0, none⟩, a.sn, a.sn, Y3⟩, rfl, hb9, TM.wide (lo := w.heap.size + 3) ⟨g3, g4, g5, g6⟩ (by omega), ⟨rfl, rfl, rfl, rfl⟩, rfl, rfl, rfl, rfl⟩
  · exact res_tab k9 rfl rfl
  · rfl
end Go.Proofs.YtphdijkpjjokaaaGreatDoor
namespace Go.Proofs.YtphdijkpjjokaaaGreatDoor
open Go.ChangeShapes Go.WideShapes Go.ChangeAt Go.RowKit Go.Deep Go.Joins
set_option linter.unusedVariables false

theorem eq_shp (x y z : Int) (w : World) : Calls Tryz.prog 39 #[shp x y z, shp x y z] w fun e w' => e = .returned (.bool true) ∧ Below w.heap.size w w' := by
  go_enter Tryz.func39, Tryz.ntmps39
  go_wp2
  go_ret
  exact ⟨rfl, ((Below.refl _ _).alloc (Nat.le_refl _) _).alloc (by simp) _⟩
theorem eq_cst (b m e s k t l : Int) (w : World) : Calls Tryz.prog 40 #[cst b m e s k t l, cst b m e s k t l] w fun e w' => e = .returned (.bool true) ∧ Below w.heap.size w w' := by
  go_enter Tryz.func40, Tryz.ntmps40
  go_wp2
  go_ret
  exact ⟨rfl, ((Below.refl _ _).alloc (Nat.le_refl _) _).alloc (by simp) _⟩
set_option maxRecDepth 40000 in
set_option maxHeartbeats 8000000 in
theorem eq_tab (t : Tb) (a b : Ad) (w : World) (ha : TM 0 w t a) (hb : TM 0 w t b) (hs : TS a) (hp : b.pn = a.pn) (hd : b.dn = a.dn) (hc : b.cn = a.cn) (hss : b.sn = a.sn) :
    Calls Tryz.prog 11 #[tbV t a, tbV t b] w fun e w' => e = .returned (.bool true) ∧ Below w.heap.size w w' := by
  have HA : Hid (∀ X, Below w.heap.size w X → TM 0 X t a) := fun X hX => ha.below hX
  have HBT : Hid (∀ X, Below w.heap.size w X → TM 0 X t b) := fun X hX => hb.below hX
  have HS : Hid (TS a) := hs
  have E1 : Hid (∀ X, Below w.heap.size w X → Calls Tryz.prog 41 #[.slice a.pa a.pn a.pc, .slice b.pa a.pn b.pc] X fun e w' => e = .returned (.bool true) ∧ Below X.heap.size X w') := fun X hX => eq_parts a.pa b.pa a.pc b.pc a.pn t.ps a.Y b.Y X (HA.out X hX).p (hp ▸ (HBT.out X hX).p) HS.out.p (fun i hi => (HS.out.w i hi).1)
  have E2 : Hid (∀ X, Below w.heap.size w X → Calls Tryz.prog 42 #[.slice a.da a.dn a.dc, .slice b.da a.dn b.dc] X fun e w' => e = .returned (.bool true) ∧ Below X.heap.size X w') := fun X hX => in_eqs a.da b.da a.dc b.dc a.dn t.ds X (HA.out X hX).d.seg (hd ▸ (HBT.out X hX).d.seg) HS.out.d
  have E3 : Hid (∀ X, Below w.heap.size w X → Calls Tryz.prog 43 #[.slice a.ca a.cn a.cc, .slice b.ca a.cn b.cc] X fun e w' => e = .returned (.bool true) ∧ Below X.heap.size X w') := fun X hX => ch_eqs a.ca b.ca a.cc b.cc a.cn t.cs X (HA.out X hX).c.seg (hc ▸ (HBT.out X hX).c.seg) HS.out.c
  have E4 : Hid (∀ X, Below w.heap.size w X → Calls Tryz.prog 44 #[.slice a.sa a.sn a.sc, .slice b.sa a.sn b.sc] X fun e w' => e = .returned (.bool true) ∧ Below X.heap.size X w') := fun X hX => sl_eqs a.sa b.sa a.sc b.sc a.sn t.ss X (HA.out X hX).s.seg (hss ▸ (HBT.out X hX).s.seg) HS.out.s
  simp only [tbV, hp, hd, hc, hss]
  clear ha hb hs HA HBT HS hp hd hc hss
  have HB0 : Hid (Below w.heap.size w ((w.alloc (.cells #[.int .i64 t.mem, .int .i64 t.s1, .int .i64 t.s2, .int .i64 t.s3, .int .i64 t.tlb, .int .i64 t.c1, .int .i64 t.c2, .int .i64 t.c3, .int .i64 t.c4, .int .i64 t.c5, .int .i64 t.c6, .int .i64 t.c7, .int .i64 t.pad, .int .i64 t.grd, .int .i64 t.maj, .slice a.pa a.pn a.pc, .slice a.da a.dn a.dc, .slice a.ca a.cn a.cc, .slice a.sa a.sn a.sc] 41)).alloc (.cells #[.int .i64 t.mem, .int .i64 t.s1, .int .i64 t.s2, .int .i64 t.s3, .int .i64 t.tlb, .int .i64 t.c1, .int .i64 t.c2, .int .i64 t.c3, .int .i64 t.c4, .int .i64 t.c5, .int .i64 t.c6, .int .i64 t.c7, .int .i64 t.pad, .int .i64 t.grd, .int .i64 t.maj, .slice b.pa a.pn b.pc, .slice b.da a.dn b.dc, .slice b.ca a.cn b.cc, .slice b.sa a.sn b.sc] 41))) := ((Below.refl _ _).alloc (Nat.le_refl _) _).alloc (by simp) _
  have KA0 : Hid (CellsAt ((w.alloc (.cells #[.int .i64 t.mem, .int .i64 t.s1, .int .i64 t.s2, .int .i64 t.s3, .int .i64 t.tlb, .int .i64 t.c1, .int .i64 t.c2, .int .i64 t.c3, .int .i64 t.c4, .int .i64 t.c5, .int .i64 t.c6, .int .i64 t.c7, .int .i64 t.pad, .int .i64 t.grd, .int .i64 t.maj, .slice a.pa a.pn a.pc, .slice a.da a.dn a.dc, .slice a.ca a.cn a.cc, .slice a.sa a.sn a.sc] 41)).alloc (.cells #[.int .i64 t.mem, .int .i64 t.s1, .int .i64 t.s2, .int .i64 t.s3, .int .i64 t.tlb, .int .i64 t.c1, .int .i64 t.c2, .int .i64 t.c3, .int .i64 t.c4, .int .i64 t.c5, .int .i64 t.c6, .int .i64 t.c7, .int .i64 t.pad, .int .i64 t.grd, .int .i64 t.maj, .slice b.pa a.pn b.pc, .slice b.da a.dn b.dc, .slice b.ca a.cn b.cc, .slice b.sa a.sn b.sc] 41)) w.heap.size 0 [.int .i64 t.mem, .int .i64 t.s1, .int .i64 t.s2, .int .i64 t.s3, .int .i64 t.tlb, .int .i64 t.c1, .int .i64 t.c2, .int .i64 t.c3, .int .i64 t.c4, .int .i64 t.c5, .int .i64 t.c6, .int .i64 t.c7, .int .i64 t.pad, .int .i64 t.grd, .int .i64 t.maj, .slice a.pa a.pn a.pc, .slice a.da a.dn a.dc, .slice a.ca a.cn a.cc, .slice a.sa a.sn a.sc]) := (CellsAt.new w [.int .i64 t.mem, .int .i64 t.s1, .int .i64 t.s2, .int .i64 t.s3, .int .i64 t.tlb, .int .i64 t.c1, .int .i64 t.c2, .int .i64 t.c3, .int .i64 t.c4, .int .i64 t.c5, .int .i64 t.c6, .int .i64 t.c7, .int .i64 t.pad, .int .i64 t.grd, .int .i64 t.maj, .slice a.pa a.pn a.pc, .slice a.da a.dn a.dc, .slice a.ca a.cn a.cc, .slice a.sa a.sn a.sc] _ _ rfl).alloc _
  have KC0 : Hid (CellsAt ((w.alloc (.cells #[.int .i64 t.mem, .int .i64 t.s1, .int .i64 t.s2, .int .i64 t.s3, .int .i64 t.tlb, .int .i64 t.c1, .int .i64 t.c2, .int .i64 t.c3, .int .i64 t.c4, .int .i64 t.c5, .int .i64 t.c6, .int .i64 t.c7, .int .i64 t.pad, .int .i64 t.grd, .int .i64 t.maj, .slice a.pa a.pn a.pc, .slice a.da a.dn a.dc, .slice a.ca a.cn a.cc, .slice a.sa a.sn a.sc] 41)).alloc (.cells #[.int .i64 t.mem, .int .i64 t.s1, .int .i64 t.s2, .int .i64 t.s3, .int .i64 t.tlb, .int .i64 t.c1, .int .i64 t.c2, .int .i64 t.c3, .int .i64 t.c4, .int .i64 t.c5, .int .i64 t.c6, .int .i64 t.c7, .int .i64 t.pad, .int .i64 t.grd, .int .i64 t.maj, .slice b.pa a.pn b.pc, .slice b.da a.dn b.dc, .slice b.ca a.cn b.cc, .slice b.sa a.sn b.sc] 41)) (w.heap.size + 1) 0 [.int .i64 t.mem, .int .i64 t.s1, .int .i64 t.s2, .int .i64 t.s3, .int .i64 t.tlb, .int .i64 t.c1, .int .i64 t.c2, .int .i64 t.c3, .int .i64 t.c4, .int .i64 t.c5, .int .i64 t.c6, .int .i64 t.c7, .int .i64 t.pad, .int .i64 t.grd, .int .i64 t.maj, .slice b.pa a.pn b.pc, .slice b.da a.dn b.dc, .slice b.ca a.cn b.cc, .slice b.sa a.sn b.sc]) := CellsAt.new _ [.int .i64 t.mem, .int .i64 t.s1, .int .i64 t.s2, .int .i64 t.s3, .int .i64 t.tlb, .int .i64 t.c1, .int .i64 t.c2, .int .i64 t.c3, .int .i64 t.c4, .int .i64 t.c5, .int .i64 t.c6, .int .i64 t.c7, .int .i64 t.pad, .int .i64 t.grd, .int .i64 t.maj, .slice b.pa a.pn b.pc, .slice b.da a.dn b.dc, .slice b.ca a.cn b.cc, .slice b.sa a.sn b.sc] _ _ (by simp)
  go_enter Tryz.func11, Tryz.ntmps11
  go_wp2_with fail
  refine (eq_shp t.s1 t.s2 t.s3 _).mono ?_
  rintro e1 w1 ⟨rfl, hb1⟩
  have HB1 : Hid (Below w.heap.size w w1) := HB0.out.trans (hb1.mono HB0.out.size)
  have KA1 : Hid (CellsAt w1 w.heap.size 0 [.int .i64 t.mem, .int .i64 t.s1, .int .i64 t.s2, .int .i64 t.s3, .int .i64 t.tlb, .int .i64 t.c1, .int .i64 t.c2, .int .i64 t.c3, .int .i64 t.c4, .int .i64 t.c5, .int .i64 t.c6, .int .i64 t.c7, .int .i64 t.pad, .int .i64 t.grd, .int .i64 t.maj, .slice a.pa a.pn a.pc, .slice a.da a.dn a.dc, .slice a.ca a.cn a.cc, .slice a.sa a.sn a.sc]) := KA0.out.below hb1
  have KC1 : Hid (CellsAt w1 (w.heap.size + 1) 0 [.int .i64 t.mem, .int .i64 t.s1, .int .i64 t.s2, .int .i64 t.s3, .int .i64 t.tlb, .int .i64 t.c1, .int .i64 t.c2, .int .i64 t.c3, .int .i64 t.c4, .int .i64 t.c5, .int .i64 t.c6, .int .i64 t.c7, .int .i64 t.pad, .int .i64 t.grd, .int .i64 t.maj, .slice b.pa a.pn b.pc, .slice b.da a.dn b.dc, .slice b.ca a.cn b.cc, .slice b.sa a.sn b.sc]) := KC0.out.below hb1
  clear hb1 HB0 KA0 KC0
  have a4 : w1.cell? ⟨w.heap.size, 4, none⟩ = some (.int .i64 t.tlb) := cell0 KA1.out 4 rfl
  have c4 : w1.cell? ⟨w.heap.size + 1, 4, none⟩ = some (.int .i64 t.tlb) := cell0 KC1.out 4 rfl
  have a5 : w1.cell? ⟨w.heap.size, 5, none⟩ = some (.int .i64 t.c1) := cell0 KA1.out 5 rfl
  have c5 : w1.cell? ⟨w.heap.size + 1, 5, none⟩ = some (.int .i64 t.c1) := cell0 KC1.out 5 rfl
  have a6 : w1.cell? ⟨w.heap.size, 6, none⟩ = some (.int .i64 t.c2) := cell0 KA1.out 6 rfl
  have c6 : w1.cell? ⟨w.heap.size + 1, 6, none⟩ = some (.int .i64 t.c2) := cell0 KC1.out 6 rfl
  have a7 : w1.cell? ⟨w.heap.size, 7, none⟩ = some (.int .i64 t.c3) := cell0 KA1.out 7 rfl
  have c7 : w1.cell? ⟨w.heap.size + 1, 7, none⟩ = some (.int .i64 t.c3) := cell0 KC1.out 7 rfl
  have a8 : w1.cell? ⟨w.heap.size, 8, none⟩ = some (.int .i64 t.c4) := cell0 KA1.out 8 rfl
  have c8 : w1.cell? ⟨w.heap.size + 1, 8, none⟩ = some (.int .i64 t.c4) := cell0 KC1.out 8 rfl
  have a9 : w1.cell? ⟨w.heap.size, 9, none⟩ = some (.int .i64 t.c5) := cell0 KA1.out 9 rfl
  have c9 : w1.cell? ⟨w.heap.size + 1, 9, none⟩ = some (.int .i64 t.c5) := cell0 KC1.out 9 rfl
  have a10 : w1.cell? ⟨w.heap.size, 10, none⟩ = some (.int .i64 t.c6) := cell0 KA1.out 10 rfl
  have c10 : w1.cell? ⟨w.heap.size + 1, 10, none⟩ = some (.int .i64 t.c6) := cell0 KC1.out 10 rfl
  have a11 : w1.cell? ⟨w.heap.size, 11, none⟩ = some (.int .i64 t.c7) := cell0 KA1.out 11 rfl
  have c11 : w1.cell? ⟨w.heap.size + 1, 11, none⟩ = some (.int .i64 t.c7) := cell0 KC1.out 11 rfl
  go_wp2_with fail
  refine Calls.mono (eq_cst t.c1 t.c2 t.c3 t.c4 t.c5 t.c6 t.c7 _) ?_
  clear a4 c4 a5 c5 a6 c6 a7 c7 a8 c8 a9 c9 a10 c10 a11 c11
  rintro e2 w2 ⟨rfl, hb2⟩
  have HB2 : Hid (Below w.heap.size w w2) := HB1.out.trans (hb2.mono HB1.out.size)
  have KA2 : Hid (CellsAt w2 w.heap.size 0 [.int .i64 t.mem, .int .i64 t.s1, .int .i64 t.s2, .int .i64 t.s3, .int .i64 t.tlb, .int .i64 t.c1, .int .i64 t.c2, .int .i64 t.c3, .int .i64 t.c4, .int .i64 t.c5, .int .i64 t.c6, .int .i64 t.c7, .int .i64 t.pad, .int .i64 t.grd, .int .i64 t.maj, .slice a.pa a.pn a.pc, .slice a.da a.dn a.dc, .slice a.ca a.cn a.cc, .slice a.sa a.sn a.sc]) := KA1.out.below hb2
  have KC2 : Hid (CellsAt w2 (w.heap.size + 1) 0 [.int .i64 t.mem, .int .i64 t.s1, .int .i64 t.s2, .int .i64 t.s3, .int .i64 t.tlb, .int .i64 t.c1, .int .i64 t.c2, .int .i64 t.c3, .int .i64 t.c4, .int .i64 t.c5, .int .i64 t.c6, .int .i64 t.c7, .int .i64 t.pad, .int .i64 t.grd, .int .i64 t.maj, .slice b.pa a.pn b.pc, .slice b.da a.dn b.dc, .slice b.ca a.cn b.cc, .slice b.sa a.sn b.sc]) := KC1.out.below hb2
  clear hb2 HB1 KA1 KC1
  have a12 : w2.cell? ⟨w.heap.size, 12, none⟩ = some (.int .i64 t.pad) := cell0 KA2.out 12 rfl
  have c12 : w2.cell? ⟨w.heap.size + 1, 12, none⟩ = some (.int .i64 t.pad) := cell0 KC2.out 12 rfl
  have a13 : w2.cell? ⟨w.heap.size, 13, none⟩ = some (.int .i64 t.grd) := cell0 KA2.out 13 rfl
  have c13 : w2.cell? ⟨w.heap.size + 1, 13, none⟩ = some (.int .i64 t.grd) := cell0 KC2.out 13 rfl
  have a14 : w2.cell? ⟨w.heap.size, 14, none⟩ = some (.int .i64 t.maj) := cell0 KA2.out 14 rfl
  have c14 : w2.cell? ⟨w.heap.size + 1, 14, none⟩ = some (.int .i64 t.maj) := cell0 KC2.out 14 rfl
  have a15 : w2.cell? ⟨w.heap.size, 15, none⟩ = some (.slice a.pa a.pn a.pc) := cell0 KA2.out 15 rfl
  have c15 : w2.cell? ⟨w.heap.size + 1, 15, none⟩ = some (.slice b.pa a.pn b.pc) := cell0 KC2.out 15 rfl
  go_wp2_with fail
  refine Calls.mono (E1.out _ HB2.out) ?_
  clear a12 c12 a13 c13 a14 c14 a15 c15
  rintro e3 w3 ⟨rfl, hb3⟩
  have HB3 : Hid (Below w.heap.size w w3) := HB2.out.trans (hb3.mono HB2.out.size)
  have KA3 : Hid (CellsAt w3 w.heap.size 0 [.int .i64 t.mem, .int .i64 t.s1, .int .i64 t.s2, .int .i64 t.s3, .int .i64 t.tlb, .int .i64 t.c1, .int .i64 t.c2, .int .i64 t.c3, .int .i64 t.c4, .int .i64 t.c5, .int .i64 t.c6, .int .i64 t.c7, .int .i64 t.pad, .int .i64 t.grd, .int .i64 t.maj, .slice a.pa a.pn a.pc, .slice a.da a.dn a.dc, .slice a.ca a.cn a.cc, .slice a.sa a.sn a.sc]) := KA2.out.below hb3
  have KC3 : Hid (CellsAt w3 (w.heap.size + 1) 0 [.int .i64 t.mem, .int .i64 t.s1, .int .i64 t.s2, .int .i64 t.s3, .int .i64 t.tlb, .int .i64 t.c1, .int .i64 t.c2, .int .i64 t.c3, .int .i64 t.c4, .int .i64 t.c5, .int .i64 t.c6, .int .i64 t.c7, .int .i64 t.pad, .int .i64 t.grd, .int .i64 t.maj, .slice b.pa a.pn b.pc, .slice b.da a.dn b.dc, .slice b.ca a.cn b.cc, .slice b.sa a.sn b.sc]) := KC2.out.below hb3
  clear hb3 HB2 KA2 KC2
  have a16 : w3.cell? ⟨w.heap.size, 16, none⟩ = some (.slice a.da a.dn a.dc) := cell0 KA3.out 16 rfl
  have c16 : w3.cell? ⟨w.heap.size + 1, 16, none⟩ = some (.slice b.da a.dn b.dc) := cell0 KC3.out 16 rfl
  go_wp2_with fail
  refine Calls.mono (E2.out _ HB3.out) ?_
  clear a16 c16
  rintro e4 w4 ⟨rfl, hb4⟩
  have HB4 : Hid (Below w.heap.size w w4) := HB3.out.trans (hb4.mono HB3.out.size)
  have KA4 : Hid (CellsAt w4 w.heap.size 0 [.int .i64 t.mem, .int .i64 t.s1, .int .i64 t.s2, .int .i64 t.s3, .int .i64 t.tlb, .int .i64 t.c1, .int .i64 t.c2, .int .i64 t.c3, .int .i64 t.c4, .int .i64 t.c5, .int .i64 t.c6, .int .i64 t.c7, .int .i64 t.pad, .int .i64 t.grd, .int .i64 t.maj, .slice a.pa a.pn a.pc, .slice a.da a.dn a.dc, .slice a.ca a.cn a.cc, .slice a.sa a.sn a.sc]) := KA3.out.below hb4
  have KC4 : Hid (CellsAt w4 (w.heap.size + 1) 0 [.int .i64 t.mem, .int .i64 t.s1, .int .i64 t.s2, .int .i64 t.s3, .int .i64 t.tlb, .int .i64 t.c1, .int .i64 t.c2, .int .i64 t.c3, .int .i64 t.c4, .int .i64 t.c5, .int .i64 t.c6, .int .i64 t.c7, .int .i64 t.pad, .int .i64 t.grd, .int .i64 t.maj, .slice b.pa a.pn b.pc, .slice b.da a.dn b.dc, .slice b.ca a.cn b.cc, .slice b.sa a.sn b.sc]) := KC3.out.below hb4
  clear hb4 HB3 KA3 KC3
  have a17 : w4.cell? ⟨w.heap.size, 17, none⟩ = some (.slice a.ca a.cn a.cc) := cell0 KA4.out 17 rfl
  have c17 : w4.cell? ⟨w.heap.size + 1, 17, none⟩ = some (.slice b.ca a.cn b.cc) := cell0 KC4.out 17 rfl
  go_wp2_with fail
  refine Calls.mono (E3.out _ HB4.out) ?_
  clear a17 c17
  rintro e5 w5 ⟨rfl, hb5⟩
  have HB5 : Hid (Below w.heap.size w w5) := HB4.out.trans (hb5.mono HB4.out.size)
  have KA5 : Hid (CellsAt w5 w.heap.size 0 [.int .i64 t.mem, .int .i64 t.s1, .int .i64 t.s2, .int .i64 t.s3, .int .i64 t.tlb, .int .i64 t.c1, .int .i64 t.c2, .int .i64 t.c3, .int .i64 t.c4, .int .i64 t.c5, .int .i64 t.c6, .int .i64 t.c7, .int .i64 t.pad, .int .i64 t.grd, .int .i64 t.maj, .slice a.pa a.pn a.pc, .slice a.da a.dn a.dc, .slice a.ca a.cn a.cc, .slice a.sa a.sn a.sc]) := KA4.out.below hb5
  have KC5 : Hid (CellsAt w5 (w.heap.size + 1) 0 [.int .i64 t.mem, .int .i64 t.s1, .int .i64 t.s2, .int .i64 t.s3, .int .i64 t.tlb, .int .i64 t.c1, .int .i64 t.c2, .int .i64 t.c3, .int .i64 t.c4, .int .i64 t.c5, .int .i64 t.c6, .int .i64 t.c7, .int .i64 t.pad, .int .i64 t.grd, .int .i64 t.maj, .slice b.pa a.pn b.pc, .slice b.da a.dn b.dc, .slice b.ca a.cn b.cc, .slice b.sa a.sn b.sc]) := KC4.out.below hb5
  clear hb5 HB4 KA4 KC4
  have a18 : w5.cell? ⟨w.heap.size, 18, none⟩ = some (.slice a.sa a.sn a.sc) := cell0 KA5.out 18 rfl
  have c18 : w5.cell? ⟨w.heap.size + 1, 18, none⟩ = some (.slice b.sa a.sn b.sc) := cell0 KC5.out 18 rfl
  go_wp2_with fail
  refine Calls.mono (E4.out _ HB5.out) ?_
  clear a18 c18
  rintro e6 w6 ⟨rfl, hb6⟩
  have HB6 : Hid (Below w.heap.size w w6) := HB5.out.trans (hb6.mono HB5.out.size)
  have KA6 : Hid (CellsAt w6 w.heap.size 0 [.int .i64 t.mem, .int .i64 t.s1, .int .i64 t.s2, .int .i64 t.s3, .int .i64 t.tlb, .int .i64 t.c1, .int .i64 t.c2, .int .i64 t.c3, .int .i64 t.c4, .int .i64 t.c5, .int .i64 t.c6, .int .i64 t.c7, .int .i64 t.pad, .int .i64 t.grd, .int .i64 t.maj, .slice a.pa a.pn a.pc, .slice a.da a.dn a.dc, .slice a.ca a.cn a.cc, .slice a.sa a.sn a.sc]) := KA5.out.below hb6
  have KC6 : Hid (CellsAt w6 (w.heap.size + 1) 0 [.int .i64 t.mem, .int .i64 t.s1, .int .i64 t.s2, .int .i64 t.s3, .int .i64 t.tlb, .int .i64 t.c1, .int .i64 t.c2, .int .i64 t.c3, .int .i64 t.c4, .int .i64 t.c5, .int .i64 t.c6, .int .i64 t.c7, .int .i64 t.pad, .int .i64 t.grd, .int .i64 t.maj, .slice b.pa a.pn b.pc, .slice b.da a.dn b.dc, .slice b.ca a.cn b.cc, .slice b.sa a.sn b.sc]) := KC5.out.below hb6
  clear hb6 HB5 KA5 KC5
  go_wp2
  go_ret
  exact ⟨rfl, HB6.out⟩
end Go.Proofs.YtphdijkpjjokaaaGreatDoor
