
/-
  Tables in memory: the copies that the laws make, their likeness and their measure. Conditions: lengths are at most 1048576 where a copy is made.
-/
import Derived.Test.YtofibnmbgfggkaaGreatDoorBas
import Derived.Test.YtofibnmbgfggkaaGreatDoorPtt
import Derived.Test.YtofibnmbgfggkaaGreatDoorSlo
import Derived.Test.YtofibnmbgfggkaaGreatDoorIns
import Derived.Test.YtofibnmbgfggkaaGreatDoorCost
import Derived.Test.YtofibnmbgfggkaaGreatDoorShp
namespace Go.Proofs.YtofibnmbgfggkaaGreatDoor
open Go.ChangeShapes Go.WideShapes Go.ChangeAt Go.RowKit Go.Deep Go.Joins
set_option linter.unusedVariables false

/-- Tables, as numbers and lists. -/
structure Tb where
  mem : Int
  s1 : Int
  s2 : Int
  s3 : Int
  tlb : Int
  c1 : Int
  c2 : Int
  c3 : Int
  c4 : Int
  c5 : Int
  c6 : Int
  c7 : Int
  pad : Int
  grd : Int
  maj : Int
  ps : List Pt
  ds : List Int
  cs : List chT
  ss : List slT
/-- Where the lists of tables lie. -/
structure Ad where
  pa : Option Addr
  pn : Nat
  pc : Nat
  da : Option Addr
  dn : Nat
  dc : Nat
  ca : Option Addr
  cn : Nat
  cc : Nat
  sa : Option Addr
  sn : Nat
  sc : Nat
  Y : Nat → Rw
def tbL (t : Tb) (a : Ad) : List Value := [.int .i64 t.mem, .int .i64 t.s1, .int .i64 t.s2, .int .i64 t.s3, .int .i64 t.tlb, .int .i64 t.c1, .int .i64 t.c2, .int .i64 t.c3, .int .i64 t.c4, .int .i64 t.c5, .int .i64 t.c6, .int .i64 t.c7, .int .i64 t.pad, .int .i64 t.grd, .int .i64 t.maj, .slice a.pa a.pn a.pc, .slice a.da a.dn a.dc, .slice a.ca a.cn a.cc, .slice a.sa a.sn a.sc]
abbrev tbV (t : Tb) (a : Ad) : Value := .agg #[.int .i64 t.mem, .int .i64 t.s1, .int .i64 t.s2, .int .i64 t.s3, .int .i64 t.tlb, .int .i64 t.c1, .int .i64 t.c2, .int .i64 t.c3, .int .i64 t.c4, .int .i64 t.c5, .int .i64 t.c6, .int .i64 t.c7, .int .i64 t.pad, .int .i64 t.grd, .int .i64 t.maj, .slice a.pa a.pn a.pc, .slice a.da a.dn a.dc, .slice a.ca a.cn a.cc, .slice a.sa a.sn a.sc]
abbrev tbA (t : Tb) (a : Ad) : Array Value := #[.int .i64 t.mem, .int .i64 t.s1, .int .i64 t.s2, .int .i64 t.s3, .int .i64 t.tlb, .int .i64 t.c1, .int .i64 t.c2, .int .i64 t.c3, .int .i64 t.c4, .int .i64 t.c5, .int .i64 t.c6, .int .i64 t.c7, .int .i64 t.pad, .int .i64 t.grd, .int .i64 t.maj, .slice a.pa a.pn a.pc, .slice a.da a.dn a.dc, .slice a.ca a.cn a.cc, .slice a.sa a.sn a.sc]
/-- The lists lie where they are said to, from 'lo' on. -/
structure TM (lo : Nat) (w : World) (t : Tb) (a : Ad) : Prop where
  p : PSegL lo w a.pa a.pn t.ps a.Y
  d : GSegL 1 lo w a.da a.dn (inX t.ds)
  c : GSegL 4 lo w a.ca a.cn (chX t.cs)
  s : GSegL 3 lo w a.sa a.sn (slX t.ss)
/-- What is known of numbers and lengths alone. -/
structure TW (t : Tb) (a : Ad) : Prop where
  pl : t.ps.length = a.pn
  dl : t.ds.length = a.dn
  cl : t.cs.length = a.cn
  sl : t.ss.length = a.sn
  pb : a.pn ≤ 9223372036854775807
  db : a.dn ≤ 9223372036854775807
  cb : a.cn ≤ 9223372036854775807
  sb : a.sn ≤ 9223372036854775807
  wb : ∀ i, i < a.pn → (a.Y i).wn ≤ 9223372036854775807 ∧ (a.Y i).nm.size ≤ 9223372036854775807
  wf : ∀ i, i < a.pn → ∀ j, j < (t.ps.getD i pt0).ws.length → ((t.ps.getD i pt0).ws.getD j wi0).2.1 ≤ 9223372036854775807
  sf : ∀ i, i < a.sn → (t.ss.getD i sl0).2.1 ≤ 9223372036854775807 ∧ -9223372036854775808 ≤ (t.ss.getD i sl0).2.1
/-- The lengths are small. -/
structure TS (a : Ad) : Prop where
  p : a.pn ≤ 1048576
  d : a.dn ≤ 1048576
  c : a.cn ≤ 1048576
  s : a.sn ≤ 1048576
  w : ∀ i, i < a.pn → (a.Y i).wn ≤ 1048576 ∧ (a.Y i).nm.size ≤ 1048576
theorem TM.below {lo : Nat} {w w' : World} {t : Tb} {a : Ad} (h : TM lo w t a) (hb : Below w.heap.size w w') : TM lo w' t a := ⟨h.p.below hb, h.d.below hb, h.c.below hb, h.s.below hb⟩
theorem TM.wide {lo lo' : Nat} {w : World} {t : Tb} {a : Ad} (h : TM lo w t a) (hl : lo' ≤ lo) : TM lo' w t a := ⟨h.p.wide hl, h.d.wide hl, h.c.wide hl, h.s.wide hl⟩
set_option maxRecDepth 20000 in
set_option maxHeartbeats 4000000 in
theorem sz_tab (t : Tb) (a : Ad) (w : World) (hm : TM 0 w t a) (hw : TW t a) :
    Calls Tryz.prog 8 #[tbV t a, .int .i64 1048576] w fun e w' => (∃ r : Int, e = .returned (.int .i64 r) ∧ (r = -1 ∨ (0 ≤ r ∧ TS a))) ∧ Below w.heap.size w w' := by
  have HM : Hid (TM 0 w t a) := hm
  have HW : Hid (TW t a) := hw
  clear hm hw
  have HB0 : Hid (Below w.heap.size w (w.alloc (.cells (tbA t a) 31))) := (Below.refl _ _).alloc (Nat.le_refl _) _
  have KB0 : Hid (Bk (w.alloc (.cells (tbA t a) 31)) w.heap.size (tbA t a)) := Bk.new w _ _ _ rfl
  have h8 := HW.out.db
  have h9 := HW.out.cb
  have h10 := HW.out.sb
  have HZ : Hid (∀ X, Below w.heap.size w X → Calls Tryz.prog 21 #[.slice a.pa a.pn a.pc, .int .i64 ((1048576 : Nat) : Int)] X fun e w' => (∃ r : Int, e = .returned (.int .i64 r) ∧ (r = -1 ∨ ∃ d : Nat, r = (d : Int) ∧ d ≤ 1048576 ∧ a.pn ≤ 1048576 ∧ ∀ i, i < a.pn → (a.Y i).wn ≤ 1048576 ∧ (a.Y i).nm.size ≤ 1048576)) ∧ Below X.heap.size X w') := fun X hX => sz_parts a.pa a.pc a.pn 1048576 a.Y X (HM.out.p.below hX).1.seg HW.out.pb (Nat.le_refl _) HW.out.wb
  go_enter Tryz.func8, Tryz.ntmps8
  go_wp2_with fail
  refine (HZ.out _ HB0.out).mono ?_
  rintro e1 w1 ⟨⟨r, rfl, hr⟩, hb1⟩
  have HB1 : Hid (Below w.heap.size w w1) := HB0.out.trans (hb1.mono HB0.out.size)
  have KB1 : Hid (Bk w1 w.heap.size (tbA t a)) := KB0.out.below hb1
  clear hb1 HB0 KB0 HZ
  rcases hr with rfl | ⟨D, rfl, hD, hp, hww⟩
  · go_wp2
    go_ret
    exact ⟨⟨_, rfl, .inl rfl⟩, HB1.out⟩
  have HP : Hid (a.pn ≤ 1048576 ∧ ∀ i, i < a.pn → (a.Y i).wn ≤ 1048576 ∧ (a.Y i).nm.size ≤ 1048576) := ⟨hp, hww⟩
  clear hp hww
  have hd0 : ¬ ((D : Int) < 0) := by omega
  have k16 : w1.cell? ⟨w.heap.size, 16, none⟩ = some (.slice a.da a.dn a.dc) := KB1.out.cell 16 _ rfl
  have k17 : w1.cell? ⟨w.heap.size, 17, none⟩ = some (.slice a.ca a.cn a.cc) := KB1.out.cell 17 _ rfl
  have k18 : w1.cell? ⟨w.heap.size, 18, none⟩ = some (.slice a.sa a.sn a.sc) := KB1.out.cell 18 _ rfl
  go_wp2_with fail
  refine (in_sz a.da a.dc a.dn D _ h8 hD).mono ?_
  rintro e2 w2 ⟨⟨r, rfl, hr⟩, rfl⟩
  rcases hr with rfl | ⟨hr, hd⟩
  · go_wp2
    go_ret
    exact ⟨⟨_, rfl, .inl rfl⟩, HB1.out⟩
  obtain ⟨E, hE⟩ : ∃ E : Nat, D - a.dn = E := ⟨_, rfl⟩
  rw [hE] at hr
  subst hr
  have hE2 : E ≤ 1048576 := by omega
  have he0 : ¬ ((E : Int) < 0) := by omega
  have HD : Hid (a.dn ≤ 1048576) := by show _ ≤ _; omega
  clear hE hd
  go_wp2_with fail
  refine (ch_sz a.ca a.cc a.cn E _ h9 hE2).mono ?_
  rintro e2 w2 ⟨⟨r, rfl, hr⟩, rfl⟩
  rcases hr with rfl | ⟨hr, hd⟩
  · go_wp2
    go_ret
    exact ⟨⟨_, rfl, .inl rfl⟩, HB1.out⟩
  obtain ⟨G, hG⟩ : ∃ G : Nat, E - a.cn = G := ⟨_, rfl⟩
  rw [hG] at hr
  subst hr
  have hG2 : G ≤ 1048576 := by omega
  have hg0 : ¬ ((G : Int) < 0) := by omega
  have HC : Hid (a.cn ≤ 1048576) := by show _ ≤ _; omega
  clear hG hd
  go_wp2_with fail
  refine (sl_sz a.sa a.sc a.sn G _ h10 hG2).mono ?_
  rintro e2 w2 ⟨⟨r, rfl, hr⟩, rfl⟩
  rcases hr with rfl | ⟨hr, hd⟩
  · go_wp2
    go_ret
    exact ⟨⟨_, rfl, .inl rfl⟩, HB1.out⟩
  obtain ⟨J, hJ⟩ : ∃ J : Nat, G - a.sn = J := ⟨_, rfl⟩
  rw [hJ] at hr
  subst hr
  have hj0 : ¬ ((J : Int) < 0) := by omega
  have HS : Hid (a.sn ≤ 1048576) := by show _ ≤ _; omega
  clear hJ hd
  go_wp2
  go_ret
  exact ⟨⟨_, rfl, .inr ⟨by omega, HP.out.1, HD.out, HC.out, HS.out, HP.out.2⟩⟩, HB1.out⟩
end Go.Proofs.YtofibnmbgfggkaaGreatDoor
