
/-
  A state of a partition as a value: how its parts lie, what the law's measure tells of it, and that one is like another whose parts are alike. Conditions: none but those of Go's own lengths.
-/
import Derived.Test.YtknipnenipdgiaaGreatDoorBas
import Derived.Test.YtknipnenipdgiaaGreatDoorProg
import Derived.Test.YtknipnenipdgiaaGreatDoorSzl
import Derived.Test.YtknipnenipdgiaaGreatDoorVha
import Derived.Test.YtknipnenipdgiaaGreatDoorEnv
namespace Go.Proofs.YtknipnenipdgiaaGreatDoor
open Go.ChangeShapes Go.WideShapes Go.ChangeAt Go.RowKit Go.Deep
set_option linter.unusedVariables false

/-- A state's cells. -/
structure Ps where
  ra : Option Addr
  rl : Nat
  rc : Nat
  pc : Int
  ma : Option Addr
  mn : Nat
  mc : Nat
  on : Bool
  vv : Int
  vs : Int
  vc : Int
  vk : Int
  vt : Bool
  vn : Bool
  vp : Int
  hf : Int
  hr : Int
  hl : Int
  hh : Bool
  cs : Int
  cy : Int
  cl : Int
  ka : Option Addr
  kn : Nat
  kc : Nat
  ts : Int
  ta : Option Addr
  tn : Nat
  tc : Nat
  nx : Int
  idle : Bool
  ba : Option Addr
  bn : Nat
  bc : Nat
  oa : Option Addr
  un : Nat
  uc : Nat
  ia : Option Addr
  jn : Nat
  jc : Nat
  da : Option Addr
  dn : Nat
  dc : Nat
def psA (y : Ps) : Array Value := #[.slice y.ra y.rl y.rc, .int .u32 y.pc, .slice y.ma y.mn y.mc, .bool y.on, .int .u32 y.vv, .int .u32 y.vs, .int .u32 y.vc, .int .u32 y.vk, .bool y.vt, .bool y.vn, .int .u32 y.vp, .int .i64 y.hf, .int .i64 y.hr, .int .i64 y.hl, .bool y.hh, .int .i64 y.cs, .int .i64 y.cy, .int .i64 y.cl, .slice y.ka y.kn y.kc, .int .i64 y.ts, .slice y.ta y.tn y.tc, .int .i64 y.nx, .bool y.idle, .slice y.ba y.bn y.bc, .slice y.oa y.un y.uc, .slice y.ia y.jn y.jc, .slice y.da y.dn y.dc]
abbrev psV (y : Ps) : Value := .agg (psA y)
/-- A state's lists. -/
structure Pd where
  R : List Int
  D : Nat → List Int
  E : Nat → List Wy
  Z : List Int
  Fb : Nat → List Int
  H : Nat → Int
  G : Nat → List Int
  I : Nat → List Int
  U : Nat → List Int
  V : Nat → List Int
def PBx (X : World) (B : Nat) (T : TypeId) (y : Ps) : Prop := X.heap[B]? = some (.cells (psA y) T (0, 0))
theorem PBx.cell {X : World} {B : Nat} {T : TypeId} {y : Ps} (h : PBx X B T y) (j : Nat) {v : Value} (hj : (psA y)[j]? = some v) : X.cell? ⟨B, j, none⟩ = some v := by
  rw [cell_of_row X B j _ _ _ h]; exact hj
theorem PBx.lt {X : World} {B : Nat} {T : TypeId} {y : Ps} (h : PBx X B T y) : B < X.heap.size := World.block_lt_of_cell? X _ (h.cell 0 rfl)
theorem PBx.below {X X' : World} {B : Nat} {T : TypeId} {y : Ps} (h : PBx X B T y) (hb : Below X.heap.size X X') : PBx X' B T y := by
  have := h.lt
  unfold PBx at h ⊢
  rw [hb.block B this]; exact h
theorem PBx.new (w : World) (T : TypeId) (y : Ps) (B : Nat) (hB : B = w.heap.size) : PBx (w.alloc (.cells (psA y) T)) B T y := by
  subst hB
  unfold PBx
  show (w.heap.push _)[w.heap.size]? = _
  simp
/-- The lists of a state, as they lie. -/
structure PSeg (w : World) (y : Ps) (d : Pd) : Prop where
  r : Seg .u32 w y.ra d.R
  g : BSeg w y.ma y.mn d.D
  c : RSeg w y.ka y.kn d.E
  t : Seg .i64 w y.ta d.Z
  b : BSeg w y.ba y.bn d.Fb
  o : OSeg w y.oa y.un d.H d.G
  i : ISeg w y.ia y.jn d.I
  d : VSeg w y.da y.dn d.U d.V
theorem PSeg.below {w w' : World} {y : Ps} {d : Pd} (h : PSeg w y d) (hb : Below w.heap.size w w') : PSeg w' y d :=
  ⟨h.r.below hb, h.g.below hb, RSeg.below h.c hb, h.t.below hb, h.b.below hb, h.o.below hb, h.i.below hb, h.d.below hb⟩
/-- Every length is one that Go has. -/
structure PLen (y : Ps) (d : Pd) : Prop where
  zr : d.R.length = y.rl
  zz : d.Z.length = y.tn
  zrl : y.rl ≤ 9223372036854775807
  zn : y.mn ≤ 9223372036854775807
  zkn : y.kn ≤ 9223372036854775807
  ztn : y.tn ≤ 9223372036854775807
  zbn : y.bn ≤ 9223372036854775807
  zun : y.un ≤ 9223372036854775807
  zjn : y.jn ≤ 9223372036854775807
  zdn : y.dn ≤ 9223372036854775807
  zD : ∀ i, i < y.mn → (d.D i).length ≤ 9223372036854775807
  zE : ∀ i, i < y.kn → (d.E i).length ≤ 9223372036854775807
  zF : ∀ i, i < y.bn → (d.Fb i).length ≤ 9223372036854775807
  zG : ∀ i, i < y.un → (d.G i).length ≤ 9223372036854775807
  zI : ∀ i, i < y.jn → (d.I i).length ≤ 9223372036854775807
  zU : ∀ i, i < y.dn → (d.U i).length ≤ 9223372036854775807
  zV : ∀ i, i < y.dn → (d.V i).length ≤ 9223372036854775807
/-- What the measure tells where it is not below 0. -/
structure PFit (y : Ps) (d : Pd) : Prop where
  zrl : y.rl ≤ 1048576
  zn : y.mn ≤ 1048576
  zD : btot d.D y.mn ≤ 1048576
  zkn : y.kn ≤ 1048576
  zE : tot d.E y.kn ≤ 1048576
  ztn : y.tn ≤ 1048576
  zbn : y.bn ≤ 1048576
  zF : btot d.Fb y.bn ≤ 1048576
  zG : y.un + btot d.G y.un ≤ 1048576
  zI : y.jn + btot d.I y.jn ≤ 1048576
  zU : y.dn + btot d.U y.dn + btot d.V y.dn ≤ 1048576
set_option maxRecDepth 20000 in
set_option maxHeartbeats 4000000 in
theorem sz_pst (y : Ps) (d : Pd) (L : Nat) (w : World) (hs : PSeg w y d) (hl : PLen y d) (hL : L ≤ 1048576) :
    Calls Tryz.prog 9 #[psV y, .int .i64 (L : Int)] w fun e w' => (∃ x : Int, e = .returned (.int .i64 x) ∧ (x < 0 ∨ (x ≤ 1048576 ∧ PFit y d))) ∧ Below w.heap.size w w' := by
  have HB0 : Hid (Below w.heap.size w (w.alloc (.cells (psA y) 50))) := (Below.refl _ w).alloc (Nat.le_refl _) _
  have HK0 : Hid (PBx (w.alloc (.cells (psA y) 50)) w.heap.size 50 y) := PBx.new w _ y _ rfl
  have HS : Hid (PSeg w y d) := hs
  have HL : Hid (PLen y d) := hl
  clear hs hl
  have c0 : (w.alloc (.cells (psA y) 50)).cell? ⟨w.heap.size, 0, none⟩ = some (.slice y.ra y.rl y.rc) := HK0.out.cell 0 rfl
  have c1 : (w.alloc (.cells (psA y) 50)).cell? ⟨w.heap.size, 1, none⟩ = some (.int .u32 y.pc) := HK0.out.cell 1 rfl
  have c2 : (w.alloc (.cells (psA y) 50)).cell? ⟨w.heap.size, 2, none⟩ = some (.slice y.ma y.mn y.mc) := HK0.out.cell 2 rfl
  go_enter Tryz.func9, Tryz.ntmps9
  go_wp2_with fail
  refine Calls.mono (sz_guest_l y.pc y.ra y.ma y.rl y.rc y.mn y.mc L d.D _ (HS.out.below HB0.out).g HL.out.zrl HL.out.zn HL.out.zD hL) ?_
  rintro e w1 ⟨⟨x, rfl, hr⟩, hb⟩
  have HB1 : Hid (Below w.heap.size w w1) := HB0.out.trans (hb.mono HB0.out.size)
  have HK1 : Hid (PBx w1 w.heap.size 50 y) := HK0.out.below hb
  clear hb
  clear HB0 HK0 c0 c1 c2
  rcases hr with hr | ⟨hr, hr1, h1, h2, h3⟩
  · go_wp2
    go_ret
    exact ⟨⟨_, rfl, .inl (by omega)⟩, HB1.out⟩
  have P1 : Hid (y.rl ≤ 1048576 ∧ y.mn ≤ 1048576 ∧ btot d.D y.mn ≤ 1048576) := ⟨h1, h2, h3⟩
  obtain ⟨M1, rfl⟩ : ∃ M : Nat, x = (M : Int) := ⟨x.toNat, by omega⟩
  have hM1 : M1 ≤ 1048576 := by omega
  have hz1 : ¬ ((M1 : Int) < 0) := by omega
  clear hr hr1 h1 h2 h3
  have c15 : w1.cell? ⟨w.heap.size, 15, none⟩ = some (.int .i64 y.cs) := HK1.out.cell 15 rfl
  have c16 : w1.cell? ⟨w.heap.size, 16, none⟩ = some (.int .i64 y.cy) := HK1.out.cell 16 rfl
  have c17 : w1.cell? ⟨w.heap.size, 17, none⟩ = some (.int .i64 y.cl) := HK1.out.cell 17 rfl
  have c18 : w1.cell? ⟨w.heap.size, 18, none⟩ = some (.slice y.ka y.kn y.kc) := HK1.out.cell 18 rfl
  go_wp2_with fail
  clear hz1
  refine Calls.mono (Cw.sz_cache_l M1 hM1 y.cs y.cy y.cl y.ka y.kc y.kn d.E _ (HS.out.below HB1.out).c HL.out.zkn HL.out.zE) ?_
  rintro e w2 ⟨⟨x, rfl, hr⟩, hb⟩
  have HB2 : Hid (Below w.heap.size w w2) := HB1.out.trans (hb.mono HB1.out.size)
  have HK2 : Hid (PBx w2 w.heap.size 50 y) := HK1.out.below hb
  clear hb
  clear HB1 HK1 c15 c16 c17 c18
  rcases hr with hr | ⟨hr, hr1, h1, h2⟩
  · go_wp2
    go_ret
    exact ⟨⟨_, rfl, .inl (by omega)⟩, HB2.out⟩
  have P2 : Hid (y.kn ≤ 1048576 ∧ tot d.E y.kn ≤ 1048576) := ⟨h1, h2⟩
  obtain ⟨M2, rfl⟩ : ∃ M : Nat, x = (M : Int) := ⟨x.toNat, by omega⟩
  have hM2 : M2 ≤ 1048576 := by omega
  have hz2 : ¬ ((M2 : Int) < 0) := by omega
  clear hr hr1 h1 h2
  have c19 : w2.cell? ⟨w.heap.size, 19, none⟩ = some (.int .i64 y.ts) := HK2.out.cell 19 rfl
  have c20 : w2.cell? ⟨w.heap.size, 20, none⟩ = some (.slice y.ta y.tn y.tc) := HK2.out.cell 20 rfl
  go_wp2_with fail
  clear hz2
  refine Calls.mono (sz_tlb y.ts y.ta y.tc y.tn M2 _ HL.out.ztn hM2) ?_
  rintro e w3 ⟨⟨x, rfl, hr⟩, hb⟩
  have HB3 : Hid (Below w.heap.size w w3) := HB2.out.trans (hb.mono HB2.out.size)
  have HK3 : Hid (PBx w3 w.heap.size 50 y) := HK2.out.below hb
  clear hb
  clear HB2 HK2 c19 c20
  rcases hr with hr | ⟨hr, h1⟩
  · go_wp2
    go_ret
    exact ⟨⟨_, rfl, .inl (by omega)⟩, HB3.out⟩
  have P3 : Hid (y.tn ≤ 1048576) := (by show _ ≤ _; omega)
  obtain ⟨M3, rfl⟩ : ∃ M : Nat, x = (M : Int) := ⟨x.toNat, by omega⟩
  have hM3 : M3 ≤ 1048576 := by omega
  have hz3 : ¬ ((M3 : Int) < 0) := by omega
  clear hr h1
  have c23 : w3.cell? ⟨w.heap.size, 23, none⟩ = some (.slice y.ba y.bn y.bc) := HK3.out.cell 23 rfl
  go_wp2_with fail
  clear hz3
  refine Calls.mono (sz_rows_l y.ba y.bc y.bn M3 d.Fb _ (HS.out.below HB3.out).b HL.out.zbn HL.out.zF hM3) ?_
  rintro e w4 ⟨⟨x, rfl, hr⟩, hwe⟩
  have HB4 : Hid (Below w.heap.size w w4) := by rw [hwe]; exact HB3
  have HK4 : Hid (PBx w4 w.heap.size 50 y) := by rw [hwe]; exact HK3
  clear hwe
  clear HB3 HK3 c23
  rcases hr with hr | ⟨hr, hr1, h1, h2⟩
  · go_wp2
    go_ret
    exact ⟨⟨_, rfl, .inl (by omega)⟩, HB4.out⟩
  have P4 : Hid (y.bn ≤ 1048576 ∧ btot d.Fb y.bn ≤ 1048576) := ⟨by omega, by omega⟩
  obtain ⟨M4, rfl⟩ : ∃ M : Nat, x = (M : Int) := ⟨x.toNat, by omega⟩
  have hM4 : M4 ≤ 1048576 := by omega
  have hz4 : ¬ ((M4 : Int) < 0) := by omega
  clear hr hr1 h1 h2
  have c24 : w4.cell? ⟨w.heap.size, 24, none⟩ = some (.slice y.oa y.un y.uc) := HK4.out.cell 24 rfl
  go_wp2_with fail
  clear hz4
  refine Calls.mono (sz_outs y.oa y.uc y.un M4 d.H d.G _ (HS.out.below HB4.out).o HL.out.zun HL.out.zG hM4) ?_
  rintro e w5 ⟨⟨x, rfl, hr⟩, hb⟩
  have HB5 : Hid (Below w.heap.size w w5) := HB4.out.trans (hb.mono HB4.out.size)
  have HK5 : Hid (PBx w5 w.heap.size 50 y) := HK4.out.below hb
  clear hb
  clear HB4 HK4 c24
  rcases hr with hr | ⟨hr, h1⟩
  · go_wp2
    go_ret
    exact ⟨⟨_, rfl, .inl (by omega)⟩, HB5.out⟩
  have P5 : Hid (y.un + btot d.G y.un ≤ 1048576) := (by show _ ≤ _; omega)
  obtain ⟨M5, rfl⟩ : ∃ M : Nat, x = (M : Int) := ⟨x.toNat, by omega⟩
  have hM5 : M5 ≤ 1048576 := by omega
  have hz5 : ¬ ((M5 : Int) < 0) := by omega
  clear hr h1
  have c25 : w5.cell? ⟨w.heap.size, 25, none⟩ = some (.slice y.ia y.jn y.jc) := HK5.out.cell 25 rfl
  go_wp2_with fail
  clear hz5
  refine Calls.mono (sz_ins y.ia y.jc y.jn M5 d.I _ (HS.out.below HB5.out).i HL.out.zjn HL.out.zI hM5) ?_
  rintro e w6 ⟨⟨x, rfl, hr⟩, hb⟩
  have HB6 : Hid (Below w.heap.size w w6) := HB5.out.trans (hb.mono HB5.out.size)
  have HK6 : Hid (PBx w6 w.heap.size 50 y) := HK5.out.below hb
  clear hb
  clear HB5 HK5 c25
  rcases hr with hr | ⟨hr, h1⟩
  · go_wp2
    go_ret
    exact ⟨⟨_, rfl, .inl (by omega)⟩, HB6.out⟩
  have P6 : Hid (y.jn + btot d.I y.jn ≤ 1048576) := (by show _ ≤ _; omega)
  obtain ⟨M6, rfl⟩ : ∃ M : Nat, x = (M : Int) := ⟨x.toNat, by omega⟩
  have hM6 : M6 ≤ 1048576 := by omega
  have hz6 : ¬ ((M6 : Int) < 0) := by omega
  clear hr h1
  have c26 : w6.cell? ⟨w.heap.size, 26, none⟩ = some (.slice y.da y.dn y.dc) := HK6.out.cell 26 rfl
  go_wp2_with fail
  clear hz6
  refine Calls.mono (sz_devs y.da y.dc y.dn M6 d.U d.V _ (HS.out.below HB6.out).d HL.out.zdn HL.out.zU HL.out.zV hM6) ?_
  rintro e w7 ⟨⟨x, rfl, hr⟩, hb⟩
  have HB7 : Hid (Below w.heap.size w w7) := HB6.out.trans (hb.mono HB6.out.size)
  have HK7 : Hid (PBx w7 w.heap.size 50 y) := HK6.out.below hb
  clear hb
  clear HB6 HK6 c26
  rcases hr with hr | ⟨hr, h1⟩
  · go_wp2
    go_ret
    exact ⟨⟨_, rfl, .inl (by omega)⟩, HB7.out⟩
  have P7 : Hid (y.dn + btot d.U y.dn + btot d.V y.dn ≤ 1048576) := (by show _ ≤ _; omega)
  obtain ⟨M7, rfl⟩ : ∃ M : Nat, x = (M : Int) := ⟨x.toNat, by omega⟩
  have hM7 : M7 ≤ 1048576 := by omega
  have hz7 : ¬ ((M7 : Int) < 0) := by omega
  clear hr h1
  go_wp2
  go_ret
  exact ⟨⟨_, rfl, .inr ⟨by omega, P1.out.1, P1.out.2.1, P1.out.2.2, P2.out.1, P2.out.2, P3.out, P4.out.1, P4.out.2, P5.out, P6.out, P7.out⟩⟩, HB7.out⟩
/-- The plain fields of two states are alike, and so are the lengths. -/
structure PLike (y z : Ps) : Prop where
  rl : y.rl = z.rl
  pc : y.pc = z.pc
  mn : y.mn = z.mn
  on : y.on = z.on
  vv : y.vv = z.vv
  vs : y.vs = z.vs
  vc : y.vc = z.vc
  vk : y.vk = z.vk
  vt : y.vt = z.vt
  vn : y.vn = z.vn
  vp : y.vp = z.vp
  hf : y.hf = z.hf
  hr : y.hr = z.hr
  hl : y.hl = z.hl
  hh : y.hh = z.hh
  cs : y.cs = z.cs
  cy : y.cy = z.cy
  cl : y.cl = z.cl
  kn : y.kn = z.kn
  ts : y.ts = z.ts
  tn : y.tn = z.tn
  nx : y.nx = z.nx
  idle : y.idle = z.idle
  bn : y.bn = z.bn
  un : y.un = z.un
  jn : y.jn = z.jn
  dn : y.dn = z.dn
set_option maxRecDepth 20000 in
set_option maxHeartbeats 4000000 in
theorem eq_pst (y z : Ps) (d : Pd) (w : World) (hq : PLike y z) (hs : PSeg w y d) (ht : PSeg w z d) (hl : PLen y d) (hf : PFit y d) :
    Calls Tryz.prog 15 #[psV y, psV z] w fun e w' => e = .returned (.bool true) ∧ Below w.heap.size w w' := by
  have HB0 : Hid (Below w.heap.size w ((w.alloc (.cells (psA y) 73)).alloc (.cells (psA z) 73))) := ((Below.refl _ w).alloc (Nat.le_refl _) _).alloc (by simp) _
  have HK0 : Hid (PBx ((w.alloc (.cells (psA y) 73)).alloc (.cells (psA z) 73)) w.heap.size 73 y) := (PBx.new w _ y _ rfl).below ((Below.refl _ _).alloc (Nat.le_refl _) _)
  have HJ0 : Hid (PBx ((w.alloc (.cells (psA y) 73)).alloc (.cells (psA z) 73)) (w.heap.size + 1) 73 z) := PBx.new _ _ z _ (by simp)
  have HS : Hid (PSeg w y d ∧ PSeg w z d) := ⟨hs, ht⟩
  have HL : Hid (PLen y d) := hl
  have HF : Hid (PFit y d) := hf
  have HQ : Hid (PLike y z) := hq
  have HZ : Hid (∀ (X : World), PBx X (w.heap.size + 1) 73 z → X.cell? ⟨w.heap.size + 1, 0, none⟩ = some (.slice z.ra y.rl z.rc) ∧ X.cell? ⟨w.heap.size + 1, 1, none⟩ = some (.int .u32 y.pc) ∧ X.cell? ⟨w.heap.size + 1, 2, none⟩ = some (.slice z.ma y.mn z.mc) ∧ X.cell? ⟨w.heap.size + 1, 3, none⟩ = some (.bool y.on) ∧ X.cell? ⟨w.heap.size + 1, 4, none⟩ = some (.int .u32 y.vv) ∧ X.cell? ⟨w.heap.size + 1, 5, none⟩ = some (.int .u32 y.vs) ∧ X.cell? ⟨w.heap.size + 1, 6, none⟩ = some (.int .u32 y.vc) ∧ X.cell? ⟨w.heap.size + 1, 7, none⟩ = some (.int .u32 y.vk) ∧ X.cell? ⟨w.heap.size + 1, 8, none⟩ = some (.bool y.vt) ∧ X.cell? ⟨w.heap.size + 1, 9, none⟩ = some (.bool y.vn) ∧ X.cell? ⟨w.heap.size + 1, 10, none⟩ = some (.int .u32 y.vp) ∧ X.cell? ⟨w.heap.size + 1, 11, none⟩ = some (.int .i64 y.hf) ∧ X.cell? ⟨w.heap.size + 1, 12, none⟩ = some (.int .i64 y.hr) ∧ X.cell? ⟨w.heap.size + 1, 13, none⟩ = some (.int .i64 y.hl) ∧ X.cell? ⟨w.heap.size + 1, 14, none⟩ = some (.bool y.hh) ∧ X.cell? ⟨w.heap.size + 1, 15, none⟩ = some (.int .i64 y.cs) ∧ X.cell? ⟨w.heap.size + 1, 16, none⟩ = some (.int .i64 y.cy) ∧ X.cell? ⟨w.heap.size + 1, 17, none⟩ = some (.int .i64 y.cl) ∧ X.cell? ⟨w.heap.size + 1, 18, none⟩ = some (.slice z.ka y.kn z.kc) ∧ X.cell? ⟨w.heap.size + 1, 19, none⟩ = some (.int .i64 y.ts) ∧ X.cell? ⟨w.heap.size + 1, 20, none⟩ = some (.slice z.ta y.tn z.tc) ∧ X.cell? ⟨w.heap.size + 1, 21, none⟩ = some (.int .i64 y.nx) ∧ X.cell? ⟨w.heap.size + 1, 22, none⟩ = some (.bool y.idle) ∧ X.cell? ⟨w.heap.size + 1, 23, none⟩ = some (.slice z.ba y.bn z.bc) ∧ X.cell? ⟨w.heap.size + 1, 24, none⟩ = some (.slice z.oa y.un z.uc) ∧ X.cell? ⟨w.heap.size + 1, 25, none⟩ = some (.slice z.ia y.jn z.jc) ∧ X.cell? ⟨w.heap.size + 1, 26, none⟩ = some (.slice z.da y.dn z.dc)) := fun X h => by
    have e := hq
    refine ⟨?_, ?_, ?_, ?_, ?_, ?_, ?_, ?_, ?_, ?_, ?_, ?_, ?_, ?_, ?_, ?_, ?_, ?_, ?_, ?_, ?_, ?_, ?_, ?_, ?_, ?_, ?_⟩
    · rw [h.cell 0 (v := .slice z.ra z.rl z.rc) rfl]; simp only [e.rl]
    · rw [h.cell 1 (v := .int .u32 z.pc) rfl]; simp only [e.pc]
    · rw [h.cell 2 (v := .slice z.ma z.mn z.mc) rfl]; simp only [e.mn]
    · rw [h.cell 3 (v := .bool z.on) rfl]; simp only [e.on]
    · rw [h.cell 4 (v := .int .u32 z.vv) rfl]; simp only [e.vv]
    · rw [h.cell 5 (v := .int .u32 z.vs) rfl]; simp only [e.vs]
    · rw [h.cell 6 (v := .int .u32 z.vc) rfl]; simp only [e.vc]
    · rw [h.cell 7 (v := .int .u32 z.vk) rfl]; simp only [e.vk]
    · rw [h.cell 8 (v := .bool z.vt) rfl]; simp only [e.vt]
    · rw [h.cell 9 (v := .bool z.vn) rfl]; simp only [e.vn]
    · rw [h.cell 10 (v := .int .u32 z.vp) rfl]; simp only [e.vp]
    · rw [h.cell 11 (v := .int .i64 z.hf) rfl]; simp only [e.hf]
    · rw [h.cell 12 (v := .int .i64 z.hr) rfl]; simp only [e.hr]
    · rw [h.cell 13 (v := .int .i64 z.hl) rfl]; simp only [e.hl]
    · rw [h.cell 14 (v := .bool z.hh) rfl]; simp only [e.hh]
    · rw [h.cell 15 (v := .int .i64 z.cs) rfl]; simp only [e.cs]
    · rw [h.cell 16 (v := .int .i64 z.cy) rfl]; simp only [e.cy]
    · rw [h.cell 17 (v := .int .i64 z.cl) rfl]; simp only [e.cl]
    · rw [h.cell 18 (v := .slice z.ka z.kn z.kc) rfl]; simp only [e.kn]
    · rw [h.cell 19 (v := .int .i64 z.ts) rfl]; simp only [e.ts]
    · rw [h.cell 20 (v := .slice z.ta z.tn z.tc) rfl]; simp only [e.tn]
    · rw [h.cell 21 (v := .int .i64 z.nx) rfl]; simp only [e.nx]
    · rw [h.cell 22 (v := .bool z.idle) rfl]; simp only [e.idle]
    · rw [h.cell 23 (v := .slice z.ba z.bn z.bc) rfl]; simp only [e.bn]
    · rw [h.cell 24 (v := .slice z.oa z.un z.uc) rfl]; simp only [e.un]
    · rw [h.cell 25 (v := .slice z.ia z.jn z.jc) rfl]; simp only [e.jn]
    · rw [h.cell 26 (v := .slice z.da z.dn z.dc) rfl]; simp only [e.dn]
  clear hs ht hl hf hq
  go_enter Tryz.func15, Tryz.ntmps15
  have c0 : ((w.alloc (.cells (psA y) 73)).alloc (.cells (psA z) 73)).cell? ⟨w.heap.size, 0, none⟩ = some (.slice y.ra y.rl y.rc) := HK0.out.cell 0 rfl
  have c1 : ((w.alloc (.cells (psA y) 73)).alloc (.cells (psA z) 73)).cell? ⟨w.heap.size, 1, none⟩ = some (.int .u32 y.pc) := HK0.out.cell 1 rfl
  have c2 : ((w.alloc (.cells (psA y) 73)).alloc (.cells (psA z) 73)).cell? ⟨w.heap.size, 2, none⟩ = some (.slice y.ma y.mn y.mc) := HK0.out.cell 2 rfl
  obtain ⟨d0, d1, d2, _, _, _, _, _, _, _, _, _, _, _, _, _, _, _, _, _, _, _, _, _, _, _, _⟩ := HZ.out _ HJ0.out
  go_wp2_with fail
  refine Calls.mono (eq_guest y.pc y.ra z.ra y.ma z.ma y.rl y.rc z.rc y.mn y.mc z.mc d.R d.D _ ⟨(HS.out.1.below HB0.out).r, (HS.out.1.below HB0.out).g⟩ ⟨(HS.out.2.below HB0.out).r, by have := (HS.out.2.below HB0.out).g; rw [← HQ.out.mn] at this; exact this⟩ HL.out.zr HF.out.zrl HF.out.zn HF.out.zD) ?_
  rintro e w1 ⟨rfl, hb⟩
  have HB1 : Hid (Below w.heap.size w w1) := HB0.out.trans (hb.mono HB0.out.size)
  have HK1 : Hid (PBx w1 w.heap.size 73 y) := HK0.out.below hb
  have HJ1 : Hid (PBx w1 (w.heap.size + 1) 73 z) := HJ0.out.below hb
  clear hb HB0 HK0 HJ0 c0 d0 c1 d1 c2 d2
  have c3 : w1.cell? ⟨w.heap.size, 3, none⟩ = some (.bool y.on) := HK1.out.cell 3 rfl
  have c4 : w1.cell? ⟨w.heap.size, 4, none⟩ = some (.int .u32 y.vv) := HK1.out.cell 4 rfl
  have c5 : w1.cell? ⟨w.heap.size, 5, none⟩ = some (.int .u32 y.vs) := HK1.out.cell 5 rfl
  have c6 : w1.cell? ⟨w.heap.size, 6, none⟩ = some (.int .u32 y.vc) := HK1.out.cell 6 rfl
  have c7 : w1.cell? ⟨w.heap.size, 7, none⟩ = some (.int .u32 y.vk) := HK1.out.cell 7 rfl
  have c8 : w1.cell? ⟨w.heap.size, 8, none⟩ = some (.bool y.vt) := HK1.out.cell 8 rfl
  have c9 : w1.cell? ⟨w.heap.size, 9, none⟩ = some (.bool y.vn) := HK1.out.cell 9 rfl
  have c10 : w1.cell? ⟨w.heap.size, 10, none⟩ = some (.int .u32 y.vp) := HK1.out.cell 10 rfl
  obtain ⟨_, _, _, d3, d4, d5, d6, d7, d8, d9, d10, _, _, _, _, _, _, _, _, _, _, _, _, _, _, _, _⟩ := HZ.out _ HJ1.out
  go_wp2_with fail
  refine Calls.mono (eq_virt y.on y.vv y.vs y.vc y.vk y.vt y.vn y.vp _) ?_
  rintro e w2 ⟨rfl, hb⟩
  have HB2 : Hid (Below w.heap.size w w2) := HB1.out.trans (hb.mono HB1.out.size)
  have HK2 : Hid (PBx w2 w.heap.size 73 y) := HK1.out.below hb
  have HJ2 : Hid (PBx w2 (w.heap.size + 1) 73 z) := HJ1.out.below hb
  clear hb HB1 HK1 HJ1 c3 d3 c4 d4 c5 d5 c6 d6 c7 d7 c8 d8 c9 d9 c10 d10
  have c11 : w2.cell? ⟨w.heap.size, 11, none⟩ = some (.int .i64 y.hf) := HK2.out.cell 11 rfl
  have c12 : w2.cell? ⟨w.heap.size, 12, none⟩ = some (.int .i64 y.hr) := HK2.out.cell 12 rfl
  have c13 : w2.cell? ⟨w.heap.size, 13, none⟩ = some (.int .i64 y.hl) := HK2.out.cell 13 rfl
  have c14 : w2.cell? ⟨w.heap.size, 14, none⟩ = some (.bool y.hh) := HK2.out.cell 14 rfl
  obtain ⟨_, _, _, _, _, _, _, _, _, _, _, d11, d12, d13, d14, _, _, _, _, _, _, _, _, _, _, _, _⟩ := HZ.out _ HJ2.out
  go_wp2_with fail
  refine Calls.mono (eq_health y.hf y.hr y.hl y.hh _) ?_
  rintro e w3 ⟨rfl, hb⟩
  have HB3 : Hid (Below w.heap.size w w3) := HB2.out.trans (hb.mono HB2.out.size)
  have HK3 : Hid (PBx w3 w.heap.size 73 y) := HK2.out.below hb
  have HJ3 : Hid (PBx w3 (w.heap.size + 1) 73 z) := HJ2.out.below hb
  clear hb HB2 HK2 HJ2 c11 d11 c12 d12 c13 d13 c14 d14
  have c15 : w3.cell? ⟨w.heap.size, 15, none⟩ = some (.int .i64 y.cs) := HK3.out.cell 15 rfl
  have c16 : w3.cell? ⟨w.heap.size, 16, none⟩ = some (.int .i64 y.cy) := HK3.out.cell 16 rfl
  have c17 : w3.cell? ⟨w.heap.size, 17, none⟩ = some (.int .i64 y.cl) := HK3.out.cell 17 rfl
  have c18 : w3.cell? ⟨w.heap.size, 18, none⟩ = some (.slice y.ka y.kn y.kc) := HK3.out.cell 18 rfl
  obtain ⟨_, _, _, _, _, _, _, _, _, _, _, _, _, _, _, d15, d16, d17, d18, _, _, _, _, _, _, _, _⟩ := HZ.out _ HJ3.out
  go_wp2_with fail
  refine Calls.mono (Cw.eq_cache y.cs y.cy y.cl y.ka z.ka y.kc z.kc y.kn d.E _ (HS.out.1.below HB3.out).c (by have := (HS.out.2.below HB3.out).c; rw [← HQ.out.kn] at this; exact this) HF.out.zkn HF.out.zE) ?_
  rintro e w4 ⟨rfl, hb⟩
  have HB4 : Hid (Below w.heap.size w w4) := HB3.out.trans (hb.mono HB3.out.size)
  have HK4 : Hid (PBx w4 w.heap.size 73 y) := HK3.out.below hb
  have HJ4 : Hid (PBx w4 (w.heap.size + 1) 73 z) := HJ3.out.below hb
  clear hb HB3 HK3 HJ3 c15 d15 c16 d16 c17 d17 c18 d18
  have c19 : w4.cell? ⟨w.heap.size, 19, none⟩ = some (.int .i64 y.ts) := HK4.out.cell 19 rfl
  have c20 : w4.cell? ⟨w.heap.size, 20, none⟩ = some (.slice y.ta y.tn y.tc) := HK4.out.cell 20 rfl
  obtain ⟨_, _, _, _, _, _, _, _, _, _, _, _, _, _, _, _, _, _, _, d19, d20, _, _, _, _, _, _⟩ := HZ.out _ HJ4.out
  go_wp2_with fail
  refine Calls.mono (eq_tlb y.ts y.ta z.ta y.tc z.tc y.tn d.Z _ (HS.out.1.below HB4.out).t (HS.out.2.below HB4.out).t HL.out.zz HF.out.ztn) ?_
  rintro e w5 ⟨rfl, hb⟩
  have HB5 : Hid (Below w.heap.size w w5) := HB4.out.trans (hb.mono HB4.out.size)
  have HK5 : Hid (PBx w5 w.heap.size 73 y) := HK4.out.below hb
  have HJ5 : Hid (PBx w5 (w.heap.size + 1) 73 z) := HJ4.out.below hb
  clear hb HB4 HK4 HJ4 c19 d19 c20 d20
  have c21 : w5.cell? ⟨w.heap.size, 21, none⟩ = some (.int .i64 y.nx) := HK5.out.cell 21 rfl
  have c22 : w5.cell? ⟨w.heap.size, 22, none⟩ = some (.bool y.idle) := HK5.out.cell 22 rfl
  have c23 : w5.cell? ⟨w.heap.size, 23, none⟩ = some (.slice y.ba y.bn y.bc) := HK5.out.cell 23 rfl
  obtain ⟨_, _, _, _, _, _, _, _, _, _, _, _, _, _, _, _, _, _, _, _, _, d21, d22, d23, _, _, _⟩ := HZ.out _ HJ5.out
  have hn1 : (y.nx != y.nx) = false := by simp
  have hn2 : (y.idle != y.idle) = false := by simp
  go_wp2_with fail
  refine Calls.mono (eq_rows y.ba z.ba y.bc z.bc y.bn d.Fb _ (HS.out.1.below HB5.out).b (by have := (HS.out.2.below HB5.out).b; rw [← HQ.out.bn] at this; exact this) HF.out.zbn HF.out.zF) ?_
  rintro e w6 ⟨rfl, hb⟩
  have HB6 : Hid (Below w.heap.size w w6) := HB5.out.trans (hb.mono HB5.out.size)
  have HK6 : Hid (PBx w6 w.heap.size 73 y) := HK5.out.below hb
  have HJ6 : Hid (PBx w6 (w.heap.size + 1) 73 z) := HJ5.out.below hb
  clear hb HB5 HK5 HJ5 c21 d21 c22 d22 c23 d23
  have c24 : w6.cell? ⟨w.heap.size, 24, none⟩ = some (.slice y.oa y.un y.uc) := HK6.out.cell 24 rfl
  obtain ⟨_, _, _, _, _, _, _, _, _, _, _, _, _, _, _, _, _, _, _, _, _, _, _, _, d24, _, _⟩ := HZ.out _ HJ6.out
  go_wp2_with fail
  refine Calls.mono (eq_outs y.oa z.oa y.uc z.uc y.un d.H d.G _ (HS.out.1.below HB6.out).o (by have := (HS.out.2.below HB6.out).o; rw [← HQ.out.un] at this; exact this) (by have := HF.out.zG; omega) (by have := HF.out.zG; omega)) ?_
  rintro e w7 ⟨rfl, hb⟩
  have HB7 : Hid (Below w.heap.size w w7) := HB6.out.trans (hb.mono HB6.out.size)
  have HK7 : Hid (PBx w7 w.heap.size 73 y) := HK6.out.below hb
  have HJ7 : Hid (PBx w7 (w.heap.size + 1) 73 z) := HJ6.out.below hb
  clear hb HB6 HK6 HJ6 c24 d24
  have c25 : w7.cell? ⟨w.heap.size, 25, none⟩ = some (.slice y.ia y.jn y.jc) := HK7.out.cell 25 rfl
  obtain ⟨_, _, _, _, _, _, _, _, _, _, _, _, _, _, _, _, _, _, _, _, _, _, _, _, _, d25, _⟩ := HZ.out _ HJ7.out
  go_wp2_with fail
  refine Calls.mono (eq_ins y.ia z.ia y.jc z.jc y.jn d.I _ (HS.out.1.below HB7.out).i (by have := (HS.out.2.below HB7.out).i; rw [← HQ.out.jn] at this; exact this) (by have := HF.out.zI; omega) (by have := HF.out.zI; omega)) ?_
  rintro e w8 ⟨rfl, hb⟩
  have HB8 : Hid (Below w.heap.size w w8) := HB7.out.trans (hb.mono HB7.out.size)
  have HK8 : Hid (PBx w8 w.heap.size 73 y) := HK7.out.below hb
  have HJ8 : Hid (PBx w8 (w.heap.size + 1) 73 z) := HJ7.out.below hb
  clear hb HB7 HK7 HJ7 c25 d25
  have c26 : w8.cell? ⟨w.heap.size, 26, none⟩ = some (.slice y.da y.dn y.dc) := HK8.out.cell 26 rfl
  obtain ⟨_, _, _, _, _, _, _, _, _, _, _, _, _, _, _, _, _, _, _, _, _, _, _, _, _, _, d26⟩ := HZ.out _ HJ8.out
  go_wp2_with fail
  refine Calls.mono (eq_devs y.da z.da y.dc z.dc y.dn d.U d.V _ (HS.out.1.below HB8.out).d (by have := (HS.out.2.below HB8.out).d; rw [← HQ.out.dn] at this; exact this) (by have := HF.out.zU; omega) (by have := HF.out.zU; omega)) ?_
  rintro e w9 ⟨rfl, hb⟩
  have HB9 : Hid (Below w.heap.size w w9) := HB8.out.trans (hb.mono HB8.out.size)
  have HK9 : Hid (PBx w9 w.heap.size 73 y) := HK8.out.below hb
  have HJ9 : Hid (PBx w9 (w.heap.size + 1) 73 z) := HJ8.out.below hb
  clear hb HB8 HK8 HJ8 c26 d26
  go_wp2
  go_ret
  exact ⟨rfl, HB9.out⟩
end Go.Proofs.YtknipnenipdgiaaGreatDoor
