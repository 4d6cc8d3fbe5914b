/-
  What the draw of a write into memory returns: two windows and a guest as they are read, an address, a size and a word. Conditions: the bytes drawn from are at most 1048576.
  What the draw of a write into memory returns, whole. Conditions: the bytes drawn from are at most 1048576.
-/
import Derived.Test.YtanffdedignegaaGq
import Derived.Test.YtanffdedignegaaDq
namespace Go.Proofs.Ytanffdedignegaa
open Go.ChangeShapes Go.WideShapes Go.ChangeAt Go.RowKit Go.Deep
set_option linter.unusedVariables false
namespace Iy

/-- Windows and a guest as they are read: what happens to blocks below 'w' leaves them. -/
def KQ (w X : World) (G : Nat) (xs : List Wn) (ra ma : Option Addr) (n : Nat) (rs : List Int) (D : Nat → List Int) : Prop :=
  ∀ (l h : Nat) (Y : World), h ≤ w.heap.size → Betw l h X Y → ASeg Y (some ⟨G, 0, none⟩) xs ∧ XGSeg Y ra ma rs n D
theorem KQ.go {w X Y : World} {G : Nat} {xs : List Wn} {ra ma : Option Addr} {n : Nat} {rs : List Int} {D : Nat → List Int} (h : KQ w X G xs ra ma n rs D) (l' h' : Nat) (hh : h' ≤ w.heap.size) (hb : Betw l' h' X Y) : KQ w Y G xs ra ma n rs D := fun l h2 Z h3 hZ =>
  h 0 w.heap.size Z (Nat.le_refl _) ⟨hZ.os.trans hb.os, hZ.tape.trans hb.tape, hZ.output.trans hb.output, Nat.le_trans hb.size hZ.size, fun k hk ho => (hZ.block k (Nat.lt_of_lt_of_le hk hb.size) (by omega)).trans (hb.block k hk (by omega))⟩
structure KD (w X : World) (B : Nat) (a : Option Addr) (zs : List Int) (cap : Nat) (G : Nat) (xs : List Wn) (ra ma : Option Addr) (n : Nat) (rs : List Int) (D : Nat → List Int) : Prop where
  ct : CT w X B a zs cap
  kq : KQ w X G xs ra ma n rs D
variable {w X Y : World} {B : Nat} {a : Option Addr} {zs : List Int} {cap G : Nat} {xs : List Wn} {ra ma : Option Addr} {n : Nat} {rs : List Int} {D : Nat → List Int}
theorem KD.turn (h : KD w X B a zs cap G xs ra ma n rs D) (hc : Cur Y B a zs cap) (ht : Turn B X Y) : KD w Y B a zs cap G xs ra ma n rs D :=
  ⟨h.ct.step hc ht, h.kq.go B (B + 1) (by have := h.ct.lo; omega) (turn_betw ht)⟩
theorem KD.below (h : KD w X B a zs cap G xs ra ma n rs D) (hb : Below X.heap.size X Y) : KD w Y B a zs cap G xs ra ma n rs D :=
  ⟨h.ct.below hb, h.kq.go 0 0 (Nat.zero_le _) (Below.betw hb)⟩
theorem KD.read (h : KD w X B a zs cap G xs ra ma n rs D) : ASeg X (some ⟨G, 0, none⟩) xs ∧ XGSeg X ra ma rs n D := h.kq 0 0 X (Nat.zero_le _) (Betw.refl _ _ _)
theorem KD.alloc (h : KD w X B a zs cap G xs ra ma n rs D) (o : Obj) : KD w (X.alloc o) B a zs cap G xs ra ma n rs D := h.below ((Below.refl _ _).alloc (Nat.le_refl _) _)
set_option maxRecDepth 20000 in
set_option maxHeartbeats 8000000 in
theorem draw_addr8 (h : KD w X B a zs cap G xs ra ma n rs D) (hxl : xs.length = 2) (hsm : ∀ i, i < 2 → Sm (xs.getD i wn0).1 ∧ Sm (xs.getD i wn0).2.1) :
    Calls Try.prog 31 #[.pointer (some ⟨B, 0, none⟩), .slice (some ⟨G, 0, none⟩) 2 2] X fun e w' => ∃ t : Int, e = .returned (.int .i64 t) ∧ KD w w' B a zs cap G xs ra ma n rs D ∧ Turn B X w' := by
  have HW : Hid _ := h
  have HXL : Hid (xs.length = 2) := hxl
  have HSM : Hid (∀ i, i < 2 → Sm (xs.getD i wn0).1 ∧ Sm (xs.getD i wn0).2.1) := hsm
  clear h hxl hsm
  go_enter Try.func31, Try.ntmps31
  go_wp2_with fail
  refine Calls.mono (draw_once _ B _ _ _ _ HW.out.ct.cur (by omega) (by omega)) ?_
  rintro e w1 ⟨q, rfl, hc1, ht1⟩
  have HW1 : Hid _ := HW.out.turn hc1 ht1
  have HT1 : Hid (Turn B X w1) := ht1
  clear hc1 ht1
  cases q
  rotate_left
  · go_wp2_with fail
    refine Calls.mono (draw_below _ B _ _ _ _ HW1.out.ct.cur (by omega) (by omega)) ?_
    rintro e w2 ⟨x, rfl, hx0, hx1, hc2, ht2⟩
    have HW2 : Hid _ := HW1.out.turn hc2 ht2
    have HT2 : Hid (Turn B X w2) := HT1.out.trans ht2
    clear hc2 ht2
    go_wp2
    go_ret
    exact ⟨_, rfl, HW2.out, HT2.out⟩
  go_wp2_with fail
  refine Calls.mono (draw_below _ B _ _ _ _ HW1.out.ct.cur (by omega) (by omega)) ?_
  rintro e w2 ⟨x, rfl, hx0, hx1, hc2, ht2⟩
  obtain ⟨k, rfl⟩ := Int.eq_ofNat_of_zero_le hx0
  have HW2 : Hid (KD w w2 B a zs cap G xs ra ma n rs D) := HW1.out.turn hc2 ht2
  have HT2 : Hid (Turn B X w2) := HT1.out.trans ht2
  clear hc2 ht2 HW HW1 HT1
  have hk2 : k < 2 := by omega
  obtain ⟨b', o', eG, hbl, e0, e1, e2⟩ := HW2.out.read.1.at k (by rw [HXL.out]; exact hk2)
  injection eG with eG
  injection eG with eg1 eg2
  subst eg1 eg2
  rw [Nat.zero_add] at e0 e1 e2
  have hs1 := (HSM.out k hk2).2
  generalize xs.getD k wn0 = xk at e0 e1 e2 hs1
  obtain ⟨x0, x1, x2⟩ := xk
  simp only at e0 e1 e2 hs1
  obtain ⟨s1, s2⟩ := hs1
  have hw1 : IntKind.i64.wrap (x1 - 4) = x1 - 4 := wrap_s (by omega)
  have hw2 : IntKind.i64.wrap (x1 - 1) = x1 - 1 := wrap_s (by clear hw1; omega)
  have hne2 : w2.heap.size + 1 ≠ B := by clear hw1 hw2; have := HW2.out.ct.cur.lt; omega
  have b0 := (Bk.new w2 #[.int .i64 x0, .int .i64 x1, .int .i64 x2] 40 w2.heap.size rfl).cell 0 _ rfl
  have b1 := (Bk.new w2 #[.int .i64 x0, .int .i64 x1, .int .i64 x2] 40 w2.heap.size rfl).cell 1 _ rfl
  replace b0 : (w2.alloc (.cells #[.int .i64 x0, .int .i64 x1, .int .i64 x2] 40)).cell? ⟨w2.heap.size, 0, none⟩ = some (.int .i64 x0) := b0
  replace b1 : (w2.alloc (.cells #[.int .i64 x0, .int .i64 x1, .int .i64 x2] 40)).cell? ⟨w2.heap.size, 1, none⟩ = some (.int .i64 x1) := b1
  have HWA : Hid (KD w (w2.alloc (.cells #[.int .i64 x0, .int .i64 x1, .int .i64 x2] 40)) B a zs cap G xs ra ma n rs D) := HW2.out.alloc _
  have HTA : Hid (Turn B X (w2.alloc (.cells #[.int .i64 x0, .int .i64 x1, .int .i64 x2] 40))) := HT2.out.alloc _
  clear HT2
  go_wp2
  have hbs : w2.heap.size < (w2.alloc (.cells #[.int .i64 x0, .int .i64 x1, .int .i64 x2] 40)).heap.size := by simp
  have hneB : w2.heap.size ≠ B := by clear hw1 hw2; have := HW2.out.ct.cur.lt; omega
  generalize w2.alloc (.cells #[.int .i64 x0, .int .i64 x1, .int .i64 x2] 40) = W5 at b0 b1 HWA HTA hbs ⊢
  generalize w2.heap.size = Q5 at b0 b1 hbs hneB ⊢
  have hne5 : W5.heap.size ≠ B := by clear hw1 hw2; have := HWA.out.ct.cur.lt; omega
  clear HW2 e0 e1 e2 hne2 hbl
  go_region_held3 (fun w' => w'.cell? ⟨Q5, 0, none⟩ = some (.int .i64 x0) ∧ w'.cell? ⟨Q5, 1, none⟩ = some (.int .i64 x1)) (first | exact ⟨b0, b1⟩ | exact ⟨cell_al b0, cell_al b1⟩)
    (first | (go_at_call 15; refine Calls.mono (draw_pick _ B _ _ _ _ [0, 0, 4, 1, -1, x1 - 4, x1 - 1, x1] (HWA.out.ct.cur.below ((Below.refl _ _).drew.alloc (Nat.le_refl _) _)) ((own_lit .i64 W5 3 [0, 0, 4, 1, -1, x1 - 4, x1 - 1, x1]).below ((Below.refl _ _).drew)) hne5 (by simp) (by simp)) ?_; rintro u w10 ⟨y2, rfl, hy2, hc10, ht10⟩; replace b0 := (ht10.cell (b := Q5) (o := 0) (by simp; omega) hneB).trans (cell_al b0); replace b1 := (ht10.cell (b := Q5) (o := 1) (by simp; omega) hneB).trans (cell_al b1); have HW10 : Hid (KD w w10 B a zs cap G xs ra ma n rs D) := ((HWA.out.below (Below.refl _ _).drew).alloc _).turn hc10 ht10; have HT10 : Hid (Turn B X w10) := ((HTA.out.trans (Turn.of_below (Below.refl _ _).drew)).alloc _).trans ht10; clear hy2 hc10 ht10))
  go_wp2
  go_ret
  exact ⟨_, rfl, HW10.out, HT10.out⟩
set_option maxHeartbeats 2000000 in
theorem draw_where (h : KD w X B a zs cap G xs ra ma n rs D) (hxl : xs.length = 2) (hsm : ∀ i, i < 2 → Sm (xs.getD i wn0).1 ∧ Sm (xs.getD i wn0).2.1) :
    Calls Try.prog 14 #[.pointer (some ⟨B, 0, none⟩), .slice (some ⟨G, 0, none⟩) 2 2] X fun e w' => ∃ t : Int, e = .returned (.int .u32 t) ∧ (0 ≤ t ∧ t < 4294967296) ∧ KD w w' B a zs cap G xs ra ma n rs D ∧ Turn B X w' := by
  have HC : Hid _ := draw_addr8 h hxl hsm
  clear h hxl hsm
  go_enter Try.func14, Try.ntmps14
  go_wp2_with fail
  refine Calls.mono HC.out ?_
  rintro e w1 ⟨t, rfl, hk⟩
  have HK : Hid _ := hk
  clear hk HC
  obtain ⟨t', ht'⟩ : ∃ t', IntKind.u32.wrap t = t' := ⟨_, rfl⟩
  have HT : Hid (0 ≤ t' ∧ t' < 4294967296) := by
    show _ ∧ _
    rw [← ht', IntKind.wrap_u32]
    omega
  go_wp2
  go_ret
  exact ⟨t', rfl, HT.out, HK.out.1, HK.out.2⟩
end Iy
end Go.Proofs.Ytanffdedignegaa
namespace Go.Proofs.Ytanffdedignegaa
open Go.ChangeShapes Go.WideShapes Go.ChangeAt Go.RowKit Go.Deep
set_option linter.unusedVariables false
namespace Iy

/-- What DrawPoke answers. -/
def DPP (w : World) (e : Ending) (w' : World) : Prop :=
  ∃ (G : Nat) (xs : List Wn) (ra ma : Option Addr) (rl rc n mc : Nat) (pc : Int) (rs : List Int) (D : Nat → List Int) (ad sz x : Int), e = .returned (.tuple #[.slice (some ⟨G, 0, none⟩) 2 2, gst ra rl rc pc ma n mc, .int .u32 ad, .int .i64 sz, .int .u32 x]) ∧ Below w.heap.size w w' ∧ ASeg w' (some ⟨G, 0, none⟩) xs ∧ XGSeg w' ra ma rs n D ∧ GT xs rl rc n mc rs D ∧ (0 ≤ ad ∧ ad < 4294967296) ∧ (0 ≤ x ∧ x ≤ 4294967295)
structure Rp5 (Pre Pst : World → Prop) (v25 : Value) (v26 : Value) (v27 : Value) (v28 : Value) (v29 : Value) (w' : World) (b0 b1 b2 b3 b4 b5 b6 b7 b8 b9 b10 : Bool) (x25 x26 x27 x28 x29 x30 x2 x4 x5 x6 : Value) : Prop where
  pre : b7 = false → Pre w'
  pst : b7 = true → Pst w'
  f0 : b0 = true → x25 = v25
  c0 : b0 = true → True
  f1 : b1 = true → x26 = v26
  c1 : b1 = true → True
  f2 : b2 = true → x27 = v27
  c2 : b2 = true → True
  f3 : b3 = true → x28 = v28
  c3 : b3 = true → True
  f4 : b4 = true → x29 = v29
  c4 : b4 = true → True
  f5 : b5 = true → ∃ y : Int, x30 = .int .u32 y ∧ 0 ≤ y ∧ y ≤ 4294967295
  c5 : b5 = true → b4 = true ∧ True
  f6 : b6 = true → x2 = v25
  c6 : b6 = true → b0 = true ∧ True
  f7 : b7 = true → True
  c7 : b7 = true → b1 = true ∧ True
  f8 : b8 = true → x4 = v27
  c8 : b8 = true → b2 = true ∧ True
  f9 : b9 = true → x5 = v28
  c9 : b9 = true → b3 = true ∧ True
  f10 : b10 = true → ∃ y : Int, x6 = .int .u32 y ∧ 0 ≤ y ∧ y ≤ 4294967295
  c10 : b10 = true → b5 = true ∧ True
set_option maxRecDepth 20000 in
set_option maxHeartbeats 8000000 in
theorem draw_poke (w : World) (a : Option Addr) (zs : List Int) (cap n0 : Nat) (hs : Seg .u8 w a zs) (hb : ∀ z ∈ zs, (Lit.int .u8 z).wf = true) (hl : zs.length = n0) (hn : n0 ≤ 1048576) :
    Calls Try.prog 5 #[.slice a n0 cap] w (DPP w) := by
  have hal : Below w.heap.size w (w.alloc (.cells #[.slice none 0 0, .int .u32 0, .slice none 0 0] 29)) := (Below.refl _ _).alloc (Nat.le_refl _) _
  have HR0 : Hid (Bk (w.alloc (.cells #[.slice none 0 0, .int .u32 0, .slice none 0 0] 29)) w.heap.size #[.slice none 0 0, .int .u32 0, .slice none 0 0]) := Bk.new _ _ _ _ rfl
  have HN : Hid (Calls Try.prog 12 #[.slice a n0 cap] (w.alloc (.cells #[.slice none 0 0, .int .u32 0, .slice none 0 0] 29)) fun e w' => e = .returned (.pointer (some ⟨(w.alloc (.cells #[.slice none 0 0, .int .u32 0, .slice none 0 0] 29)).heap.size, 0, none⟩)) ∧ Cur w' (w.alloc (.cells #[.slice none 0 0, .int .u32 0, .slice none 0 0] 29)).heap.size a zs cap ∧ Below (w.alloc (.cells #[.slice none 0 0, .int .u32 0, .slice none 0 0] 29)).heap.size (w.alloc (.cells #[.slice none 0 0, .int .u32 0, .slice none 0 0] 29)) w') := by
    rw [← hl]
    exact draw_new _ a zs cap (hs.below hal) hb (by omega)
  have HB0 : Hid (Below w.heap.size w (w.alloc (.cells #[.slice none 0 0, .int .u32 0, .slice none 0 0] 29))) := hal
  have HFA : Hid (∀ b off, a = some ⟨b, off, none⟩ → 0 < zs.length → b < w.heap.size) := seg_lt hs
  clear hs hb hl hn hal
  go_enter Try.func5, Try.ntmps5
  go_wp2_with fail
  refine HN.out.mono ?_
  clear HN
  revert HR0 HB0
  generalize (w.alloc (.cells #[.slice none 0 0, .int .u32 0, .slice none 0 0] 29)) = w0
  intro HR0 HB0
  rintro e w1 ⟨rfl, hc1, hb1⟩
  obtain ⟨B, hB⟩ : ∃ x, x = w0.heap.size := ⟨_, rfl⟩
  rw [← hB] at hc1 ⊢
  have HR1 : Hid (Bk w1 w.heap.size #[.slice none 0 0, .int .u32 0, .slice none 0 0]) := HR0.out.below hb1
  have HB1 : Hid (Below w.heap.size w w1) := HB0.out.trans (hb1.mono HB0.out.size)
  have HBW : Hid (w.heap.size ≤ B) := by have := HB0.out.size; show w.heap.size ≤ B; omega
  have hRB : w.heap.size ≠ B := by have := HR0.out.lt; omega
  have HC1 : Hid (Cur w1 B a zs cap) := hc1
  clear hc1 hb1 HR0 HB0 hB
  go_wp2_with fail
  refine (draw_any8 _ B _ _ _ HC1.out).mono ?_
  rintro e w2 ⟨G, xs, ra, ma, rl, rc, n, mc, pc, rs, D, rfl, hct, hkq, hgt⟩
  obtain ⟨P, hP⟩ : ∃ x, w2.heap.size = x := ⟨_, rfl⟩
  have HK2 : Hid (KD w1 (w2.alloc (.cells #[.slice ra rl rc, .int .u32 pc, .slice ma n mc] 29)) B a zs cap G xs ra ma n rs D) := (KD.mk hct hkq).alloc _
  have HR2 : Hid (Bk (w2.alloc (.cells #[.slice ra rl rc, .int .u32 pc, .slice ma n mc] 29)) w.heap.size #[.slice none 0 0, .int .u32 0, .slice none 0 0]) := (HR1.out.turn hct.turn hRB).below ((Below.refl _ _).alloc (Nat.le_refl _) _)
  have HP2 : Hid (Bk (w2.alloc (.cells #[.slice ra rl rc, .int .u32 pc, .slice ma n mc] 29)) P #[.slice ra rl rc, .int .u32 pc, .slice ma n mc]) := Bk.new _ _ _ _ hP.symm
  have hPB : P ≠ B := by have := hct.cur.lt; omega
  have hw1R := HR1.out.lt
  have hB1 := HC1.out.lt
  have HGT : Hid (GT xs rl rc n mc rs D) := hgt
  clear hct hkq hgt HC1
  go_wp2_with fail
  revert HK2 HR2 HP2
  generalize (w2.alloc (.cells #[.slice ra rl rc, .int .u32 pc, .slice ma n mc] 29)) = v2
  try rw [hP]
  clear hP
  intro HK2 HR2 HP2
  refine (draw_where HK2.out HGT.out.xl HGT.out.xsm).mono ?_
  rintro e w3 ⟨ad, rfl, had, hk3, ht3⟩
  have HK3 : Hid (KD w1 w3 B a zs cap G xs ra ma n rs D) := hk3
  have HR3 : Hid (Bk w3 w.heap.size #[.slice none 0 0, .int .u32 0, .slice none 0 0]) := HR2.out.turn ht3 hRB
  have HP3 : Hid (Bk w3 P #[.slice ra rl rc, .int .u32 pc, .slice ma n mc]) := HP2.out.turn ht3 hPB
  have HAD : Hid (0 ≤ ad ∧ ad < 4294967296) := had
  clear hk3 ht3 HK2 HR2 HP2 had
  go_wp2_with fail
  refine (draw_pick _ B w3.heap.size _ _ _ [1, 4, 4, 1, 0] (HK3.out.ct.cur.below ((Below.refl _ _).alloc (Nat.le_refl _) _)) (own_litD .i64 w3 3 _) (by have := HK3.out.ct.cur.lt; omega) (by decide) (by decide)).mono ?_
  rintro e w4 ⟨sz, rfl, hm4, hc4, ht4⟩
  have HK4 : Hid (KD w1 w4 B a zs cap G xs ra ma n rs D) := (HK3.out.alloc _).turn hc4 ht4
  have HR4 : Hid (Bk w4 w.heap.size #[.slice none 0 0, .int .u32 0, .slice none 0 0]) := (HR3.out.below ((Below.refl _ _).alloc (Nat.le_refl _) _)).turn ht4 hRB
  have HP4 : Hid (Bk w4 P #[.slice ra rl rc, .int .u32 pc, .slice ma n mc]) := (HP3.out.below ((Below.refl _ _).alloc (Nat.le_refl _) _)).turn ht4 hPB
  clear hm4 hc4 ht4 HK3 HR3 HP3
  have hPRE0 : KD w1 w4.drew B a zs cap G xs ra ma n rs D ∧ Bk w4.drew w.heap.size #[.slice none 0 0, .int .u32 0, .slice none 0 0] ∧ Bk w4.drew P #[.slice ra rl rc, .int .u32 pc, .slice ma n mc] := ⟨HK4.out.below (Below.refl _ _).drew, HR4.out.below (Below.refl _ _).drew, HP4.out.below (Below.refl _ _).drew⟩
  have HDX : Hid (∀ (b : Bool) (X : World), (b = false → KD w1 X B a zs cap G xs ra ma n rs D ∧ Bk X w.heap.size #[.slice none 0 0, .int .u32 0, .slice none 0 0] ∧ Bk X P #[.slice ra rl rc, .int .u32 pc, .slice ma n mc]) → (b = true → Cur X B a zs cap ∧ KQ w1 X G xs ra ma n rs D ∧ Below w.heap.size w X ∧ Bk X w.heap.size #[.slice ra rl rc, .int .u32 pc, .slice ma n mc]) → Calls Try.prog 16 #[.pointer (some ⟨B, 0, none⟩)] X fun e w' => ∃ y : Int, e = .returned (.int .u32 y) ∧ 0 ≤ y ∧ y ≤ 4294967295 ∧ (b = false → KD w1 w' B a zs cap G xs ra ma n rs D ∧ Bk w' w.heap.size #[.slice none 0 0, .int .u32 0, .slice none 0 0] ∧ Bk w' P #[.slice ra rl rc, .int .u32 pc, .slice ma n mc]) ∧ (b = true → Cur w' B a zs cap ∧ KQ w1 w' G xs ra ma n rs D ∧ Below w.heap.size w w' ∧ Bk w' w.heap.size #[.slice ra rl rc, .int .u32 pc, .slice ma n mc])) := fun b X h1 h2 => by
    cases b
    · have h := h1 rfl
      exact (draw_word X B a zs cap h.1.ct.cur).mono fun e w' ⟨y, g1, g2, g3, g4, g5⟩ => ⟨y, g1, g2, g3, fun _ => ⟨h.1.turn g4 g5, h.2.1.turn g5 hRB, h.2.2.turn g5 hPB⟩, fun z => by cases z⟩
    · have h := h2 rfl
      exact (draw_word X B a zs cap h.1).mono fun e w' ⟨y, g1, g2, g3, g4, g5⟩ => ⟨y, g1, g2, g3, (fun z => by cases z), fun _ => ⟨g4, h.2.1.go B (B + 1) (by omega) (turn_betw g5), h.2.2.1.trans (g5.below HBW.out h.2.2.1.size), h.2.2.2.turn g5 hRB⟩⟩
  have Hend : Hid (∀ X, KD w1 X B a zs cap G xs ra ma n rs D ∧ Bk X w.heap.size #[.slice none 0 0, .int .u32 0, .slice none 0 0] ∧ Bk X P #[.slice ra rl rc, .int .u32 pc, .slice ma n mc] → Cur (((X.setCell ⟨w.heap.size, 0, none⟩ (.slice ra rl rc)).setCell ⟨w.heap.size, 1, none⟩ (.int .u32 pc)).setCell ⟨w.heap.size, 2, none⟩ (.slice ma n mc)) B a zs cap ∧ KQ w1 (((X.setCell ⟨w.heap.size, 0, none⟩ (.slice ra rl rc)).setCell ⟨w.heap.size, 1, none⟩ (.int .u32 pc)).setCell ⟨w.heap.size, 2, none⟩ (.slice ma n mc)) G xs ra ma n rs D ∧ Below w.heap.size w (((X.setCell ⟨w.heap.size, 0, none⟩ (.slice ra rl rc)).setCell ⟨w.heap.size, 1, none⟩ (.int .u32 pc)).setCell ⟨w.heap.size, 2, none⟩ (.slice ma n mc)) ∧ Bk (((X.setCell ⟨w.heap.size, 0, none⟩ (.slice ra rl rc)).setCell ⟨w.heap.size, 1, none⟩ (.int .u32 pc)).setCell ⟨w.heap.size, 2, none⟩ (.slice ma n mc)) w.heap.size #[.slice ra rl rc, .int .u32 pc, .slice ma n mc]) := fun X h => by
    have hbt : Betw w.heap.size (w.heap.size + 1) X (((X.setCell ⟨w.heap.size, 0, none⟩ (.slice ra rl rc)).setCell ⟨w.heap.size, 1, none⟩ (.int .u32 pc)).setCell ⟨w.heap.size, 2, none⟩ (.slice ma n mc)) := (((Betw.refl _ _ _).setCell (p := ⟨w.heap.size, 0, none⟩) (Nat.le_refl _) (Nat.lt_succ_self _) _).setCell (p := ⟨w.heap.size, 1, none⟩) (Nat.le_refl _) (Nat.lt_succ_self _) _).setCell (p := ⟨w.heap.size, 2, none⟩) (Nat.le_refl _) (Nat.lt_succ_self _) _
    have hbx : Below w.heap.size w X := HB1.out.trans (h.1.ct.turn.below HBW.out HB1.out.size)
    have hfa : ∀ b off, a = some ⟨b, off, none⟩ → 0 < zs.length → b ≠ w.heap.size := fun b off e h0 => by have := HFA.out b off e h0; omega
    exact ⟨cur_far (cur_far (cur_far h.1.ct.cur _ 0 _ (fun e => hRB e.symm) hfa) _ 1 _ (fun e => hRB e.symm) hfa) _ 2 _ (fun e => hRB e.symm) hfa, h.1.kq.go _ _ (by omega) hbt, hbx.trans (hbt.below (Nat.le_refl _) hbx.size), ((h.2.1.set 0 _ (by simp) rfl).set 1 _ (by simp) rfl).set 2 _ (by simp) rfl⟩
  clear HK4 HR4 HP4
  go_wp2
  refine wp_region_inv (by kernel_rfl) (by kernel_rfl) (fun A ℓ a' w' => ∃ (x25 x26 x27 x28 x29 x30 x2 x4 x5 x6 : Value), a' = ((((((((((A.put (some 25) x25).put (some 26) x26).put (some 27) x27).put (some 28) x28).put (some 29) x29).put (some 30) x30).put (some 2) x2).put (some 4) x4).put (some 5) x5).put (some 6) x6) ∧ Rp5 (fun w' => KD w1 w' B a zs cap G xs ra ma n rs D ∧ Bk w' w.heap.size #[.slice none 0 0, .int .u32 0, .slice none 0 0] ∧ Bk w' P #[.slice ra rl rc, .int .u32 pc, .slice ma n mc]) (fun w' => Cur w' B a zs cap ∧ KQ w1 w' G xs ra ma n rs D ∧ Below w.heap.size w w' ∧ Bk w' w.heap.size #[.slice ra rl rc, .int .u32 pc, .slice ma n mc]) (.slice (some ⟨G, 0, none⟩) 2 2) (gst ra rl rc pc ma n mc) (.int .u32 ad) (.int .i64 sz) (.pointer (some ⟨B, 0, none⟩)) w' (ℓ 0) (ℓ 1) (ℓ 2) (ℓ 3) (ℓ 4) (ℓ 5) (ℓ 6) (ℓ 7) (ℓ 8) (ℓ 9) (ℓ 10) x25 x26 x27 x28 x29 x30 x2 x4 x5 x6) ?_ ?_ ?_ ?_
  · exact ⟨undef, undef, undef, undef, undef, undef, (.slice none 0 0), (.int .u32 0), (.int .i64 0), (.int .u32 0), (by simp only [Act.put, List.setIfInBounds_toArray, List.set_cons_zero, List.set_cons_succ]), ⟨fun _ => hPRE0, (fun g => by cases g), (fun g => by cases g), (fun g => by cases g), (fun g => by cases g), (fun g => by cases g), (fun g => by cases g), (fun g => by cases g), (fun g => by cases g), (fun g => by cases g), (fun g => by cases g), (fun g => by cases g), (fun g => by cases g), (fun g => by cases g), (fun g => by cases g), (fun g => by cases g), (fun g => by cases g), (fun g => by cases g), (fun g => by cases g), (fun g => by cases g), (fun g => by cases g), (fun g => by cases g), (fun g => by cases g), (fun g => by cases g)⟩⟩
  · intro ℓ a' w' hI hall
    obtain ⟨x25, x26, x27, x28, x29, x30, x2, x4, x5, x6, rfl, hr⟩ := hI
    have hall' : ∀ i, i < 11 → ℓ i = true := hall
    obtain rfl := hr.f0 (hall' 0 (by decide))
    obtain rfl := hr.f1 (hall' 1 (by decide))
    obtain rfl := hr.f2 (hall' 2 (by decide))
    obtain rfl := hr.f3 (hall' 3 (by decide))
    obtain rfl := hr.f4 (hall' 4 (by decide))
    obtain ⟨yy5, rfl, hyy5, hzz5⟩ := hr.f5 (hall' 5 (by decide))
    obtain rfl := hr.f6 (hall' 6 (by decide))
    obtain rfl := hr.f8 (hall' 8 (by decide))
    obtain rfl := hr.f9 (hall' 9 (by decide))
    obtain ⟨yy10, rfl, hyy10, hzz10⟩ := hr.f10 (hall' 10 (by decide))
    have HPST := hr.pst (hall' 7 (by decide))
    clear hall hall' hr
    simp only [Act.put, List.setIfInBounds_toArray, List.set_cons_zero, List.set_cons_succ]
    obtain ⟨hcu, hk, hbl, hb⟩ := HPST
    have n0 := hb.cell 0 _ rfl
    have n1 := hb.cell 1 _ rfl
    have n2 := hb.cell 2 _ rfl
    have HKF : Hid _ := And.intro hbl (hk 0 0 _ (Nat.zero_le _) (Betw.refl _ _ _))
    clear hk hb hcu hbl
    go_wp2
    exact bodyPost_ret (v := .tuple #[.slice (some ⟨G, 0, none⟩) 2 2, gst ra rl rc pc ma n mc, .int .u32 ad, .int .i64 sz, .int .u32 yy10]) (by simp [results, Try.results5, go_sem, n0, n1, n2]) rfl ⟨_, _, _, _, _, _, _, _, _, _, _, _, _, _, rfl, HKF.out.1, HKF.out.2.1, HKF.out.2.2, HGT.out, HAD.out, ⟨hyy10, hzz10⟩⟩
  · intro ℓ a' w' i o hI ho hi hL hdep K hK
    obtain ⟨x25, x26, x27, x28, x29, x30, x2, x4, x5, x6, rfl, hr⟩ := hI
    have hi7 : i < 11 := hi
    have hcs : i = 0 ∨ i = 1 ∨ i = 2 ∨ i = 3 ∨ i = 4 ∨ i = 5 ∨ i = 6 ∨ i = 7 ∨ i = 8 ∨ i = 9 ∨ i = 10 := by omega
    clear hi hi7
    rcases hcs with rfl | rfl | rfl | rfl | rfl | rfl | rfl | rfl | rfl | rfl | rfl
    · obtain rfl := Option.some.inj ho
      clear hdep ho
      revert hK
      intro hK
      rw [if_pos (by rfl)]
      try simp only [Act.put, List.setIfInBounds_toArray, List.set_cons_zero, List.set_cons_succ]
      go_simp
      exact hK.out _ _ (fun j => if j = 0 then true else ℓ j) ⟨.slice (some ⟨G, 0, none⟩) 2 2, x26, x27, x28, x29, x30, x2, x4, x5, x6, (by simp only [Act.put, List.setIfInBounds_toArray, List.set_cons_zero, List.set_cons_succ]), ⟨hr.pre, hr.pst, (fun _ => rfl), (fun _ => trivial), hr.f1, hr.c1, hr.f2, hr.c2, hr.f3, hr.c3, hr.f4, hr.c4, hr.f5, hr.c5, hr.f6, (fun z => ⟨rfl, trivial⟩), hr.f7, hr.c7, hr.f8, hr.c8, hr.f9, hr.c9, hr.f10, hr.c10⟩⟩ (if_pos rfl) (fun j hj => if_neg hj)
    · obtain rfl := Option.some.inj ho
      clear hdep ho
      have hl : ℓ 7 = false := by
        cases h7 : ℓ 7
        · rfl
        · have := (hr.c7 h7).1; rw [this] at hL; cases hL
      have hp := hr.pre hl
      revert hK
      have kq := hp.2.2
      have q0 := kq.cell 0 _ rfl
      have q1 := kq.cell 1 _ rfl
      have q2 := kq.cell 2 _ rfl
      clear kq
      intro hK
      rw [if_pos (by rfl)]
      try simp only [Act.put, List.setIfInBounds_toArray, List.set_cons_zero, List.set_cons_succ]
      go_simp
      exact hK.out _ _ (fun j => if j = 1 then true else ℓ j) ⟨x25, gst ra rl rc pc ma n mc, x27, x28, x29, x30, x2, x4, x5, x6, (by simp only [Act.put, List.setIfInBounds_toArray, List.set_cons_zero, List.set_cons_succ]), ⟨hr.pre, hr.pst, hr.f0, hr.c0, (fun _ => rfl), (fun _ => trivial), hr.f2, hr.c2, hr.f3, hr.c3, hr.f4, hr.c4, hr.f5, hr.c5, hr.f6, hr.c6, hr.f7, (fun z => ⟨rfl, trivial⟩), hr.f8, hr.c8, hr.f9, hr.c9, hr.f10, hr.c10⟩⟩ (if_pos rfl) (fun j hj => if_neg hj)
    · obtain rfl := Option.some.inj ho
      clear hdep ho
      revert hK
      intro hK
      rw [if_pos (by rfl)]
      try simp only [Act.put, List.setIfInBounds_toArray, List.set_cons_zero, List.set_cons_succ]
      go_simp
      exact hK.out _ _ (fun j => if j = 2 then true else ℓ j) ⟨x25, x26, .int .u32 ad, x28, x29, x30, x2, x4, x5, x6, (by simp only [Act.put, List.setIfInBounds_toArray, List.set_cons_zero, List.set_cons_succ]), ⟨hr.pre, hr.pst, hr.f0, hr.c0, hr.f1, hr.c1, (fun _ => rfl), (fun _ => trivial), hr.f3, hr.c3, hr.f4, hr.c4, hr.f5, hr.c5, hr.f6, hr.c6, hr.f7, hr.c7, hr.f8, (fun z => ⟨rfl, trivial⟩), hr.f9, hr.c9, hr.f10, hr.c10⟩⟩ (if_pos rfl) (fun j hj => if_neg hj)
    · obtain rfl := Option.some.inj ho
      clear hdep ho
      revert hK
      intro hK
      rw [if_pos (by rfl)]
      try simp only [Act.put, List.setIfInBounds_toArray, List.set_cons_zero, List.set_cons_succ]
      go_simp
      exact hK.out _ _ (fun j => if j = 3 then true else ℓ j) ⟨x25, x26, x27, .int .i64 sz, x29, x30, x2, x4, x5, x6, (by simp only [Act.put, List.setIfInBounds_toArray, List.set_cons_zero, List.set_cons_succ]), ⟨hr.pre, hr.pst, hr.f0, hr.c0, hr.f1, hr.c1, hr.f2, hr.c2, (fun _ => rfl), (fun _ => trivial), hr.f4, hr.c4, hr.f5, hr.c5, hr.f6, hr.c6, hr.f7, hr.c7, hr.f8, hr.c8, hr.f9, (fun z => ⟨rfl, trivial⟩), hr.f10, hr.c10⟩⟩ (if_pos rfl) (fun j hj => if_neg hj)
    · obtain rfl := Option.some.inj ho
      clear hdep ho
      revert hK
      intro hK
      rw [if_pos (by rfl)]
      try simp only [Act.put, List.setIfInBounds_toArray, List.set_cons_zero, List.set_cons_succ]
      go_simp
      exact hK.out _ _ (fun j => if j = 4 then true else ℓ j) ⟨x25, x26, x27, x28, .pointer (some ⟨B, 0, none⟩), x30, x2, x4, x5, x6, (by simp only [Act.put, List.setIfInBounds_toArray, List.set_cons_zero, List.set_cons_succ]), ⟨hr.pre, hr.pst, hr.f0, hr.c0, hr.f1, hr.c1, hr.f2, hr.c2, hr.f3, hr.c3, (fun _ => rfl), (fun _ => trivial), hr.f5, (fun z => ⟨rfl, trivial⟩), hr.f6, hr.c6, hr.f7, hr.c7, hr.f8, hr.c8, hr.f9, hr.c9, hr.f10, hr.c10⟩⟩ (if_pos rfl) (fun j hj => if_neg hj)
    · obtain rfl := Option.some.inj ho
      have g4 : ℓ 4 = true := hdep { on := 4, ground := Ground.data } (by simp) rfl
      clear hdep ho
      revert hK
      obtain rfl := hr.f4 g4
      intro hK
      rw [if_pos (by rfl)]
      try simp only [Act.put, List.setIfInBounds_toArray, List.set_cons_zero, List.set_cons_succ]
      go_simp
      refine Calls.mono (HDX.out (ℓ 7) _ hr.pre hr.pst) ?_
      rintro e w9 ⟨yn, rfl, hyn, hzn, hpn, hqn⟩
      exact hK.out _ _ (fun j => if j = 5 then true else ℓ j) ⟨x25, x26, x27, x28, .pointer (some ⟨B, 0, none⟩), .int .u32 yn, x2, x4, x5, x6, (by simp only [Act.put, List.setIfInBounds_toArray, List.set_cons_zero, List.set_cons_succ]), ⟨hpn, hqn, hr.f0, hr.c0, hr.f1, hr.c1, hr.f2, hr.c2, hr.f3, hr.c3, hr.f4, hr.c4, (fun _ => ⟨_, rfl, hyn, hzn⟩), (fun _ => ⟨g4, trivial⟩), hr.f6, hr.c6, hr.f7, hr.c7, hr.f8, hr.c8, hr.f9, hr.c9, hr.f10, (fun z => ⟨rfl, trivial⟩)⟩⟩ (if_pos rfl) (fun j hj => if_neg hj)
    · obtain rfl := Option.some.inj ho
      have g0 : ℓ 0 = true := hdep { on := 0, ground := Ground.data } (by simp) rfl
      clear hdep ho
      revert hK
      obtain rfl := hr.f0 g0
      intro hK
      rw [if_pos (by rfl)]
      try simp only [Act.put, List.setIfInBounds_toArray, List.set_cons_zero, List.set_cons_succ]
      go_simp
      exact hK.out _ _ (fun j => if j = 6 then true else ℓ j) ⟨.slice (some ⟨G, 0, none⟩) 2 2, x26, x27, x28, x29, x30, .slice (some ⟨G, 0, none⟩) 2 2, x4, x5, x6, (by simp only [Act.put, List.setIfInBounds_toArray, List.set_cons_zero, List.set_cons_succ]), ⟨hr.pre, hr.pst, hr.f0, hr.c0, hr.f1, hr.c1, hr.f2, hr.c2, hr.f3, hr.c3, hr.f4, hr.c4, hr.f5, hr.c5, (fun _ => rfl), (fun _ => ⟨g0, trivial⟩), hr.f7, hr.c7, hr.f8, hr.c8, hr.f9, hr.c9, hr.f10, hr.c10⟩⟩ (if_pos rfl) (fun j hj => if_neg hj)
    · obtain rfl := Option.some.inj ho
      have g1 : ℓ 1 = true := hdep { on := 1, ground := Ground.data } (by simp) rfl
      clear hdep ho
      have hp := hr.pre hL
      revert hK
      obtain rfl := hr.f1 g1
      have kq := hp.2.1
      have q0 := kq.cell 0 _ rfl
      have q1 := kq.cell 1 _ rfl
      have q2 := kq.cell 2 _ rfl
      have qf := kq.free
      have hq := Hend.out _ hp
      clear kq
      intro hK
      have HQq : Hid _ := hq
      clear hq hp
      rw [if_pos (by rfl)]
      try simp only [Act.put, List.setIfInBounds_toArray, List.set_cons_zero, List.set_cons_succ]
      go_simp
      exact hK.out _ _ (fun j => if j = 7 then true else ℓ j) ⟨x25, gst ra rl rc pc ma n mc, x27, x28, x29, x30, x2, x4, x5, x6, (by simp only [Act.put, List.setIfInBounds_toArray, List.set_cons_zero, List.set_cons_succ]), ⟨(fun z => by cases z), (fun _ => HQq.out), hr.f0, hr.c0, hr.f1, hr.c1, hr.f2, hr.c2, hr.f3, hr.c3, hr.f4, hr.c4, hr.f5, hr.c5, hr.f6, hr.c6, (fun _ => trivial), (fun _ => ⟨g1, trivial⟩), hr.f8, hr.c8, hr.f9, hr.c9, hr.f10, hr.c10⟩⟩ (if_pos rfl) (fun j hj => if_neg hj)
    · obtain rfl := Option.some.inj ho
      have g2 : ℓ 2 = true := hdep { on := 2, ground := Ground.data } (by simp) rfl
      clear hdep ho
      revert hK
      obtain rfl := hr.f2 g2
      intro hK
      rw [if_pos (by rfl)]
      try simp only [Act.put, List.setIfInBounds_toArray, List.set_cons_zero, List.set_cons_succ]
      go_simp
      exact hK.out _ _ (fun j => if j = 8 then true else ℓ j) ⟨x25, x26, .int .u32 ad, x28, x29, x30, x2, .int .u32 ad, x5, x6, (by simp only [Act.put, List.setIfInBounds_toArray, List.set_cons_zero, List.set_cons_succ]), ⟨hr.pre, hr.pst, hr.f0, hr.c0, hr.f1, hr.c1, hr.f2, hr.c2, hr.f3, hr.c3, hr.f4, hr.c4, hr.f5, hr.c5, hr.f6, hr.c6, hr.f7, hr.c7, (fun _ => rfl), (fun _ => ⟨g2, trivial⟩), hr.f9, hr.c9, hr.f10, hr.c10⟩⟩ (if_pos rfl) (fun j hj => if_neg hj)
    · obtain rfl := Option.some.inj ho
      have g3 : ℓ 3 = true := hdep { on := 3, ground := Ground.data } (by simp) rfl
      clear hdep ho
      revert hK
      obtain rfl := hr.f3 g3
      intro hK
      rw [if_pos (by rfl)]
      try simp only [Act.put, List.setIfInBounds_toArray, List.set_cons_zero, List.set_cons_succ]
      go_simp
      exact hK.out _ _ (fun j => if j = 9 then true else ℓ j) ⟨x25, x26, x27, .int .i64 sz, x29, x30, x2, x4, .int .i64 sz, x6, (by simp only [Act.put, List.setIfInBounds_toArray, List.set_cons_zero, List.set_cons_succ]), ⟨hr.pre, hr.pst, hr.f0, hr.c0, hr.f1, hr.c1, hr.f2, hr.c2, hr.f3, hr.c3, hr.f4, hr.c4, hr.f5, hr.c5, hr.f6, hr.c6, hr.f7, hr.c7, hr.f8, hr.c8, (fun _ => rfl), (fun _ => ⟨g3, trivial⟩), hr.f10, hr.c10⟩⟩ (if_pos rfl) (fun j hj => if_neg hj)
    · obtain rfl := Option.some.inj ho
      have g5 : ℓ 5 = true := hdep { on := 5, ground := Ground.data } (by simp) rfl
      clear hdep ho
      revert hK
      obtain ⟨y5, rfl, hy5, hz5⟩ := hr.f5 g5
      intro hK
      rw [if_pos (by rfl)]
      try simp only [Act.put, List.setIfInBounds_toArray, List.set_cons_zero, List.set_cons_succ]
      go_simp
      exact hK.out _ _ (fun j => if j = 10 then true else ℓ j) ⟨x25, x26, x27, x28, x29, .int .u32 y5, x2, x4, x5, .int .u32 (y5), (by simp only [Act.put, List.setIfInBounds_toArray, List.set_cons_zero, List.set_cons_succ]), ⟨hr.pre, hr.pst, hr.f0, hr.c0, hr.f1, hr.c1, hr.f2, hr.c2, hr.f3, hr.c3, hr.f4, hr.c4, hr.f5, hr.c5, hr.f6, hr.c6, hr.f7, hr.c7, hr.f8, hr.c8, hr.f9, hr.c9, (fun _ => ⟨_, rfl, by omega, by omega⟩), (fun _ => ⟨g5, trivial⟩)⟩⟩ (if_pos rfl) (fun j hj => if_neg hj)
  · rintro a' w' ℓ ℓ' hℓ hI
    rw [← show ℓ = ℓ' from funext hℓ]
    exact hI
end Iy
end Go.Proofs.Ytanffdedignegaa
