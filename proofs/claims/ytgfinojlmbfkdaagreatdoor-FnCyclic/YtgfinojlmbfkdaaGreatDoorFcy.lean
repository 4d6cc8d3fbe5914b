
/-
  The law on cycles, walked: of all bytes it returns true. Conditions: the bytes are bytes; the program's table of extras holds what the program's text lays.
-/
import Derived.Test.YtgfinojlmbfkdaaGreatDoorBas
import Derived.Test.YtgfinojlmbfkdaaGreatDoorDtd
import Derived.Test.YtgfinojlmbfkdaaGreatDoorFcp
import Derived.Test.YtgfinojlmbfkdaaGreatDoorTih
import Derived.Test.YtgfinojlmbfkdaaGreatDoorTiv
import Derived.Test.YtgfinojlmbfkdaaGreatDoorGen
import Derived.Test.YtgfinojlmbfkdaaGreatDoorVat
namespace Go.Proofs.YtgfinojlmbfkdaaGreatDoor
open Go.ChangeShapes Go.WideShapes Go.ChangeAt Go.RowKit Go.Deep Go.Joins
set_option linter.unusedVariables false

/-- What stands while the last test is told. -/
structure R18 (V w : World) (t : Tb) (ad : Ad) (N bS oS i : Nat) (n c pt : Int) (b0 b1 b2 b3 b4 b5 b6 b7 b8 b9 b10 b11 b12 b13 b14 b15 b16 b17 b18 b19 b20 : Bool) (x153 x154 x155 x156 x157 x158 x159 x160 x161 x162 x163 x164 x165 x166 x167 x168 x169 x170 x171 x172 x2 : Value) : Prop where
  gb : Below V.heap.size V w
  f0 : b0 = true → x153 = tbV t ad
  f1 : b1 = true → x154 = .int .i64 n
  f2 : b2 = true → x155 = .int .i64 n
  f3 : b3 = true → x156 = .int .i64 n
  f4 : b4 = true → x157 = .bool true
  f5 : b5 = true → x158 = .bool true
  f6 : b6 = true → x159 = tbV t ad
  f7 : b7 = true → x160 = .pointer (some ⟨N, 18, none⟩)
  f8 : b8 = true → x161 = .slice (some ⟨bS, oS, none⟩) ad.sn ad.sc
  f9 : b9 = true → x162 = .int .i64 (i : Int)
  f10 : b10 = true → x163 = .pointer (some ⟨bS, oS + i * 3, none⟩)
  f11 : b11 = true → x164 = .pointer (some ⟨bS, oS + i * 3, none⟩)
  f12 : b12 = true → x165 = .int .i64 pt
  f13 : b13 = true → x166 = .int .i64 c
  f14 : b14 = true → x167 = .int .i64 n
  f15 : b15 = true → x168 = .int .i64 (n + 1)
  f16 : b16 = true → ∃ a cc, x169 = .slice a 1 cc
  f17 : b17 = true → x170 = .int .i64 1
  f18 : b18 = true → x171 = .bool true
  f19 : b19 = true → x172 = .bool true
  f20 : b20 = true → x2 = .bool true
set_option maxRecDepth 40000 in
set_option maxHeartbeats 32000000 in
theorem walk_cyclic (a : Option Addr) (zs : List Int) (cap nn : Nat) (w : World) (hs : Seg .u8 w a zs) (hb : ∀ z ∈ zs, (Lit.int .u8 z).wf = true) (hl : zs.length = nn) (he : TabE w) :
    Calls Tryz.prog 6 #[.slice a nn cap] w fun e w' => e = .returned (.bool true) ∧ Below w.heap.size w w' := by
  by_cases hn : nn ≤ 1048576
  rotate_left
  · have HY : Hid _ := big_yes a nn cap w hn
    go_enter Tryz.func6, Tryz.ntmps6
    go_wp2_with fail
    refine Calls.mono HY.out ?_
    rintro e w1 ⟨rfl, rfl⟩
    go_wp2
    go_ret
    exact ⟨rfl, Below.refl _ _⟩
  have HNO : Hid _ := big_no a nn cap w hn
  have HDR : Hid _ := draw_tables w a zs cap nn hs hb hl hn
  have HAT : Hid (∀ (i : Nat) X, i ≤ 1000 → Below w.heap.size w X → Calls Tryz.prog 28 #[.slice a nn cap, .int .i64 i] X fun e w' => ∃ x : Int, e = .returned (.int .i64 x) ∧ 0 ≤ x ∧ x ≤ 255 ∧ w' = X) := fun i X hi hX => at_any a cap nn zs i X hn hl hi (hs.below hX) hb
  have HTE : Hid (∀ X, Below w.heap.size w X → TabE X) := fun X hX => he.below hX
  clear hs hb hl he
  go_enter Tryz.func6, Tryz.ntmps6
  go_wp2_with fail
  refine Calls.mono HNO.out ?_
  rintro e w ⟨rfl, rfl⟩
  go_wp2_with fail
  refine Calls.mono HDR.out ?_
  rintro e w1 ⟨⟨t, ad, rfl, hD⟩, hb⟩
  have hT : Tm t := sd_tm hD.d.sd
  have HNR : Hid ((w1.alloc (.cells #[.int .i64 0, .int .i64 0, .int .i64 0, .int .i64 0, .int .i64 0, .int .i64 0, .int .i64 0, .int .i64 0, .int .i64 0, .int .i64 0, .int .i64 0, .int .i64 0, .int .i64 0, .int .i64 0, .int .i64 0, .slice none 0 0, .slice none 0 0, .slice none 0 0, .slice none 0 0] 46)).heap[w1.heap.size]? = some (.cells #[.int .i64 0, .int .i64 0, .int .i64 0, .int .i64 0, .int .i64 0, .int .i64 0, .int .i64 0, .int .i64 0, .int .i64 0, .int .i64 0, .int .i64 0, .int .i64 0, .int .i64 0, .int .i64 0, .int .i64 0, .slice none 0 0, .slice none 0 0, .slice none 0 0, .slice none 0 0] 46 (0, 0))) := new_row w1 _ _ _ rfl
  have hbV : Below w1.heap.size w1 ((w1.alloc (.cells #[.int .i64 0, .int .i64 0, .int .i64 0, .int .i64 0, .int .i64 0, .int .i64 0, .int .i64 0, .int .i64 0, .int .i64 0, .int .i64 0, .int .i64 0, .int .i64 0, .int .i64 0, .int .i64 0, .int .i64 0, .slice none 0 0, .slice none 0 0, .slice none 0 0, .slice none 0 0] 46)).setRow w1.heap.size (tbA t ad)) := below_setRow ((Below.refl _ _).alloc (Nat.le_refl _) _) (Nat.le_refl _) _
  have HX : Hid (∀ X, Below ((w1.alloc (.cells #[.int .i64 0, .int .i64 0, .int .i64 0, .int .i64 0, .int .i64 0, .int .i64 0, .int .i64 0, .int .i64 0, .int .i64 0, .int .i64 0, .int .i64 0, .int .i64 0, .int .i64 0, .int .i64 0, .int .i64 0, .slice none 0 0, .slice none 0 0, .slice none 0 0, .slice none 0 0] 46)).setRow w1.heap.size (tbA t ad)).heap.size ((w1.alloc (.cells #[.int .i64 0, .int .i64 0, .int .i64 0, .int .i64 0, .int .i64 0, .int .i64 0, .int .i64 0, .int .i64 0, .int .i64 0, .int .i64 0, .int .i64 0, .int .i64 0, .int .i64 0, .int .i64 0, .int .i64 0, .slice none 0 0, .slice none 0 0, .slice none 0 0, .slice none 0 0] 46)).setRow w1.heap.size (tbA t ad)) X → X.heap[w1.heap.size]? = some (.cells (tbA t ad) 46 (0, 0))) := fun X hX => row_below (setRow_heap _ _ _ _ _ _ HNR.out) hX
  have HB1 : Hid (Below w.heap.size w ((w1.alloc (.cells #[.int .i64 0, .int .i64 0, .int .i64 0, .int .i64 0, .int .i64 0, .int .i64 0, .int .i64 0, .int .i64 0, .int .i64 0, .int .i64 0, .int .i64 0, .int .i64 0, .int .i64 0, .int .i64 0, .int .i64 0, .slice none 0 0, .slice none 0 0, .slice none 0 0, .slice none 0 0] 46)).setRow w1.heap.size (tbA t ad))) := hb.trans (hbV.mono hb.size)
  have HM : Hid (∀ X, Below ((w1.alloc (.cells #[.int .i64 0, .int .i64 0, .int .i64 0, .int .i64 0, .int .i64 0, .int .i64 0, .int .i64 0, .int .i64 0, .int .i64 0, .int .i64 0, .int .i64 0, .int .i64 0, .int .i64 0, .int .i64 0, .int .i64 0, .slice none 0 0, .slice none 0 0, .slice none 0 0, .slice none 0 0] 46)).setRow w1.heap.size (tbA t ad)).heap.size ((w1.alloc (.cells #[.int .i64 0, .int .i64 0, .int .i64 0, .int .i64 0, .int .i64 0, .int .i64 0, .int .i64 0, .int .i64 0, .int .i64 0, .int .i64 0, .int .i64 0, .int .i64 0, .int .i64 0, .int .i64 0, .int .i64 0, .slice none 0 0, .slice none 0 0, .slice none 0 0, .slice none 0 0] 46)).setRow w1.heap.size (tbA t ad)) X → TM 0 X t ad ∧ TabE X) := fun X hX => ⟨hD.m X (hbV.trans (hX.mono hbV.size)), HTE.out X (HB1.out.trans (hX.mono HB1.out.size))⟩
  have HPH : Hid (∀ (y : Int) X, 0 ≤ y → y ≤ 50000 → Below ((w1.alloc (.cells #[.int .i64 0, .int .i64 0, .int .i64 0, .int .i64 0, .int .i64 0, .int .i64 0, .int .i64 0, .int .i64 0, .int .i64 0, .int .i64 0, .int .i64 0, .int .i64 0, .int .i64 0, .int .i64 0, .int .i64 0, .slice none 0 0, .slice none 0 0, .slice none 0 0, .slice none 0 0] 46)).setRow w1.heap.size (tbA t ad)).heap.size ((w1.alloc (.cells #[.int .i64 0, .int .i64 0, .int .i64 0, .int .i64 0, .int .i64 0, .int .i64 0, .int .i64 0, .int .i64 0, .int .i64 0, .int .i64 0, .int .i64 0, .int .i64 0, .int .i64 0, .int .i64 0, .int .i64 0, .slice none 0 0, .slice none 0 0, .slice none 0 0, .slice none 0 0] 46)).setRow w1.heap.size (tbA t ad)) X → Calls Tryz.prog 31 #[tbV t ad, .int .i64 y] X fun e w' => e = .returned (.int .i64 (phaseV t (y % t.maj))) ∧ Below X.heap.size X w') := fun y X h0 h1 hX => (impl_phaseat t ad y X (HM.out X hX).1 hD.w hD.s (HM.out X hX).2 hD.c1 hD.c2).mono fun e w' ⟨⟨r, e1, e2⟩, h3⟩ => by
    rcases e2 with ⟨e2, _⟩ | ⟨_, e2⟩
    · exact absurd ⟨hD.d.sd, h0, h1⟩ e2
    · exact ⟨by rw [e1, e2], h3⟩
  have HSL : Hid (∀ (y : Int) X, 0 ≤ y → y ≤ 50000 → Below ((w1.alloc (.cells #[.int .i64 0, .int .i64 0, .int .i64 0, .int .i64 0, .int .i64 0, .int .i64 0, .int .i64 0, .int .i64 0, .int .i64 0, .int .i64 0, .int .i64 0, .int .i64 0, .int .i64 0, .int .i64 0, .int .i64 0, .slice none 0 0, .slice none 0 0, .slice none 0 0, .slice none 0 0] 46)).setRow w1.heap.size (tbA t ad)).heap.size ((w1.alloc (.cells #[.int .i64 0, .int .i64 0, .int .i64 0, .int .i64 0, .int .i64 0, .int .i64 0, .int .i64 0, .int .i64 0, .int .i64 0, .int .i64 0, .int .i64 0, .int .i64 0, .int .i64 0, .int .i64 0, .int .i64 0, .slice none 0 0, .slice none 0 0, .slice none 0 0, .slice none 0 0] 46)).setRow w1.heap.size (tbA t ad)) X → Calls Tryz.prog 32 #[tbV t ad, .int .i64 y] X fun e w' => e = .returned (.int .i64 (slotV t (y % t.maj))) ∧ Below X.heap.size X w') := fun y X h0 h1 hX => (impl_slotat t ad y X (HM.out X hX).1 hD.w hD.s (HM.out X hX).2 hD.c1 hD.c2).mono fun e w' ⟨⟨r, e1, e2⟩, h3⟩ => by
    rcases e2 with ⟨e2, _⟩ | ⟨_, e2⟩
    · exact absurd ⟨hD.d.sd, h0, h1⟩ e2
    · exact ⟨by rw [e1, e2], h3⟩
  have HFR : Hid (∀ (y : Int) X, 0 ≤ y → y ≤ 50000 → Below ((w1.alloc (.cells #[.int .i64 0, .int .i64 0, .int .i64 0, .int .i64 0, .int .i64 0, .int .i64 0, .int .i64 0, .int .i64 0, .int .i64 0, .int .i64 0, .int .i64 0, .int .i64 0, .int .i64 0, .int .i64 0, .int .i64 0, .slice none 0 0, .slice none 0 0, .slice none 0 0, .slice none 0 0] 46)).setRow w1.heap.size (tbA t ad)).heap.size ((w1.alloc (.cells #[.int .i64 0, .int .i64 0, .int .i64 0, .int .i64 0, .int .i64 0, .int .i64 0, .int .i64 0, .int .i64 0, .int .i64 0, .int .i64 0, .int .i64 0, .int .i64 0, .int .i64 0, .int .i64 0, .int .i64 0, .slice none 0 0, .slice none 0 0, .slice none 0 0, .slice none 0 0] 46)).setRow w1.heap.size (tbA t ad)) X → Calls Tryz.prog 33 #[tbV t ad, .int .i64 y] X fun e w' => e = .returned (.int .i64 (y / t.maj)) ∧ Below X.heap.size X w') := fun y X h0 h1 hX => (impl_frameof t ad y X (HM.out X hX).1 hD.w hD.s (HM.out X hX).2 hD.c1 hD.c2).mono fun e w' ⟨⟨r, e1, e2⟩, h3⟩ => by
    rcases e2 with ⟨e2, _⟩ | ⟨_, e2⟩
    · exact absurd ⟨hD.d.sd, h0, h1⟩ e2
    · exact ⟨by rw [e1, e2], h3⟩
  have HHO : Hid (∀ (y : Int) X, 0 ≤ y → y ≤ 50000 → Below ((w1.alloc (.cells #[.int .i64 0, .int .i64 0, .int .i64 0, .int .i64 0, .int .i64 0, .int .i64 0, .int .i64 0, .int .i64 0, .int .i64 0, .int .i64 0, .int .i64 0, .int .i64 0, .int .i64 0, .int .i64 0, .int .i64 0, .slice none 0 0, .slice none 0 0, .slice none 0 0, .slice none 0 0] 46)).setRow w1.heap.size (tbA t ad)).heap.size ((w1.alloc (.cells #[.int .i64 0, .int .i64 0, .int .i64 0, .int .i64 0, .int .i64 0, .int .i64 0, .int .i64 0, .int .i64 0, .int .i64 0, .int .i64 0, .int .i64 0, .int .i64 0, .int .i64 0, .int .i64 0, .int .i64 0, .slice none 0 0, .slice none 0 0, .slice none 0 0, .slice none 0 0] 46)).setRow w1.heap.size (tbA t ad)) X → Calls Tryz.prog 34 #[tbV t ad, .int .i64 y] X fun e w' => e = .returned (.int .i64 (holdV t (y % t.maj))) ∧ Below X.heap.size X w') := fun y X h0 h1 hX => (impl_holderat t ad y X (HM.out X hX).1 hD.w hD.s (HM.out X hX).2 hD.c1 hD.c2).mono fun e w' ⟨⟨r, e1, e2⟩, h3⟩ => by
    rcases e2 with ⟨e2, _⟩ | ⟨_, e2⟩
    · exact absurd ⟨hD.d.sd, h0, h1⟩ e2
    · exact ⟨by rw [e1, e2], h3⟩
  have HBE : Hid (∀ (y : Int) X, 0 ≤ y → y ≤ 50000 → Below ((w1.alloc (.cells #[.int .i64 0, .int .i64 0, .int .i64 0, .int .i64 0, .int .i64 0, .int .i64 0, .int .i64 0, .int .i64 0, .int .i64 0, .int .i64 0, .int .i64 0, .int .i64 0, .int .i64 0, .int .i64 0, .int .i64 0, .slice none 0 0, .slice none 0 0, .slice none 0 0, .slice none 0 0] 46)).setRow w1.heap.size (tbA t ad)).heap.size ((w1.alloc (.cells #[.int .i64 0, .int .i64 0, .int .i64 0, .int .i64 0, .int .i64 0, .int .i64 0, .int .i64 0, .int .i64 0, .int .i64 0, .int .i64 0, .int .i64 0, .int .i64 0, .int .i64 0, .int .i64 0, .int .i64 0, .slice none 0 0, .slice none 0 0, .slice none 0 0, .slice none 0 0] 46)).setRow w1.heap.size (tbA t ad)) X → Calls Tryz.prog 35 #[tbV t ad, .int .i64 y] X fun e w' => e = .returned (.int .i64 (begV t (y % t.maj))) ∧ Below X.heap.size X w') := fun y X h0 h1 hX => (impl_maybegin t ad y X (HM.out X hX).1 hD.w hD.s (HM.out X hX).2 hD.c1 hD.c2).mono fun e w' ⟨⟨r, e1, e2⟩, h3⟩ => by
    rcases e2 with ⟨e2, _⟩ | ⟨_, e2⟩
    · exact absurd ⟨hD.d.sd, h0, h1⟩ e2
    · exact ⟨by rw [e1, e2], h3⟩
  have HNX : Hid (∀ (y r : Int) X, NX t y r → 0 ≤ y → y ≤ 50000 → Below ((w1.alloc (.cells #[.int .i64 0, .int .i64 0, .int .i64 0, .int .i64 0, .int .i64 0, .int .i64 0, .int .i64 0, .int .i64 0, .int .i64 0, .int .i64 0, .int .i64 0, .int .i64 0, .int .i64 0, .int .i64 0, .int .i64 0, .slice none 0 0, .slice none 0 0, .slice none 0 0, .slice none 0 0] 46)).setRow w1.heap.size (tbA t ad)).heap.size ((w1.alloc (.cells #[.int .i64 0, .int .i64 0, .int .i64 0, .int .i64 0, .int .i64 0, .int .i64 0, .int .i64 0, .int .i64 0, .int .i64 0, .int .i64 0, .int .i64 0, .int .i64 0, .int .i64 0, .int .i64 0, .int .i64 0, .slice none 0 0, .slice none 0 0, .slice none 0 0, .slice none 0 0] 46)).setRow w1.heap.size (tbA t ad)) X → Calls Tryz.prog 36 #[tbV t ad, .int .i64 y] X fun e w' => e = .returned (.int .i64 r) ∧ Below X.heap.size X w') := fun y r X hr h0 h1 hX => (impl_nextswitch t ad y X (HM.out X hX).1 hD.w hD.s (HM.out X hX).2 hD.c1 hD.c2).mono fun e w' ⟨⟨r', e1, e2⟩, h3⟩ => by
    rcases e2 with ⟨e2, _⟩ | ⟨_, e2⟩
    · exact absurd ⟨hD.d.sd, h0, h1⟩ e2
    · exact ⟨by rw [e1, NX.unique e2 hr], h3⟩
  have HSS : Hid (∀ (x y z : Int) X (us : List Int), startsV t x y z us → Below ((w1.alloc (.cells #[.int .i64 0, .int .i64 0, .int .i64 0, .int .i64 0, .int .i64 0, .int .i64 0, .int .i64 0, .int .i64 0, .int .i64 0, .int .i64 0, .int .i64 0, .int .i64 0, .int .i64 0, .int .i64 0, .int .i64 0, .slice none 0 0, .slice none 0 0, .slice none 0 0, .slice none 0 0] 46)).setRow w1.heap.size (tbA t ad)).heap.size ((w1.alloc (.cells #[.int .i64 0, .int .i64 0, .int .i64 0, .int .i64 0, .int .i64 0, .int .i64 0, .int .i64 0, .int .i64 0, .int .i64 0, .int .i64 0, .int .i64 0, .int .i64 0, .int .i64 0, .int .i64 0, .int .i64 0, .slice none 0 0, .slice none 0 0, .slice none 0 0, .slice none 0 0] 46)).setRow w1.heap.size (tbA t ad)) X → Calls Tryz.prog 30 #[tbV t ad, .int .i64 x, .int .i64 y, .int .i64 z] X fun e w' => (∃ b cc, e = .returned (.slice b us.length cc)) ∧ Below X.heap.size X w') := fun x y z X us hus hX => (impl_starts t ad x y z us X (HM.out X hX).1 hD.w hD.s (HM.out X hX).2 hD.c1 hD.c2 hus).mono fun e w' h => by
    obtain ⟨a', cap', rfl, hb9, _⟩ := h
    exact ⟨⟨_, _, rfl⟩, hb9⟩
  have HSD : Hid (Sd t) := hD.d.sd
  have HTM : Hid (Tm t) := hT
  have HGS : Hid (∀ X, Below ((w1.alloc (.cells #[.int .i64 0, .int .i64 0, .int .i64 0, .int .i64 0, .int .i64 0, .int .i64 0, .int .i64 0, .int .i64 0, .int .i64 0, .int .i64 0, .int .i64 0, .int .i64 0, .int .i64 0, .int .i64 0, .int .i64 0, .slice none 0 0, .slice none 0 0, .slice none 0 0, .slice none 0 0] 46)).setRow w1.heap.size (tbA t ad)).heap.size ((w1.alloc (.cells #[.int .i64 0, .int .i64 0, .int .i64 0, .int .i64 0, .int .i64 0, .int .i64 0, .int .i64 0, .int .i64 0, .int .i64 0, .int .i64 0, .int .i64 0, .int .i64 0, .int .i64 0, .int .i64 0, .int .i64 0, .slice none 0 0, .slice none 0 0, .slice none 0 0, .slice none 0 0] 46)).setRow w1.heap.size (tbA t ad)) X → GSeg 3 X ad.sa ad.sn (slX t.ss)) := fun X hX => (HM.out X hX).1.s.seg
  have HLN : Hid (t.ss.length = ad.sn) := hD.w.sl
  have hm1 := hT.maj1
  have hm2 := hT.maj2
  clear hb hbV hD hT HDR HNO HTE HM
  go_wp2_with (first | (refine wpList_store_row rfl 46 (.tmp 3) (.tmp 12) rfl w1.heap.size (tbA t ad) rfl rfl 46 #[.int .i64 0, .int .i64 0, .int .i64 0, .int .i64 0, .int .i64 0, .int .i64 0, .int .i64 0, .int .i64 0, .int .i64 0, .int .i64 0, .int .i64 0, .int .i64 0, .int .i64 0, .int .i64 0, .int .i64 0, .slice none 0 0, .slice none 0 0, .slice none 0 0, .slice none 0 0] HNR.out (by kernel_rfl) rfl (by simp [Value.oneCell']) ?_) | fail)
  clear HNR
  revert HX HB1 HPH HSL HFR HHO HBE HNX HSS HGS
  generalize ((w1.alloc (.cells #[.int .i64 0, .int .i64 0, .int .i64 0, .int .i64 0, .int .i64 0, .int .i64 0, .int .i64 0, .int .i64 0, .int .i64 0, .int .i64 0, .int .i64 0, .int .i64 0, .int .i64 0, .int .i64 0, .int .i64 0, .slice none 0 0, .slice none 0 0, .slice none 0 0, .slice none 0 0] 46)).setRow w1.heap.size (tbA t ad)) = V
  generalize w1.heap.size = N
  intro HX HB1 HPH HSL HFR HHO HBE HNX HSS HGS
  refine Calls.mono (HAT.out 1 _ (by omega) HB1.out) ?_
  rintro e V' ⟨xa, rfl, hxa0, hxa1, rfl⟩
  have hwa : IntKind.i64.wrap (xa * 40) = xa * 40 := by rw [IntKind.wrap_i64]; omega
  go_wp2_with fail
  refine Calls.mono (HAT.out 2 _ (by omega) HB1.out) ?_
  rintro e V ⟨ya, rfl, hya0, hya1, rfl⟩
  obtain ⟨c, hcE⟩ : ∃ c, c = xa * 40 + ya := ⟨_, rfl⟩
  have hc0 : 0 ≤ c := by omega
  have hc1 : c ≤ 10455 := by omega
  have hwc : IntKind.i64.wrap (xa * 40 + ya) = c := by rw [← hcE, IntKind.wrap_i64]; omega
  obtain ⟨hfm, hfd⟩ := frame_later (c := c) hm1
  obtain ⟨i, n, hTN⟩ := tn_ex HTM.out c
  obtain ⟨f1, f2, f3, f4, f5, f6⟩ := tn_facts HTM.out hTN
  have hi : i < t.ss.length := hTN.1
  have hiS : i < ad.sn := by rw [← HLN.out]; exact hi
  obtain ⟨bS, oS, hsa, _, _⟩ := (HGS.out V (Below.refl _ _)).at i hiS
  have HSA : Hid ((tbA t ad)[18]? = some (.slice (some ⟨bS, oS, none⟩) ad.sn ad.sc)) := by show _ = _; rw [← hsa]; rfl
  obtain ⟨pt, HPE⟩ : ∃ pt, Hid ((t.ss.getD i sl0).1 = pt) := ⟨_, rfl⟩
  have HCL : Hid (∀ X, Below V.heap.size V X → ∀ k, k < ad.sn → X.cell? ⟨bS, oS + k * 3, none⟩ = some (.int .i64 (t.ss.getD k sl0).1) ∧ X.cell? ⟨bS, oS + k * 3 + 1, none⟩ = some (.int .i64 (t.ss.getD k sl0).2.1)) := fun X hX k hk => by
    obtain ⟨b, off, e, _, p⟩ := (HGS.out X hX).at k hk
    rw [hsa] at e
    injection e with e
    injection e with e1 e2
    subst e1 e2
    exact ⟨(sl_cells p).1, (sl_cells p).2.1⟩
  have HPP : Hid (∀ X, Below V.heap.size V X → X.cell? ⟨bS, oS + i * 3, none⟩ = some (.int .i64 pt)) := fun X hX => by rw [← HPE.out]; exact (HCL.out X hX i hiS).1
  have HPS : Hid (∀ X, Below V.heap.size V X → X.cell? ⟨bS, oS + i * 3 + 1, none⟩ = some (.int .i64 (n % t.maj))) := fun X hX => by rw [← hTN.2.1]; exact (HCL.out X hX i hiS).2
  have HN1 : Hid (∀ X, Below V.heap.size V X → Calls Tryz.prog 36 #[tbV t ad, .int .i64 c] X fun e w' => e = .returned (.int .i64 n) ∧ Below X.heap.size X w') := fun X hX => HNX.out c n X hTN.2.2.1 hc0 (by omega) hX
  have HN4 : Hid (∀ X, Below V.heap.size V X → Calls Tryz.prog 36 #[tbV t ad, .int .i64 n] X fun e w' => e = .returned (.int .i64 n) ∧ Below X.heap.size X w') := fun X hX => HNX.out n n X f3 (by omega) (by omega) hX
  have HS3 : Hid (∀ X, Below V.heap.size V X → Calls Tryz.prog 32 #[tbV t ad, .int .i64 n] X fun e w' => e = .returned (.int .i64 (i : Int)) ∧ Below X.heap.size X w') := fun X hX => by have h := HSL.out n X (by omega) (by omega) hX; rw [f1] at h; exact h
  have HP4 : Hid (∀ X, Below V.heap.size V X → Calls Tryz.prog 31 #[tbV t ad, .int .i64 n] X fun e w' => e = .returned (.int .i64 1) ∧ Below X.heap.size X w') := fun X hX => by have h := HPH.out n X (by omega) (by omega) hX; rw [f2] at h; exact h
  have HS4 : Hid (∀ X, Below V.heap.size V X → Calls Tryz.prog 30 #[tbV t ad, .int .i64 pt, .int .i64 c, .int .i64 (n + 1)] X fun e w' => (∃ b cc, e = .returned (.slice b 1 cc)) ∧ Below X.heap.size X w') := fun X hX => by
    have hpt := HTM.out.pt i hi
    rw [HPE.out] at hpt f6
    exact HSS.out pt c (n + 1) X [n] (.inr ⟨⟨⟨HSD.out, by unfold IsC; omega⟩, by unfold IsC; omega, hpt.1, hpt.2⟩, f6.symm⟩) hX
  obtain ⟨ph, HPX⟩ : ∃ ph, Hid (phaseV t (c % t.maj) = ph) := ⟨_, rfl⟩
  obtain ⟨sl, HSX⟩ : ∃ sl, Hid (slotV t (c % t.maj) = sl) := ⟨_, rfl⟩
  obtain ⟨ho, HHX⟩ : ∃ ho, Hid (holdV t (c % t.maj) = ho) := ⟨_, rfl⟩
  obtain ⟨be, HBX⟩ : ∃ be, Hid (begV t (c % t.maj) = be) := ⟨_, rfl⟩
  obtain ⟨fr, HFX⟩ : ∃ fr, Hid (c / t.maj = fr) := ⟨_, rfl⟩
  have HPG1 : Hid (∀ x : Gr V, Calls Tryz.prog 31 #[tbV t ad, .int .i64 c] x.w fun e w' => e = .returned (.int .i64 ph) ∧ Below x.w.heap.size x.w w') := fun x => by rw [← HPX.out]; exact HPH.out c x.w hc0 (by omega) x.h
  have HPG2 : Hid (∀ x : Gr V, Calls Tryz.prog 31 #[tbV t ad, .int .i64 (c + t.maj)] x.w fun e w' => e = .returned (.int .i64 ph) ∧ Below x.w.heap.size x.w w') := fun x => by rw [← HPX.out, ← hfm]; exact HPH.out (c + t.maj) x.w (by omega) (by omega) x.h
  have HSG1 : Hid (∀ x : Gr V, Calls Tryz.prog 32 #[tbV t ad, .int .i64 c] x.w fun e w' => e = .returned (.int .i64 sl) ∧ Below x.w.heap.size x.w w') := fun x => by rw [← HSX.out]; exact HSL.out c x.w hc0 (by omega) x.h
  have HSG2 : Hid (∀ x : Gr V, Calls Tryz.prog 32 #[tbV t ad, .int .i64 (c + t.maj)] x.w fun e w' => e = .returned (.int .i64 sl) ∧ Below x.w.heap.size x.w w') := fun x => by rw [← HSX.out, ← hfm]; exact HSL.out (c + t.maj) x.w (by omega) (by omega) x.h
  have HFG1 : Hid (∀ x : Gr V, Calls Tryz.prog 33 #[tbV t ad, .int .i64 c] x.w fun e w' => e = .returned (.int .i64 fr) ∧ Below x.w.heap.size x.w w') := fun x => by rw [← HFX.out]; exact HFR.out c x.w hc0 (by omega) x.h
  have HFG2 : Hid (∀ x : Gr V, Calls Tryz.prog 33 #[tbV t ad, .int .i64 (c + t.maj)] x.w fun e w' => e = .returned (.int .i64 (fr + 1)) ∧ Below x.w.heap.size x.w w') := fun x => by rw [← HFX.out, ← hfd]; exact HFR.out (c + t.maj) x.w (by omega) (by omega) x.h
  have HH1 : Hid (∀ X, Below V.heap.size V X → Calls Tryz.prog 34 #[tbV t ad, .int .i64 c] X fun e w' => e = .returned (.int .i64 ho) ∧ Below X.heap.size X w') := fun X hX => by rw [← HHX.out]; exact HHO.out c X hc0 (by omega) hX
  have HB2 : Hid (∀ X, Below V.heap.size V X → Calls Tryz.prog 35 #[tbV t ad, .int .i64 c] X fun e w' => e = .returned (.int .i64 be) ∧ Below X.heap.size X w') := fun X hX => by rw [← HBX.out]; exact HBE.out c X hc0 (by omega) hX
  have hfr0 : 0 ≤ fr ∧ fr ≤ 50000 := by
    rw [← HFX.out]
    exact ⟨Int.ediv_nonneg hc0 (by omega), Int.le_trans (Int.ediv_le_self _ hc0) (by omega)⟩
  have HCC : Hid ((sl = -1 ∧ ph = 0 ∧ ho = -1 ∧ be = -1) ∨ ∃ j : Nat, j < ad.sn ∧ sl = (j : Int) ∧ 0 ≤ (t.ss.getD j sl0).1 ∧ ((ph = 1 ∧ ho = -1 ∧ be = -1) ∨ (ph = 2 ∧ ho = (t.ss.getD j sl0).1 ∧ be = (t.ss.getD j sl0).1) ∨ (ph = 3 ∧ ho = (t.ss.getD j sl0).1 ∧ be = -1))) := by
    have h := cyc_cases HTM.out (c % t.maj)
    rw [HPX.out, HSX.out, HHX.out, HBX.out, HLN.out] at h
    exact h
  have c14 : V.cell? ⟨N, 14, none⟩ = some (.int .i64 t.maj) := TBx.cell (HX.out _ (Below.refl _ _)) 14 rfl
  have hwm : IntKind.i64.wrap (c + t.maj) = c + t.maj := by rw [IntKind.wrap_i64]; omega
  have hwf : IntKind.i64.wrap (fr + 1) = fr + 1 := by rw [IntKind.wrap_i64]; omega
  have hnp : (ph != ph) = false := by simp
  have hns : (sl != sl) = false := by simp
  have hnf : ((fr + 1) != (fr + 1)) = false := by simp
  have hn0 : 0 ≤ n := by omega
  have hn1 : n ≤ 20000 := by omega
  have hcn : c ≤ n := f4
  have hnc : n ≤ c + t.maj := f5
  clear HPH HSL HFR HHO HBE HNX HSS HGS HTM HSD HPX HSX HHX HBX HFX HPE hTN f1 f2 f3 f4 f5 f6 hfm hfd hsa HAT hcE
  go_wp2
  clear hwa hwc
  have HBV : Hid (Below V.heap.size V V) := Below.refl _ _
  have G14 := fun X => gr_cell c14 X
  have hgr := gr_some V
  have HXG : Hid (∀ X, (∃ x : Gr V, X = x.w) → X.heap[N]? = some (.cells (tbA t ad) 46 (0, 0))) := fun X ⟨x, e⟩ => by rw [e]; exact HX.out x.w (HBV.out.trans (x.h.mono (Below.size HBV.out)))
  refine region_alike (by kernel_rfl) (by kernel_rfl) ?_
  repeat (first | (refine wpQuiet_load_row rfl 46 (.tmp 3) rfl N rfl 46 (tbA t ad) (0, 0) _ HXG.out Tryz.underlying46 rfl (by kernel_rfl) ?_; simp only [Act.put, List.setIfInBounds_toArray, List.set_cons_zero, List.set_cons_succ]) | go_big_quiet_step (first | (go_at_call_of 31 (Value.int IntKind.i64 c); exact gr_call (HPG1.out _)) | (go_at_call_of 31 (Value.int IntKind.i64 (c + t.maj)); exact gr_call (HPG2.out _)) | (go_at_call_of 32 (Value.int IntKind.i64 c); exact gr_call (HSG1.out _)) | (go_at_call_of 32 (Value.int IntKind.i64 (c + t.maj)); exact gr_call (HSG2.out _)) | (go_at_call_of 33 (Value.int IntKind.i64 c); exact gr_call (HFG1.out _)) | (go_at_call_of 33 (Value.int IntKind.i64 (c + t.maj)); exact gr_call (HFG2.out _))))
  refine wpQuiet_nil ?_
  intro _ hw'
  obtain ⟨X1, rfl⟩ := hw'
  have HBV2 : Hid (Below V.heap.size V X1.w) := X1.h
  generalize X1.w = w2 at HBV2 ⊢
  clear G14 c14 HXG hgr HBV hwm hwf hnf HFG1 HFG2
  go_wp2
  have HBV : Hid (Below V.heap.size V w2) := HBV2.out
  have HPG3 : Hid (∀ x : Gr w2, Calls Tryz.prog 31 #[tbV t ad, .int .i64 c] x.w fun e w' => e = .returned (.int .i64 ph) ∧ Below x.w.heap.size x.w w') := fun x => HPG1.out ⟨x.w, HBV2.out.trans (x.h.mono (Below.size HBV2.out))⟩
  have HSG3 : Hid (∀ x : Gr w2, Calls Tryz.prog 32 #[tbV t ad, .int .i64 c] x.w fun e w' => e = .returned (.int .i64 sl) ∧ Below x.w.heap.size x.w w') := fun x => HSG1.out ⟨x.w, HBV2.out.trans (x.h.mono (Below.size HBV2.out))⟩
  have hgr := gr_some w2
  have HXG : Hid (∀ X, (∃ x : Gr w2, X = x.w) → X.heap[N]? = some (.cells (tbA t ad) 46 (0, 0))) := fun X ⟨x, e⟩ => by rw [e]; exact HX.out x.w (HBV.out.trans (x.h.mono (Below.size HBV.out)))
  refine region_alike (by kernel_rfl) (by kernel_rfl) ?_
  repeat (first | (refine wpQuiet_load_row rfl 46 (.tmp 3) rfl N rfl 46 (tbA t ad) (0, 0) _ HXG.out Tryz.underlying46 rfl (by kernel_rfl) ?_; simp only [Act.put, List.setIfInBounds_toArray, List.set_cons_zero, List.set_cons_succ]) | go_big_quiet_step (first | (go_at_call 31; exact gr_call (HPG3.out _)) | (go_at_call 32; exact gr_call (HSG3.out _))))
  refine wpQuiet_nil ?_
  intro _ hw'
  obtain ⟨X1, rfl⟩ := hw'
  have HB3 : Hid (Below V.heap.size V X1.w) := HBV2.out.trans (X1.h.mono (Below.size HBV2.out))
  generalize X1.w = w5 at HB3 ⊢
  clear HBV HBV2 HPG1 HPG2 HPG3 HSG1 HSG2 HSG3 HXG hgr hnp hns
  rcases HCC.out with ⟨rfl, rfl, rfl, rfl⟩ | ⟨k, hk, rfl, hp0, hcase⟩
  · clear HCC
    go_wp2_with (first | (refine wpList_load_row rfl 46 (.tmp 3) rfl N rfl 46 (tbA t ad) (0, 0) _ (HX.out _ HB3.out) Tryz.underlying46 rfl (by kernel_rfl) ?_) | fail)
    refine Calls.mono (HH1.out _ HB3.out) ?_
    rintro e w6 ⟨rfl, hb6⟩
    have HB6 : Hid (Below V.heap.size V w6) := HB3.out.trans (hb6.mono (Below.size HB3.out))
    clear hb6 HB3
    go_wp2_with (first | (refine wpList_load_rowG rfl 46 (.tmp 3) rfl N rfl 46 (tbA t ad) (0, 0) _ (HX.out _ HB6.out) Tryz.underlying46 rfl (by kernel_rfl) ?_) | fail)
    refine Calls.mono (HB2.out _ HB6.out) ?_
    rintro e w7 ⟨rfl, hb7⟩
    have HBV : Hid (Below V.heap.size V w7) := HB6.out.trans (hb7.mono (Below.size HB6.out))
    clear hb7 HB6
    go_wp2
    have hgr := gr_some w7
    have HXG : Hid (∀ X, (∃ x : Gr w7, X = x.w) → X.heap[N]? = some (.cells (tbA t ad) 46 (0, 0))) := fun X ⟨x, e⟩ => by rw [e]; exact HX.out x.w (HBV.out.trans (x.h.mono (Below.size HBV.out)))
    have HHG : Hid (∀ x : Gr w7, Calls Tryz.prog 34 #[tbV t ad, .int .i64 c] x.w fun e w' => e = .returned (.int .i64 (-1)) ∧ Below x.w.heap.size x.w w') := fun x => HH1.out x.w (HBV.out.trans (x.h.mono (Below.size HBV.out)))
    refine region_alike (by kernel_rfl) (by kernel_rfl) ?_
    repeat (go_big_quiet_step (fail))
    refine wpQuiet_nil ?_
    intro _ hw'
    obtain ⟨X1, rfl⟩ := hw'
    have HB8 : Hid (Below V.heap.size V X1.w) := HBV.out.trans (X1.h.mono (Below.size HBV.out))
    generalize X1.w = w8 at HB8 ⊢
    clear HXG hgr HBV HHG HH1 HB2
    go_wp2_with (first | (refine wpList_load_row rfl 46 (.tmp 3) rfl N rfl 46 (tbA t ad) (0, 0) _ (HX.out _ HB8.out) Tryz.underlying46 rfl (by kernel_rfl) ?_) | fail)
    refine Calls.mono (HN1.out _ HB8.out) ?_
    rintro e w3 ⟨rfl, hb3⟩
    have HB3 : Hid (Below V.heap.size V w3) := HB8.out.trans (hb3.mono (Below.size HB8.out))
    clear hb3
    go_wp2_with (first | (refine wpList_load_row rfl 46 (.tmp 3) rfl N rfl 46 (tbA t ad) (0, 0) _ (HX.out _ HB3.out) Tryz.underlying46 rfl (by kernel_rfl) ?_) | fail)
    refine Calls.mono (HS3.out _ HB3.out) ?_
    rintro e w4 ⟨rfl, hb4⟩
    have HBV : Hid (Below V.heap.size V w4) := HB3.out.trans (hb4.mono (Below.size HB3.out))
    clear hb4 HB3
    have k14 : w4.cell? ⟨N, 14, none⟩ = some (.int .i64 t.maj) := TBx.cell (HX.out _ HBV.out) 14 rfl
    have k18 : w4.cell? ⟨N, 18, none⟩ = some (.slice (some ⟨bS, oS, none⟩) ad.sn ad.sc) := TBx.cell (HX.out _ HBV.out) 18 HSA.out
    have ks1 : w4.cell? ⟨bS, oS + i * 3 + 1, none⟩ = some (.int .i64 (n % t.maj)) := HPS.out _ HBV.out
    have hin : (i : Int) < (ad.sn : Int) := by omega
    have hnl : ¬ n < c := by omega
    have hnl' : decide (n < c) = false := decide_eq_false hnl
    have hng : ¬ c + t.maj < n := by omega
    have hng' : decide (c + t.maj < n) = false := decide_eq_false hng
    have hi0 : ¬ (i : Int) < 0 := by omega
    have hi0' : decide ((i : Int) < 0) = false := decide_eq_false hi0
    have hwm : IntKind.i64.wrap (c + t.maj) = c + t.maj := by rw [IntKind.wrap_i64]; omega
    have hmz : (t.maj == 0) = false := beq_eq_false_iff_ne.2 (by omega)
    have hmz2 : ¬ t.maj = 0 := by omega
    have htm : Int.tmod n t.maj = n % t.maj := Int.tmod_eq_emod_of_nonneg (by omega)
    have hne : ((n % t.maj) != (n % t.maj)) = false := by simp
    have hn11 : ((1 : Int) != 1) = false := by simp
    go_wp2
    have hgr := gr_some w4
    have HXG : Hid (∀ X, (∃ x : Gr w4, X = x.w) → X.heap[N]? = some (.cells (tbA t ad) 46 (0, 0))) := fun X ⟨x, e⟩ => by rw [e]; exact HX.out x.w (HBV.out.trans (x.h.mono (Below.size HBV.out)))
    have G14 := fun X => gr_cell k14 X
    have G18 := fun X => gr_cell k18 X
    have GS1 := fun X => gr_cell ks1 X
    have HPG : Hid (∀ x : Gr w4, Calls Tryz.prog 31 #[tbV t ad, .int .i64 n] x.w fun e w' => e = .returned (.int .i64 1) ∧ Below x.w.heap.size x.w w') := fun x => HP4.out x.w (HBV.out.trans (x.h.mono (Below.size HBV.out)))
    refine region_alike (by kernel_rfl) (by kernel_rfl) ?_
    repeat (first | (refine wpQuiet_load_row rfl 46 (.tmp 3) rfl N rfl 46 (tbA t ad) (0, 0) _ HXG.out Tryz.underlying46 rfl (by kernel_rfl) ?_; simp only [Act.put, List.setIfInBounds_toArray, List.set_cons_zero, List.set_cons_succ]) | go_big_quiet_step (first | (go_at_call 31; exact gr_call (HPG.out _))))
    refine wpQuiet_nil ?_
    intro _ hw'
    obtain ⟨X1, rfl⟩ := hw'
    have HBR0 : Hid (Below V.heap.size V X1.w) := HBV.out.trans (X1.h.mono (Below.size HBV.out))
    generalize X1.w = VR at HBR0 ⊢
    clear k14 k18 ks1 G14 G18 GS1 HPG HXG hgr HBV hwm hmz hmz2 htm hne hn11 hnl hng hi0 hnl' hng' hi0'
    go_wp2
    have HXR : Hid (∀ X, Below VR.heap.size VR X → X.heap[N]? = some (.cells (tbA t ad) 46 (0, 0))) := fun X hX => HX.out X (HBR0.out.trans (hX.mono (Below.size HBR0.out)))
    have HPT : Hid (∀ X, Below VR.heap.size VR X → X.cell? ⟨bS, oS + i * 3, none⟩ = some (.int .i64 pt)) := fun X hX => HPP.out X (HBR0.out.trans (hX.mono (Below.size HBR0.out)))
    have HN2 : Hid (∀ X, Below VR.heap.size VR X → Calls Tryz.prog 36 #[tbV t ad, .int .i64 n] X fun e w' => e = .returned (.int .i64 n) ∧ Below X.heap.size X w') := fun X hX => HN4.out X (HBR0.out.trans (hX.mono (Below.size HBR0.out)))
    have HST : Hid (∀ X, Below VR.heap.size VR X → Calls Tryz.prog 30 #[tbV t ad, .int .i64 pt, .int .i64 c, .int .i64 (n + 1)] X fun e w' => (∃ b cc, e = .returned (.slice b 1 cc)) ∧ Below X.heap.size X w') := fun X hX => HS4.out X (HBR0.out.trans (hX.mono (Below.size HBR0.out)))
    have HBR : Hid (Below w.heap.size w VR) := HB1.out.trans (HBR0.out.mono (Below.size HB1.out))
    have hnn : (n == n) = true := by simp
    have hw1 : IntKind.i64.wrap (n + 1) = n + 1 := by rw [IntKind.wrap_i64]; omega
    have h11 : ((1 : Int) == 1) = true := by simp
    clear HX HBR0 HN1 HS3 HP4 HN4 HS4 HPP HPS
    refine wp_region_inv (by kernel_rfl) (by kernel_rfl) (fun AC ℓ a' w' => ∃ (x153 x154 x155 x156 x157 x158 x159 x160 x161 x162 x163 x164 x165 x166 x167 x168 x169 x170 x171 x172 x2 : Value), a' = (((((((((((((((((((((AC.put (some 153) x153).put (some 154) x154).put (some 155) x155).put (some 156) x156).put (some 157) x157).put (some 158) x158).put (some 159) x159).put (some 160) x160).put (some 161) x161).put (some 162) x162).put (some 163) x163).put (some 164) x164).put (some 165) x165).put (some 166) x166).put (some 167) x167).put (some 168) x168).put (some 169) x169).put (some 170) x170).put (some 171) x171).put (some 172) x172).put (some 2) x2) ∧ R18 VR w' t ad N bS oS i n c pt (ℓ 0) (ℓ 1) (ℓ 2) (ℓ 3) (ℓ 4) (ℓ 5) (ℓ 6) (ℓ 7) (ℓ 8) (ℓ 9) (ℓ 10) (ℓ 11) (ℓ 12) (ℓ 13) (ℓ 14) (ℓ 15) (ℓ 16) (ℓ 17) (ℓ 18) (ℓ 19) (ℓ 20) x153 x154 x155 x156 x157 x158 x159 x160 x161 x162 x163 x164 x165 x166 x167 x168 x169 x170 x171 x172 x2) ?_ ?_ ?_ ?_
    · exact ⟨undef, undef, undef, undef, undef, undef, undef, undef, undef, undef, undef, undef, undef, undef, undef, undef, undef, undef, undef, undef, .bool false, (by simp only [Act.put, List.setIfInBounds_toArray, List.set_cons_zero, List.set_cons_succ]), ⟨(Below.refl _ _).drew, (fun g => by cases g), (fun g => by cases g), (fun g => by cases g), (fun g => by cases g), (fun g => by cases g), (fun g => by cases g), (fun g => by cases g), (fun g => by cases g), (fun g => by cases g), (fun g => by cases g), (fun g => by cases g), (fun g => by cases g), (fun g => by cases g), (fun g => by cases g), (fun g => by cases g), (fun g => by cases g), (fun g => by cases g), (fun g => by cases g), (fun g => by cases g), (fun g => by cases g), (fun g => by cases g)⟩⟩
    · intro ℓ a' w9 hI hall
      obtain ⟨x153, x154, x155, x156, x157, x158, x159, x160, x161, x162, x163, x164, x165, x166, x167, x168, x169, x170, x171, x172, x2, rfl, hr⟩ := hI
      have hall' : ∀ i, i < 21 → ℓ i = true := hall
      obtain rfl := hr.f20 (hall' 20 (by omega))
      have HE : Hid (Below w.heap.size w w9) := HBR.out.trans (hr.gb.mono HBR.out.size)
      clear hr hall hall'
      simp only [Act.put, List.setIfInBounds_toArray, List.set_cons_zero, List.set_cons_succ]
      go_wp2
      go_ret
      exact ⟨rfl, HE.out⟩
    · intro ℓ a' w' ii o hI ho hi hL hdep K hK
      obtain ⟨x153, x154, x155, x156, x157, x158, x159, x160, x161, x162, x163, x164, x165, x166, x167, x168, x169, x170, x171, x172, x2, rfl, hr⟩ := hI
      have hi7 : ii < 21 := hi
      have hcs : ii = 0 ∨ ii = 1 ∨ ii = 2 ∨ ii = 3 ∨ ii = 4 ∨ ii = 5 ∨ ii = 6 ∨ ii = 7 ∨ ii = 8 ∨ ii = 9 ∨ ii = 10 ∨ ii = 11 ∨ ii = 12 ∨ ii = 13 ∨ ii = 14 ∨ ii = 15 ∨ ii = 16 ∨ ii = 17 ∨ ii = 18 ∨ ii = 19 ∨ ii = 20 := by omega
      clear hi hi7
      rcases hcs with rfl | rfl | rfl | rfl | rfl | rfl | rfl | rfl | rfl | rfl | rfl | rfl | rfl | rfl | rfl | rfl | rfl | rfl | rfl | rfl | rfl
      · replace ho : some ({ dst := some 153, op := .load 46 (.tmp 3), type := 46, pos := "laws.go:1185", after := #[], guard := none } : Oper) = some o := ho
        obtain rfl := Option.some.inj ho
        clear hdep ho
        rw [if_pos (by rfl)]
        try simp only [Act.put, List.setIfInBounds_toArray, List.set_cons_zero, List.set_cons_succ]
        refine wp_load_row (P := Tryz.prog) 46 (.tmp 3) rfl N rfl 46 (tbA t ad) (0, 0) _ (HXR.out _ hr.gb) Tryz.underlying46 rfl (by kernel_rfl) ?_
        exact hK.out _ _ (fun j => if j = 0 then true else ℓ j) ⟨tbV t ad, x154, x155, x156, x157, x158, x159, x160, x161, x162, x163, x164, x165, x166, x167, x168, x169, x170, x171, x172, x2, (by simp only [Act.put, List.setIfInBounds_toArray, List.set_cons_zero, List.set_cons_succ]), ⟨hr.gb, (fun _ => rfl), hr.f1, hr.f2, hr.f3, hr.f4, hr.f5, hr.f6, hr.f7, hr.f8, hr.f9, hr.f10, hr.f11, hr.f12, hr.f13, hr.f14, hr.f15, hr.f16, hr.f17, hr.f18, hr.f19, hr.f20⟩⟩ (if_pos rfl) (fun j hj => if_neg hj)
      · obtain rfl := Option.some.inj ho
        clear hdep ho
        rw [if_pos (by rfl)]
        try simp only [Act.put, List.setIfInBounds_toArray, List.set_cons_zero, List.set_cons_succ]
        go_simp
        exact hK.out _ _ (fun j => if j = 1 then true else ℓ j) ⟨x153, .int .i64 n, x155, x156, x157, x158, x159, x160, x161, x162, x163, x164, x165, x166, x167, x168, x169, x170, x171, x172, x2, (by simp only [Act.put, List.setIfInBounds_toArray, List.set_cons_zero, List.set_cons_succ]), ⟨hr.gb, hr.f0, (fun _ => rfl), hr.f2, hr.f3, hr.f4, hr.f5, hr.f6, hr.f7, hr.f8, hr.f9, hr.f10, hr.f11, hr.f12, hr.f13, hr.f14, hr.f15, hr.f16, hr.f17, hr.f18, hr.f19, hr.f20⟩⟩ (if_pos rfl) (fun j hj => if_neg hj)
      · obtain rfl := Option.some.inj ho
        have g0 : ℓ 0 = true := hdep { on := 0, ground := Ground.data } (by simp) rfl
        have g1 : ℓ 1 = true := hdep { on := 1, ground := Ground.data } (by simp) rfl
        clear hdep ho
        have hx153 := hr.f0 g0
        have hx154 := hr.f1 g1
        subst hx153 hx154
        rw [if_pos (by rfl)]
        try simp only [Act.put, List.setIfInBounds_toArray, List.set_cons_zero, List.set_cons_succ]
        go_simp
        refine Calls.mono (HN2.out _ hr.gb) ?_
        rintro e w9 ⟨rfl, hb9⟩
        exact hK.out _ _ (fun j => if j = 2 then true else ℓ j) ⟨tbV t ad, .int .i64 n, .int .i64 n, x156, x157, x158, x159, x160, x161, x162, x163, x164, x165, x166, x167, x168, x169, x170, x171, x172, x2, (by simp only [Act.put, List.setIfInBounds_toArray, List.set_cons_zero, List.set_cons_succ]), ⟨(hr.gb.trans (hb9.mono hr.gb.size)), hr.f0, hr.f1, (fun _ => rfl), hr.f3, hr.f4, hr.f5, hr.f6, hr.f7, hr.f8, hr.f9, hr.f10, hr.f11, hr.f12, hr.f13, hr.f14, hr.f15, hr.f16, hr.f17, hr.f18, hr.f19, hr.f20⟩⟩ (if_pos rfl) (fun j hj => if_neg hj)
      · obtain rfl := Option.some.inj ho
        clear hdep ho
        rw [if_pos (by rfl)]
        try simp only [Act.put, List.setIfInBounds_toArray, List.set_cons_zero, List.set_cons_succ]
        go_simp
        exact hK.out _ _ (fun j => if j = 3 then true else ℓ j) ⟨x153, x154, x155, .int .i64 n, x157, x158, x159, x160, x161, x162, x163, x164, x165, x166, x167, x168, x169, x170, x171, x172, x2, (by simp only [Act.put, List.setIfInBounds_toArray, List.set_cons_zero, List.set_cons_succ]), ⟨hr.gb, hr.f0, hr.f1, hr.f2, (fun _ => rfl), hr.f4, hr.f5, hr.f6, hr.f7, hr.f8, hr.f9, hr.f10, hr.f11, hr.f12, hr.f13, hr.f14, hr.f15, hr.f16, hr.f17, hr.f18, hr.f19, hr.f20⟩⟩ (if_pos rfl) (fun j hj => if_neg hj)
      · obtain rfl := Option.some.inj ho
        have g2 : ℓ 2 = true := hdep { on := 2, ground := Ground.data } (by simp) rfl
        have g3 : ℓ 3 = true := hdep { on := 3, ground := Ground.data } (by simp) rfl
        clear hdep ho
        have hx155 := hr.f2 g2
        have hx156 := hr.f3 g3
        subst hx155 hx156
        rw [if_pos (by rfl)]
        try simp only [Act.put, List.setIfInBounds_toArray, List.set_cons_zero, List.set_cons_succ]
        go_simp
        exact hK.out _ _ (fun j => if j = 4 then true else ℓ j) ⟨x153, x154, .int .i64 n, .int .i64 n, .bool true, x158, x159, x160, x161, x162, x163, x164, x165, x166, x167, x168, x169, x170, x171, x172, x2, (by simp only [Act.put, List.setIfInBounds_toArray, List.set_cons_zero, List.set_cons_succ]), ⟨hr.gb, hr.f0, hr.f1, hr.f2, hr.f3, (fun _ => rfl), hr.f5, hr.f6, hr.f7, hr.f8, hr.f9, hr.f10, hr.f11, hr.f12, hr.f13, hr.f14, hr.f15, hr.f16, hr.f17, hr.f18, hr.f19, hr.f20⟩⟩ (if_pos rfl) (fun j hj => if_neg hj)
      · obtain rfl := Option.some.inj ho
        have g4 : ℓ 4 = true := hdep { on := 4, ground := Ground.data } (by simp) rfl
        clear hdep ho
        have hx157 := hr.f4 g4
        subst hx157
        rw [if_pos (by rfl)]
        try simp only [Act.put, List.setIfInBounds_toArray, List.set_cons_zero, List.set_cons_succ]
        go_simp
        exact hK.out _ _ (fun j => if j = 5 then true else ℓ j) ⟨x153, x154, x155, x156, .bool true, .bool true, x159, x160, x161, x162, x163, x164, x165, x166, x167, x168, x169, x170, x171, x172, x2, (by simp only [Act.put, List.setIfInBounds_toArray, List.set_cons_zero, List.set_cons_succ]), ⟨hr.gb, hr.f0, hr.f1, hr.f2, hr.f3, hr.f4, (fun _ => rfl), hr.f6, hr.f7, hr.f8, hr.f9, hr.f10, hr.f11, hr.f12, hr.f13, hr.f14, hr.f15, hr.f16, hr.f17, hr.f18, hr.f19, hr.f20⟩⟩ (if_pos rfl) (fun j hj => if_neg hj)
      · replace ho : some ({ dst := some 159, op := .load 46 (.tmp 3), type := 46, pos := "laws.go:1185", after := #[{ on := 5, ground := Ground.guard }], guard := some (5, true) } : Oper) = some o := ho
        obtain rfl := Option.some.inj ho
        have g5 : ℓ 5 = true := hdep { on := 5, ground := Ground.guard } (by simp) rfl
        clear hdep ho
        have hx158 := hr.f5 g5
        subst hx158
        try simp only [Act.put, List.setIfInBounds_toArray, List.set_cons_zero, List.set_cons_succ]
        rw [if_pos (by rfl)]
        try simp only [Act.put, List.setIfInBounds_toArray, List.set_cons_zero, List.set_cons_succ]
        refine wp_load_row (P := Tryz.prog) 46 (.tmp 3) rfl N rfl 46 (tbA t ad) (0, 0) _ (HXR.out _ hr.gb) Tryz.underlying46 rfl (by kernel_rfl) ?_
        exact hK.out _ _ (fun j => if j = 6 then true else ℓ j) ⟨x153, x154, x155, x156, x157, .bool true, tbV t ad, x160, x161, x162, x163, x164, x165, x166, x167, x168, x169, x170, x171, x172, x2, (by simp only [Act.put, List.setIfInBounds_toArray, List.set_cons_zero, List.set_cons_succ]), ⟨hr.gb, hr.f0, hr.f1, hr.f2, hr.f3, hr.f4, hr.f5, (fun _ => rfl), hr.f7, hr.f8, hr.f9, hr.f10, hr.f11, hr.f12, hr.f13, hr.f14, hr.f15, hr.f16, hr.f17, hr.f18, hr.f19, hr.f20⟩⟩ (if_pos rfl) (fun j hj => if_neg hj)
      · obtain rfl := Option.some.inj ho
        have g5 : ℓ 5 = true := hdep { on := 5, ground := Ground.guard } (by simp) rfl
        clear hdep ho
        have hx158 := hr.f5 g5
        subst hx158
        try simp only [Act.put, List.setIfInBounds_toArray, List.set_cons_zero, List.set_cons_succ]
        rw [if_pos (by rfl)]
        try simp only [Act.put, List.setIfInBounds_toArray, List.set_cons_zero, List.set_cons_succ]
        go_simp
        exact hK.out _ _ (fun j => if j = 7 then true else ℓ j) ⟨x153, x154, x155, x156, x157, .bool true, x159, .pointer (some ⟨N, 18, none⟩), x161, x162, x163, x164, x165, x166, x167, x168, x169, x170, x171, x172, x2, (by simp only [Act.put, List.setIfInBounds_toArray, List.set_cons_zero, List.set_cons_succ]), ⟨hr.gb, hr.f0, hr.f1, hr.f2, hr.f3, hr.f4, hr.f5, hr.f6, (fun _ => rfl), hr.f8, hr.f9, hr.f10, hr.f11, hr.f12, hr.f13, hr.f14, hr.f15, hr.f16, hr.f17, hr.f18, hr.f19, hr.f20⟩⟩ (if_pos rfl) (fun j hj => if_neg hj)
      · obtain rfl := Option.some.inj ho
        have g7 : ℓ 7 = true := hdep { on := 7, ground := Ground.data } (by simp) rfl
        have g5 : ℓ 5 = true := hdep { on := 5, ground := Ground.guard } (by simp) rfl
        clear hdep ho
        have hx160 := hr.f7 g7
        have hx158 := hr.f5 g5
        subst hx160 hx158
        have cc : w'.cell? ⟨N, 18, none⟩ = some (.slice (some ⟨bS, oS, none⟩) ad.sn ad.sc) := TBx.cell (HXR.out _ hr.gb) 18 HSA.out
        try simp only [Act.put, List.setIfInBounds_toArray, List.set_cons_zero, List.set_cons_succ]
        rw [if_pos (by rfl)]
        try simp only [Act.put, List.setIfInBounds_toArray, List.set_cons_zero, List.set_cons_succ]
        go_simp
        exact hK.out _ _ (fun j => if j = 8 then true else ℓ j) ⟨x153, x154, x155, x156, x157, .bool true, x159, .pointer (some ⟨N, 18, none⟩), .slice (some ⟨bS, oS, none⟩) ad.sn ad.sc, x162, x163, x164, x165, x166, x167, x168, x169, x170, x171, x172, x2, (by simp only [Act.put, List.setIfInBounds_toArray, List.set_cons_zero, List.set_cons_succ]), ⟨hr.gb, hr.f0, hr.f1, hr.f2, hr.f3, hr.f4, hr.f5, hr.f6, hr.f7, (fun _ => rfl), hr.f9, hr.f10, hr.f11, hr.f12, hr.f13, hr.f14, hr.f15, hr.f16, hr.f17, hr.f18, hr.f19, hr.f20⟩⟩ (if_pos rfl) (fun j hj => if_neg hj)
      · obtain rfl := Option.some.inj ho
        have g5 : ℓ 5 = true := hdep { on := 5, ground := Ground.guard } (by simp) rfl
        clear hdep ho
        have hx158 := hr.f5 g5
        subst hx158
        try simp only [Act.put, List.setIfInBounds_toArray, List.set_cons_zero, List.set_cons_succ]
        rw [if_pos (by rfl)]
        try simp only [Act.put, List.setIfInBounds_toArray, List.set_cons_zero, List.set_cons_succ]
        go_simp
        exact hK.out _ _ (fun j => if j = 9 then true else ℓ j) ⟨x153, x154, x155, x156, x157, .bool true, x159, x160, x161, .int .i64 (i : Int), x163, x164, x165, x166, x167, x168, x169, x170, x171, x172, x2, (by simp only [Act.put, List.setIfInBounds_toArray, List.set_cons_zero, List.set_cons_succ]), ⟨hr.gb, hr.f0, hr.f1, hr.f2, hr.f3, hr.f4, hr.f5, hr.f6, hr.f7, hr.f8, (fun _ => rfl), hr.f10, hr.f11, hr.f12, hr.f13, hr.f14, hr.f15, hr.f16, hr.f17, hr.f18, hr.f19, hr.f20⟩⟩ (if_pos rfl) (fun j hj => if_neg hj)
      · obtain rfl := Option.some.inj ho
        have g8 : ℓ 8 = true := hdep { on := 8, ground := Ground.data } (by simp) rfl
        have g9 : ℓ 9 = true := hdep { on := 9, ground := Ground.data } (by simp) rfl
        have g5 : ℓ 5 = true := hdep { on := 5, ground := Ground.guard } (by simp) rfl
        clear hdep ho
        have hx161 := hr.f8 g8
        have hx162 := hr.f9 g9
        have hx158 := hr.f5 g5
        subst hx161 hx162 hx158
        try simp only [Act.put, List.setIfInBounds_toArray, List.set_cons_zero, List.set_cons_succ]
        rw [if_pos (by rfl)]
        try simp only [Act.put, List.setIfInBounds_toArray, List.set_cons_zero, List.set_cons_succ]
        go_simp
        exact hK.out _ _ (fun j => if j = 10 then true else ℓ j) ⟨x153, x154, x155, x156, x157, .bool true, x159, x160, .slice (some ⟨bS, oS, none⟩) ad.sn ad.sc, .int .i64 (i : Int), .pointer (some ⟨bS, oS + i * 3, none⟩), x164, x165, x166, x167, x168, x169, x170, x171, x172, x2, (by simp only [Act.put, List.setIfInBounds_toArray, List.set_cons_zero, List.set_cons_succ]), ⟨hr.gb, hr.f0, hr.f1, hr.f2, hr.f3, hr.f4, hr.f5, hr.f6, hr.f7, hr.f8, hr.f9, (fun _ => rfl), hr.f11, hr.f12, hr.f13, hr.f14, hr.f15, hr.f16, hr.f17, hr.f18, hr.f19, hr.f20⟩⟩ (if_pos rfl) (fun j hj => if_neg hj)
      · obtain rfl := Option.some.inj ho
        have g10 : ℓ 10 = true := hdep { on := 10, ground := Ground.data } (by simp) rfl
        have g5 : ℓ 5 = true := hdep { on := 5, ground := Ground.guard } (by simp) rfl
        clear hdep ho
        have hx163 := hr.f10 g10
        have hx158 := hr.f5 g5
        subst hx163 hx158
        try simp only [Act.put, List.setIfInBounds_toArray, List.set_cons_zero, List.set_cons_succ]
        rw [if_pos (by rfl)]
        try simp only [Act.put, List.setIfInBounds_toArray, List.set_cons_zero, List.set_cons_succ]
        go_simp
        exact hK.out _ _ (fun j => if j = 11 then true else ℓ j) ⟨x153, x154, x155, x156, x157, .bool true, x159, x160, x161, x162, .pointer (some ⟨bS, oS + i * 3, none⟩), .pointer (some ⟨bS, oS + i * 3, none⟩), x165, x166, x167, x168, x169, x170, x171, x172, x2, (by simp only [Act.put, List.setIfInBounds_toArray, List.set_cons_zero, List.set_cons_succ]), ⟨hr.gb, hr.f0, hr.f1, hr.f2, hr.f3, hr.f4, hr.f5, hr.f6, hr.f7, hr.f8, hr.f9, hr.f10, (fun _ => rfl), hr.f12, hr.f13, hr.f14, hr.f15, hr.f16, hr.f17, hr.f18, hr.f19, hr.f20⟩⟩ (if_pos rfl) (fun j hj => if_neg hj)
      · obtain rfl := Option.some.inj ho
        have g11 : ℓ 11 = true := hdep { on := 11, ground := Ground.data } (by simp) rfl
        have g5 : ℓ 5 = true := hdep { on := 5, ground := Ground.guard } (by simp) rfl
        clear hdep ho
        have hx164 := hr.f11 g11
        have hx158 := hr.f5 g5
        subst hx164 hx158
        have cc := HPT.out _ hr.gb
        try simp only [Act.put, List.setIfInBounds_toArray, List.set_cons_zero, List.set_cons_succ]
        rw [if_pos (by rfl)]
        try simp only [Act.put, List.setIfInBounds_toArray, List.set_cons_zero, List.set_cons_succ]
        go_simp
        exact hK.out _ _ (fun j => if j = 12 then true else ℓ j) ⟨x153, x154, x155, x156, x157, .bool true, x159, x160, x161, x162, x163, .pointer (some ⟨bS, oS + i * 3, none⟩), .int .i64 pt, x166, x167, x168, x169, x170, x171, x172, x2, (by simp only [Act.put, List.setIfInBounds_toArray, List.set_cons_zero, List.set_cons_succ]), ⟨hr.gb, hr.f0, hr.f1, hr.f2, hr.f3, hr.f4, hr.f5, hr.f6, hr.f7, hr.f8, hr.f9, hr.f10, hr.f11, (fun _ => rfl), hr.f13, hr.f14, hr.f15, hr.f16, hr.f17, hr.f18, hr.f19, hr.f20⟩⟩ (if_pos rfl) (fun j hj => if_neg hj)
      · obtain rfl := Option.some.inj ho
        have g5 : ℓ 5 = true := hdep { on := 5, ground := Ground.guard } (by simp) rfl
        clear hdep ho
        have hx158 := hr.f5 g5
        subst hx158
        try simp only [Act.put, List.setIfInBounds_toArray, List.set_cons_zero, List.set_cons_succ]
        rw [if_pos (by rfl)]
        try simp only [Act.put, List.setIfInBounds_toArray, List.set_cons_zero, List.set_cons_succ]
        go_simp
        exact hK.out _ _ (fun j => if j = 13 then true else ℓ j) ⟨x153, x154, x155, x156, x157, .bool true, x159, x160, x161, x162, x163, x164, x165, .int .i64 c, x167, x168, x169, x170, x171, x172, x2, (by simp only [Act.put, List.setIfInBounds_toArray, List.set_cons_zero, List.set_cons_succ]), ⟨hr.gb, hr.f0, hr.f1, hr.f2, hr.f3, hr.f4, hr.f5, hr.f6, hr.f7, hr.f8, hr.f9, hr.f10, hr.f11, hr.f12, (fun _ => rfl), hr.f14, hr.f15, hr.f16, hr.f17, hr.f18, hr.f19, hr.f20⟩⟩ (if_pos rfl) (fun j hj => if_neg hj)
      · obtain rfl := Option.some.inj ho
        have g5 : ℓ 5 = true := hdep { on := 5, ground := Ground.guard } (by simp) rfl
        clear hdep ho
        have hx158 := hr.f5 g5
        subst hx158
        try simp only [Act.put, List.setIfInBounds_toArray, List.set_cons_zero, List.set_cons_succ]
        rw [if_pos (by rfl)]
        try simp only [Act.put, List.setIfInBounds_toArray, List.set_cons_zero, List.set_cons_succ]
        go_simp
        exact hK.out _ _ (fun j => if j = 14 then true else ℓ j) ⟨x153, x154, x155, x156, x157, .bool true, x159, x160, x161, x162, x163, x164, x165, x166, .int .i64 n, x168, x169, x170, x171, x172, x2, (by simp only [Act.put, List.setIfInBounds_toArray, List.set_cons_zero, List.set_cons_succ]), ⟨hr.gb, hr.f0, hr.f1, hr.f2, hr.f3, hr.f4, hr.f5, hr.f6, hr.f7, hr.f8, hr.f9, hr.f10, hr.f11, hr.f12, hr.f13, (fun _ => rfl), hr.f15, hr.f16, hr.f17, hr.f18, hr.f19, hr.f20⟩⟩ (if_pos rfl) (fun j hj => if_neg hj)
      · obtain rfl := Option.some.inj ho
        have g14 : ℓ 14 = true := hdep { on := 14, ground := Ground.data } (by simp) rfl
        have g5 : ℓ 5 = true := hdep { on := 5, ground := Ground.guard } (by simp) rfl
        clear hdep ho
        have hx167 := hr.f14 g14
        have hx158 := hr.f5 g5
        subst hx167 hx158
        try simp only [Act.put, List.setIfInBounds_toArray, List.set_cons_zero, List.set_cons_succ]
        rw [if_pos (by rfl)]
        try simp only [Act.put, List.setIfInBounds_toArray, List.set_cons_zero, List.set_cons_succ]
        go_simp
        exact hK.out _ _ (fun j => if j = 15 then true else ℓ j) ⟨x153, x154, x155, x156, x157, .bool true, x159, x160, x161, x162, x163, x164, x165, x166, .int .i64 n, .int .i64 (n + 1), x169, x170, x171, x172, x2, (by simp only [Act.put, List.setIfInBounds_toArray, List.set_cons_zero, List.set_cons_succ]), ⟨hr.gb, hr.f0, hr.f1, hr.f2, hr.f3, hr.f4, hr.f5, hr.f6, hr.f7, hr.f8, hr.f9, hr.f10, hr.f11, hr.f12, hr.f13, hr.f14, (fun _ => rfl), hr.f16, hr.f17, hr.f18, hr.f19, hr.f20⟩⟩ (if_pos rfl) (fun j hj => if_neg hj)
      · obtain rfl := Option.some.inj ho
        have g6 : ℓ 6 = true := hdep { on := 6, ground := Ground.data } (by simp) rfl
        have g12 : ℓ 12 = true := hdep { on := 12, ground := Ground.data } (by simp) rfl
        have g13 : ℓ 13 = true := hdep { on := 13, ground := Ground.data } (by simp) rfl
        have g15 : ℓ 15 = true := hdep { on := 15, ground := Ground.data } (by simp) rfl
        have g5 : ℓ 5 = true := hdep { on := 5, ground := Ground.guard } (by simp) rfl
        clear hdep ho
        have hx159 := hr.f6 g6
        have hx165 := hr.f12 g12
        have hx166 := hr.f13 g13
        have hx168 := hr.f15 g15
        have hx158 := hr.f5 g5
        subst hx159 hx165 hx166 hx168 hx158
        try simp only [Act.put, List.setIfInBounds_toArray, List.set_cons_zero, List.set_cons_succ]
        rw [if_pos (by rfl)]
        try simp only [Act.put, List.setIfInBounds_toArray, List.set_cons_zero, List.set_cons_succ]
        go_simp
        refine Calls.mono (HST.out _ hr.gb) ?_
        rintro e w9 ⟨⟨aZ, cZ, rfl⟩, hb9⟩
        exact hK.out _ _ (fun j => if j = 16 then true else ℓ j) ⟨x153, x154, x155, x156, x157, .bool true, tbV t ad, x160, x161, x162, x163, x164, .int .i64 pt, .int .i64 c, x167, .int .i64 (n + 1), .slice aZ 1 cZ, x170, x171, x172, x2, (by simp only [Act.put, List.setIfInBounds_toArray, List.set_cons_zero, List.set_cons_succ]), ⟨(hr.gb.trans (hb9.mono hr.gb.size)), hr.f0, hr.f1, hr.f2, hr.f3, hr.f4, hr.f5, hr.f6, hr.f7, hr.f8, hr.f9, hr.f10, hr.f11, hr.f12, hr.f13, hr.f14, hr.f15, (fun _ => ⟨_, _, rfl⟩), hr.f17, hr.f18, hr.f19, hr.f20⟩⟩ (if_pos rfl) (fun j hj => if_neg hj)
      · obtain rfl := Option.some.inj ho
        have g16 : ℓ 16 = true := hdep { on := 16, ground := Ground.data } (by simp) rfl
        have g5 : ℓ 5 = true := hdep { on := 5, ground := Ground.guard } (by simp) rfl
        clear hdep ho
        have hx158 := hr.f5 g5
        revert hK
        obtain ⟨aZ, cZ, hx169⟩ := hr.f16 g16
        subst hx169
        intro hK
        subst hx158
        try simp only [Act.put, List.setIfInBounds_toArray, List.set_cons_zero, List.set_cons_succ]
        rw [if_pos (by rfl)]
        try simp only [Act.put, List.setIfInBounds_toArray, List.set_cons_zero, List.set_cons_succ]
        go_simp
        exact hK.out _ _ (fun j => if j = 17 then true else ℓ j) ⟨x153, x154, x155, x156, x157, .bool true, x159, x160, x161, x162, x163, x164, x165, x166, x167, x168, .slice aZ 1 cZ, .int .i64 1, x171, x172, x2, (by simp only [Act.put, List.setIfInBounds_toArray, List.set_cons_zero, List.set_cons_succ]), ⟨hr.gb, hr.f0, hr.f1, hr.f2, hr.f3, hr.f4, hr.f5, hr.f6, hr.f7, hr.f8, hr.f9, hr.f10, hr.f11, hr.f12, hr.f13, hr.f14, hr.f15, (fun _ => ⟨_, _, rfl⟩), (fun _ => rfl), hr.f18, hr.f19, hr.f20⟩⟩ (if_pos rfl) (fun j hj => if_neg hj)
      · obtain rfl := Option.some.inj ho
        have g17 : ℓ 17 = true := hdep { on := 17, ground := Ground.data } (by simp) rfl
        have g5 : ℓ 5 = true := hdep { on := 5, ground := Ground.guard } (by simp) rfl
        clear hdep ho
        have hx170 := hr.f17 g17
        have hx158 := hr.f5 g5
        subst hx170 hx158
        try simp only [Act.put, List.setIfInBounds_toArray, List.set_cons_zero, List.set_cons_succ]
        rw [if_pos (by rfl)]
        try simp only [Act.put, List.setIfInBounds_toArray, List.set_cons_zero, List.set_cons_succ]
        go_simp
        exact hK.out _ _ (fun j => if j = 18 then true else ℓ j) ⟨x153, x154, x155, x156, x157, .bool true, x159, x160, x161, x162, x163, x164, x165, x166, x167, x168, x169, .int .i64 1, .bool true, x172, x2, (by simp only [Act.put, List.setIfInBounds_toArray, List.set_cons_zero, List.set_cons_succ]), ⟨hr.gb, hr.f0, hr.f1, hr.f2, hr.f3, hr.f4, hr.f5, hr.f6, hr.f7, hr.f8, hr.f9, hr.f10, hr.f11, hr.f12, hr.f13, hr.f14, hr.f15, hr.f16, hr.f17, (fun _ => rfl), hr.f19, hr.f20⟩⟩ (if_pos rfl) (fun j hj => if_neg hj)
      · obtain rfl := Option.some.inj ho
        have g5 : ℓ 5 = true := hdep { on := 5, ground := Ground.data } (by simp) rfl
        have g18 : ℓ 18 = true := hdep { on := 18, ground := Ground.data } (by simp) rfl
        clear hdep ho
        have hx158 := hr.f5 g5
        have hx171 := hr.f18 g18
        subst hx158 hx171
        rw [if_pos (by rfl)]
        try simp only [Act.put, List.setIfInBounds_toArray, List.set_cons_zero, List.set_cons_succ]
        go_simp
        exact hK.out _ _ (fun j => if j = 19 then true else ℓ j) ⟨x153, x154, x155, x156, x157, .bool true, x159, x160, x161, x162, x163, x164, x165, x166, x167, x168, x169, x170, .bool true, .bool true, x2, (by simp only [Act.put, List.setIfInBounds_toArray, List.set_cons_zero, List.set_cons_succ]), ⟨hr.gb, hr.f0, hr.f1, hr.f2, hr.f3, hr.f4, hr.f5, hr.f6, hr.f7, hr.f8, hr.f9, hr.f10, hr.f11, hr.f12, hr.f13, hr.f14, hr.f15, hr.f16, hr.f17, hr.f18, (fun _ => rfl), hr.f20⟩⟩ (if_pos rfl) (fun j hj => if_neg hj)
      · obtain rfl := Option.some.inj ho
        have g19 : ℓ 19 = true := hdep { on := 19, ground := Ground.data } (by simp) rfl
        clear hdep ho
        have hx172 := hr.f19 g19
        subst hx172
        rw [if_pos (by rfl)]
        try simp only [Act.put, List.setIfInBounds_toArray, List.set_cons_zero, List.set_cons_succ]
        go_simp
        exact hK.out _ _ (fun j => if j = 20 then true else ℓ j) ⟨x153, x154, x155, x156, x157, x158, x159, x160, x161, x162, x163, x164, x165, x166, x167, x168, x169, x170, x171, .bool true, .bool true, (by simp only [Act.put, List.setIfInBounds_toArray, List.set_cons_zero, List.set_cons_succ]), ⟨hr.gb, hr.f0, hr.f1, hr.f2, hr.f3, hr.f4, hr.f5, hr.f6, hr.f7, hr.f8, hr.f9, hr.f10, hr.f11, hr.f12, hr.f13, hr.f14, hr.f15, hr.f16, hr.f17, hr.f18, hr.f19, (fun _ => rfl)⟩⟩ (if_pos rfl) (fun j hj => if_neg hj)
    · rintro a' w' ℓ ℓ' hℓ hI
      rw [← show ℓ = ℓ' from funext hℓ]
      exact hI
  obtain ⟨pk, HPK⟩ : ∃ pk, Hid ((t.ss.getD k sl0).1 = pk) := ⟨_, rfl⟩
  rw [HPK.out] at hp0 hcase
  have hk1 : ((k : Int) == -1) = false := beq_eq_false_iff_ne.2 (by omega)
  have hkz : decide (0 ≤ (k : Int)) = true := decide_eq_true (by omega)
  have hk0 : (0 : Int) ≤ (k : Int) := by omega
  rcases hcase with ⟨rfl, rfl, rfl⟩ | ⟨q1, q2, q3⟩ | ⟨q1, q2, q3⟩
  · clear HCC
    go_wp2_with (first | (refine wpList_load_row rfl 46 (.tmp 3) rfl N rfl 46 (tbA t ad) (0, 0) _ (HX.out _ HB3.out) Tryz.underlying46 rfl (by kernel_rfl) ?_) | fail)
    refine Calls.mono (HH1.out _ HB3.out) ?_
    rintro e w6 ⟨rfl, hb6⟩
    have HB6 : Hid (Below V.heap.size V w6) := HB3.out.trans (hb6.mono (Below.size HB3.out))
    clear hb6 HB3
    go_wp2_with (first | (refine wpList_load_rowG rfl 46 (.tmp 3) rfl N rfl 46 (tbA t ad) (0, 0) _ (HX.out _ HB6.out) Tryz.underlying46 rfl (by kernel_rfl) ?_) | fail)
    refine Calls.mono (HB2.out _ HB6.out) ?_
    rintro e w7 ⟨rfl, hb7⟩
    have HBV : Hid (Below V.heap.size V w7) := HB6.out.trans (hb7.mono (Below.size HB6.out))
    clear hb7 HB6
    go_wp2
    have hgr := gr_some w7
    have HXG : Hid (∀ X, (∃ x : Gr w7, X = x.w) → X.heap[N]? = some (.cells (tbA t ad) 46 (0, 0))) := fun X ⟨x, e⟩ => by rw [e]; exact HX.out x.w (HBV.out.trans (x.h.mono (Below.size HBV.out)))
    have HHG : Hid (∀ x : Gr w7, Calls Tryz.prog 34 #[tbV t ad, .int .i64 c] x.w fun e w' => e = .returned (.int .i64 (-1)) ∧ Below x.w.heap.size x.w w') := fun x => HH1.out x.w (HBV.out.trans (x.h.mono (Below.size HBV.out)))
    refine region_alike (by kernel_rfl) (by kernel_rfl) ?_
    go_big_quiet_step (fail)
    go_big_quiet_step (fail)
    go_big_quiet_step (fail)
    refine wpQuiet_load_row rfl 46 (.tmp 3) rfl N rfl 46 (tbA t ad) (0, 0) _ HXG.out Tryz.underlying46 rfl (by kernel_rfl) ?_; simp only [Act.put, List.setIfInBounds_toArray, List.set_cons_zero, List.set_cons_succ]
    repeat (go_big_quiet_step (first | (go_at_call 34; exact gr_call (HHG.out _))))
    refine wpQuiet_nil ?_
    intro _ hw'
    obtain ⟨X1, rfl⟩ := hw'
    have HB8 : Hid (Below V.heap.size V X1.w) := HBV.out.trans (X1.h.mono (Below.size HBV.out))
    generalize X1.w = w8 at HB8 ⊢
    clear HXG hgr HBV HHG HH1 HB2
    go_wp2_with (first | (refine wpList_load_row rfl 46 (.tmp 3) rfl N rfl 46 (tbA t ad) (0, 0) _ (HX.out _ HB8.out) Tryz.underlying46 rfl (by kernel_rfl) ?_) | fail)
    refine Calls.mono (HN1.out _ HB8.out) ?_
    rintro e w3 ⟨rfl, hb3⟩
    have HB3 : Hid (Below V.heap.size V w3) := HB8.out.trans (hb3.mono (Below.size HB8.out))
    clear hb3
    go_wp2_with (first | (refine wpList_load_row rfl 46 (.tmp 3) rfl N rfl 46 (tbA t ad) (0, 0) _ (HX.out _ HB3.out) Tryz.underlying46 rfl (by kernel_rfl) ?_) | fail)
    refine Calls.mono (HS3.out _ HB3.out) ?_
    rintro e w4 ⟨rfl, hb4⟩
    have HBV : Hid (Below V.heap.size V w4) := HB3.out.trans (hb4.mono (Below.size HB3.out))
    clear hb4 HB3
    have k14 : w4.cell? ⟨N, 14, none⟩ = some (.int .i64 t.maj) := TBx.cell (HX.out _ HBV.out) 14 rfl
    have k18 : w4.cell? ⟨N, 18, none⟩ = some (.slice (some ⟨bS, oS, none⟩) ad.sn ad.sc) := TBx.cell (HX.out _ HBV.out) 18 HSA.out
    have ks1 : w4.cell? ⟨bS, oS + i * 3 + 1, none⟩ = some (.int .i64 (n % t.maj)) := HPS.out _ HBV.out
    have hin : (i : Int) < (ad.sn : Int) := by omega
    have hnl : ¬ n < c := by omega
    have hnl' : decide (n < c) = false := decide_eq_false hnl
    have hng : ¬ c + t.maj < n := by omega
    have hng' : decide (c + t.maj < n) = false := decide_eq_false hng
    have hi0 : ¬ (i : Int) < 0 := by omega
    have hi0' : decide ((i : Int) < 0) = false := decide_eq_false hi0
    have hwm : IntKind.i64.wrap (c + t.maj) = c + t.maj := by rw [IntKind.wrap_i64]; omega
    have hmz : (t.maj == 0) = false := beq_eq_false_iff_ne.2 (by omega)
    have hmz2 : ¬ t.maj = 0 := by omega
    have htm : Int.tmod n t.maj = n % t.maj := Int.tmod_eq_emod_of_nonneg (by omega)
    have hne : ((n % t.maj) != (n % t.maj)) = false := by simp
    have hn11 : ((1 : Int) != 1) = false := by simp
    go_wp2
    have hgr := gr_some w4
    have HXG : Hid (∀ X, (∃ x : Gr w4, X = x.w) → X.heap[N]? = some (.cells (tbA t ad) 46 (0, 0))) := fun X ⟨x, e⟩ => by rw [e]; exact HX.out x.w (HBV.out.trans (x.h.mono (Below.size HBV.out)))
    have G14 := fun X => gr_cell k14 X
    have G18 := fun X => gr_cell k18 X
    have GS1 := fun X => gr_cell ks1 X
    have HPG : Hid (∀ x : Gr w4, Calls Tryz.prog 31 #[tbV t ad, .int .i64 n] x.w fun e w' => e = .returned (.int .i64 1) ∧ Below x.w.heap.size x.w w') := fun x => HP4.out x.w (HBV.out.trans (x.h.mono (Below.size HBV.out)))
    refine region_alike (by kernel_rfl) (by kernel_rfl) ?_
    repeat (first | (refine wpQuiet_load_row rfl 46 (.tmp 3) rfl N rfl 46 (tbA t ad) (0, 0) _ HXG.out Tryz.underlying46 rfl (by kernel_rfl) ?_; simp only [Act.put, List.setIfInBounds_toArray, List.set_cons_zero, List.set_cons_succ]) | go_big_quiet_step (first | (go_at_call 31; exact gr_call (HPG.out _))))
    refine wpQuiet_nil ?_
    intro _ hw'
    obtain ⟨X1, rfl⟩ := hw'
    have HBR0 : Hid (Below V.heap.size V X1.w) := HBV.out.trans (X1.h.mono (Below.size HBV.out))
    generalize X1.w = VR at HBR0 ⊢
    clear k14 k18 ks1 G14 G18 GS1 HPG HXG hgr HBV hwm hmz hmz2 htm hne hn11 hnl hng hi0 hnl' hng' hi0'
    go_wp2
    have HXR : Hid (∀ X, Below VR.heap.size VR X → X.heap[N]? = some (.cells (tbA t ad) 46 (0, 0))) := fun X hX => HX.out X (HBR0.out.trans (hX.mono (Below.size HBR0.out)))
    have HPT : Hid (∀ X, Below VR.heap.size VR X → X.cell? ⟨bS, oS + i * 3, none⟩ = some (.int .i64 pt)) := fun X hX => HPP.out X (HBR0.out.trans (hX.mono (Below.size HBR0.out)))
    have HN2 : Hid (∀ X, Below VR.heap.size VR X → Calls Tryz.prog 36 #[tbV t ad, .int .i64 n] X fun e w' => e = .returned (.int .i64 n) ∧ Below X.heap.size X w') := fun X hX => HN4.out X (HBR0.out.trans (hX.mono (Below.size HBR0.out)))
    have HST : Hid (∀ X, Below VR.heap.size VR X → Calls Tryz.prog 30 #[tbV t ad, .int .i64 pt, .int .i64 c, .int .i64 (n + 1)] X fun e w' => (∃ b cc, e = .returned (.slice b 1 cc)) ∧ Below X.heap.size X w') := fun X hX => HS4.out X (HBR0.out.trans (hX.mono (Below.size HBR0.out)))
    have HBR : Hid (Below w.heap.size w VR) := HB1.out.trans (HBR0.out.mono (Below.size HB1.out))
    have hnn : (n == n) = true := by simp
    have hw1 : IntKind.i64.wrap (n + 1) = n + 1 := by rw [IntKind.wrap_i64]; omega
    have h11 : ((1 : Int) == 1) = true := by simp
    clear HX HBR0 HN1 HS3 HP4 HN4 HS4 HPP HPS
    refine wp_region_inv (by kernel_rfl) (by kernel_rfl) (fun AC ℓ a' w' => ∃ (x153 x154 x155 x156 x157 x158 x159 x160 x161 x162 x163 x164 x165 x166 x167 x168 x169 x170 x171 x172 x2 : Value), a' = (((((((((((((((((((((AC.put (some 153) x153).put (some 154) x154).put (some 155) x155).put (some 156) x156).put (some 157) x157).put (some 158) x158).put (some 159) x159).put (some 160) x160).put (some 161) x161).put (some 162) x162).put (some 163) x163).put (some 164) x164).put (some 165) x165).put (some 166) x166).put (some 167) x167).put (some 168) x168).put (some 169) x169).put (some 170) x170).put (some 171) x171).put (some 172) x172).put (some 2) x2) ∧ R18 VR w' t ad N bS oS i n c pt (ℓ 0) (ℓ 1) (ℓ 2) (ℓ 3) (ℓ 4) (ℓ 5) (ℓ 6) (ℓ 7) (ℓ 8) (ℓ 9) (ℓ 10) (ℓ 11) (ℓ 12) (ℓ 13) (ℓ 14) (ℓ 15) (ℓ 16) (ℓ 17) (ℓ 18) (ℓ 19) (ℓ 20) x153 x154 x155 x156 x157 x158 x159 x160 x161 x162 x163 x164 x165 x166 x167 x168 x169 x170 x171 x172 x2) ?_ ?_ ?_ ?_
    · exact ⟨undef, undef, undef, undef, undef, undef, undef, undef, undef, undef, undef, undef, undef, undef, undef, undef, undef, undef, undef, undef, .bool false, (by simp only [Act.put, List.setIfInBounds_toArray, List.set_cons_zero, List.set_cons_succ]), ⟨(Below.refl _ _).drew, (fun g => by cases g), (fun g => by cases g), (fun g => by cases g), (fun g => by cases g), (fun g => by cases g), (fun g => by cases g), (fun g => by cases g), (fun g => by cases g), (fun g => by cases g), (fun g => by cases g), (fun g => by cases g), (fun g => by cases g), (fun g => by cases g), (fun g => by cases g), (fun g => by cases g), (fun g => by cases g), (fun g => by cases g), (fun g => by cases g), (fun g => by cases g), (fun g => by cases g), (fun g => by cases g)⟩⟩
    · intro ℓ a' w9 hI hall
      obtain ⟨x153, x154, x155, x156, x157, x158, x159, x160, x161, x162, x163, x164, x165, x166, x167, x168, x169, x170, x171, x172, x2, rfl, hr⟩ := hI
      have hall' : ∀ i, i < 21 → ℓ i = true := hall
      obtain rfl := hr.f20 (hall' 20 (by omega))
      have HE : Hid (Below w.heap.size w w9) := HBR.out.trans (hr.gb.mono HBR.out.size)
      clear hr hall hall'
      simp only [Act.put, List.setIfInBounds_toArray, List.set_cons_zero, List.set_cons_succ]
      go_wp2
      go_ret
      exact ⟨rfl, HE.out⟩
    · intro ℓ a' w' ii o hI ho hi hL hdep K hK
      obtain ⟨x153, x154, x155, x156, x157, x158, x159, x160, x161, x162, x163, x164, x165, x166, x167, x168, x169, x170, x171, x172, x2, rfl, hr⟩ := hI
      have hi7 : ii < 21 := hi
      have hcs : ii = 0 ∨ ii = 1 ∨ ii = 2 ∨ ii = 3 ∨ ii = 4 ∨ ii = 5 ∨ ii = 6 ∨ ii = 7 ∨ ii = 8 ∨ ii = 9 ∨ ii = 10 ∨ ii = 11 ∨ ii = 12 ∨ ii = 13 ∨ ii = 14 ∨ ii = 15 ∨ ii = 16 ∨ ii = 17 ∨ ii = 18 ∨ ii = 19 ∨ ii = 20 := by omega
      clear hi hi7
      rcases hcs with rfl | rfl | rfl | rfl | rfl | rfl | rfl | rfl | rfl | rfl | rfl | rfl | rfl | rfl | rfl | rfl | rfl | rfl | rfl | rfl | rfl
      · replace ho : some ({ dst := some 153, op := .load 46 (.tmp 3), type := 46, pos := "laws.go:1185", after := #[], guard := none } : Oper) = some o := ho
        obtain rfl := Option.some.inj ho
        clear hdep ho
        rw [if_pos (by rfl)]
        try simp only [Act.put, List.setIfInBounds_toArray, List.set_cons_zero, List.set_cons_succ]
        refine wp_load_row (P := Tryz.prog) 46 (.tmp 3) rfl N rfl 46 (tbA t ad) (0, 0) _ (HXR.out _ hr.gb) Tryz.underlying46 rfl (by kernel_rfl) ?_
        exact hK.out _ _ (fun j => if j = 0 then true else ℓ j) ⟨tbV t ad, x154, x155, x156, x157, x158, x159, x160, x161, x162, x163, x164, x165, x166, x167, x168, x169, x170, x171, x172, x2, (by simp only [Act.put, List.setIfInBounds_toArray, List.set_cons_zero, List.set_cons_succ]), ⟨hr.gb, (fun _ => rfl), hr.f1, hr.f2, hr.f3, hr.f4, hr.f5, hr.f6, hr.f7, hr.f8, hr.f9, hr.f10, hr.f11, hr.f12, hr.f13, hr.f14, hr.f15, hr.f16, hr.f17, hr.f18, hr.f19, hr.f20⟩⟩ (if_pos rfl) (fun j hj => if_neg hj)
      · obtain rfl := Option.some.inj ho
        clear hdep ho
        rw [if_pos (by rfl)]
        try simp only [Act.put, List.setIfInBounds_toArray, List.set_cons_zero, List.set_cons_succ]
        go_simp
        exact hK.out _ _ (fun j => if j = 1 then true else ℓ j) ⟨x153, .int .i64 n, x155, x156, x157, x158, x159, x160, x161, x162, x163, x164, x165, x166, x167, x168, x169, x170, x171, x172, x2, (by simp only [Act.put, List.setIfInBounds_toArray, List.set_cons_zero, List.set_cons_succ]), ⟨hr.gb, hr.f0, (fun _ => rfl), hr.f2, hr.f3, hr.f4, hr.f5, hr.f6, hr.f7, hr.f8, hr.f9, hr.f10, hr.f11, hr.f12, hr.f13, hr.f14, hr.f15, hr.f16, hr.f17, hr.f18, hr.f19, hr.f20⟩⟩ (if_pos rfl) (fun j hj => if_neg hj)
      · obtain rfl := Option.some.inj ho
        have g0 : ℓ 0 = true := hdep { on := 0, ground := Ground.data } (by simp) rfl
        have g1 : ℓ 1 = true := hdep { on := 1, ground := Ground.data } (by simp) rfl
        clear hdep ho
        have hx153 := hr.f0 g0
        have hx154 := hr.f1 g1
        subst hx153 hx154
        rw [if_pos (by rfl)]
        try simp only [Act.put, List.setIfInBounds_toArray, List.set_cons_zero, List.set_cons_succ]
        go_simp
        refine Calls.mono (HN2.out _ hr.gb) ?_
        rintro e w9 ⟨rfl, hb9⟩
        exact hK.out _ _ (fun j => if j = 2 then true else ℓ j) ⟨tbV t ad, .int .i64 n, .int .i64 n, x156, x157, x158, x159, x160, x161, x162, x163, x164, x165, x166, x167, x168, x169, x170, x171, x172, x2, (by simp only [Act.put, List.setIfInBounds_toArray, List.set_cons_zero, List.set_cons_succ]), ⟨(hr.gb.trans (hb9.mono hr.gb.size)), hr.f0, hr.f1, (fun _ => rfl), hr.f3, hr.f4, hr.f5, hr.f6, hr.f7, hr.f8, hr.f9, hr.f10, hr.f11, hr.f12, hr.f13, hr.f14, hr.f15, hr.f16, hr.f17, hr.f18, hr.f19, hr.f20⟩⟩ (if_pos rfl) (fun j hj => if_neg hj)
      · obtain rfl := Option.some.inj ho
        clear hdep ho
        rw [if_pos (by rfl)]
        try simp only [Act.put, List.setIfInBounds_toArray, List.set_cons_zero, List.set_cons_succ]
        go_simp
        exact hK.out _ _ (fun j => if j = 3 then true else ℓ j) ⟨x153, x154, x155, .int .i64 n, x157, x158, x159, x160, x161, x162, x163, x164, x165, x166, x167, x168, x169, x170, x171, x172, x2, (by simp only [Act.put, List.setIfInBounds_toArray, List.set_cons_zero, List.set_cons_succ]), ⟨hr.gb, hr.f0, hr.f1, hr.f2, (fun _ => rfl), hr.f4, hr.f5, hr.f6, hr.f7, hr.f8, hr.f9, hr.f10, hr.f11, hr.f12, hr.f13, hr.f14, hr.f15, hr.f16, hr.f17, hr.f18, hr.f19, hr.f20⟩⟩ (if_pos rfl) (fun j hj => if_neg hj)
      · obtain rfl := Option.some.inj ho
        have g2 : ℓ 2 = true := hdep { on := 2, ground := Ground.data } (by simp) rfl
        have g3 : ℓ 3 = true := hdep { on := 3, ground := Ground.data } (by simp) rfl
        clear hdep ho
        have hx155 := hr.f2 g2
        have hx156 := hr.f3 g3
        subst hx155 hx156
        rw [if_pos (by rfl)]
        try simp only [Act.put, List.setIfInBounds_toArray, List.set_cons_zero, List.set_cons_succ]
        go_simp
        exact hK.out _ _ (fun j => if j = 4 then true else ℓ j) ⟨x153, x154, .int .i64 n, .int .i64 n, .bool true, x158, x159, x160, x161, x162, x163, x164, x165, x166, x167, x168, x169, x170, x171, x172, x2, (by simp only [Act.put, List.setIfInBounds_toArray, List.set_cons_zero, List.set_cons_succ]), ⟨hr.gb, hr.f0, hr.f1, hr.f2, hr.f3, (fun _ => rfl), hr.f5, hr.f6, hr.f7, hr.f8, hr.f9, hr.f10, hr.f11, hr.f12, hr.f13, hr.f14, hr.f15, hr.f16, hr.f17, hr.f18, hr.f19, hr.f20⟩⟩ (if_pos rfl) (fun j hj => if_neg hj)
      · obtain rfl := Option.some.inj ho
        have g4 : ℓ 4 = true := hdep { on := 4, ground := Ground.data } (by simp) rfl
        clear hdep ho
        have hx157 := hr.f4 g4
        subst hx157
        rw [if_pos (by rfl)]
        try simp only [Act.put, List.setIfInBounds_toArray, List.set_cons_zero, List.set_cons_succ]
        go_simp
        exact hK.out _ _ (fun j => if j = 5 then true else ℓ j) ⟨x153, x154, x155, x156, .bool true, .bool true, x159, x160, x161, x162, x163, x164, x165, x166, x167, x168, x169, x170, x171, x172, x2, (by simp only [Act.put, List.setIfInBounds_toArray, List.set_cons_zero, List.set_cons_succ]), ⟨hr.gb, hr.f0, hr.f1, hr.f2, hr.f3, hr.f4, (fun _ => rfl), hr.f6, hr.f7, hr.f8, hr.f9, hr.f10, hr.f11, hr.f12, hr.f13, hr.f14, hr.f15, hr.f16, hr.f17, hr.f18, hr.f19, hr.f20⟩⟩ (if_pos rfl) (fun j hj => if_neg hj)
      · replace ho : some ({ dst := some 159, op := .load 46 (.tmp 3), type := 46, pos := "laws.go:1185", after := #[{ on := 5, ground := Ground.guard }], guard := some (5, true) } : Oper) = some o := ho
        obtain rfl := Option.some.inj ho
        have g5 : ℓ 5 = true := hdep { on := 5, ground := Ground.guard } (by simp) rfl
        clear hdep ho
        have hx158 := hr.f5 g5
        subst hx158
        try simp only [Act.put, List.setIfInBounds_toArray, List.set_cons_zero, List.set_cons_succ]
        rw [if_pos (by rfl)]
        try simp only [Act.put, List.setIfInBounds_toArray, List.set_cons_zero, List.set_cons_succ]
        refine wp_load_row (P := Tryz.prog) 46 (.tmp 3) rfl N rfl 46 (tbA t ad) (0, 0) _ (HXR.out _ hr.gb) Tryz.underlying46 rfl (by kernel_rfl) ?_
        exact hK.out _ _ (fun j => if j = 6 then true else ℓ j) ⟨x153, x154, x155, x156, x157, .bool true, tbV t ad, x160, x161, x162, x163, x164, x165, x166, x167, x168, x169, x170, x171, x172, x2, (by simp only [Act.put, List.setIfInBounds_toArray, List.set_cons_zero, List.set_cons_succ]), ⟨hr.gb, hr.f0, hr.f1, hr.f2, hr.f3, hr.f4, hr.f5, (fun _ => rfl), hr.f7, hr.f8, hr.f9, hr.f10, hr.f11, hr.f12, hr.f13, hr.f14, hr.f15, hr.f16, hr.f17, hr.f18, hr.f19, hr.f20⟩⟩ (if_pos rfl) (fun j hj => if_neg hj)
      · obtain rfl := Option.some.inj ho
        have g5 : ℓ 5 = true := hdep { on := 5, ground := Ground.guard } (by simp) rfl
        clear hdep ho
        have hx158 := hr.f5 g5
        subst hx158
        try simp only [Act.put, List.setIfInBounds_toArray, List.set_cons_zero, List.set_cons_succ]
        rw [if_pos (by rfl)]
        try simp only [Act.put, List.setIfInBounds_toArray, List.set_cons_zero, List.set_cons_succ]
        go_simp
        exact hK.out _ _ (fun j => if j = 7 then true else ℓ j) ⟨x153, x154, x155, x156, x157, .bool true, x159, .pointer (some ⟨N, 18, none⟩), x161, x162, x163, x164, x165, x166, x167, x168, x169, x170, x171, x172, x2, (by simp only [Act.put, List.setIfInBounds_toArray, List.set_cons_zero, List.set_cons_succ]), ⟨hr.gb, hr.f0, hr.f1, hr.f2, hr.f3, hr.f4, hr.f5, hr.f6, (fun _ => rfl), hr.f8, hr.f9, hr.f10, hr.f11, hr.f12, hr.f13, hr.f14, hr.f15, hr.f16, hr.f17, hr.f18, hr.f19, hr.f20⟩⟩ (if_pos rfl) (fun j hj => if_neg hj)
      · obtain rfl := Option.some.inj ho
        have g7 : ℓ 7 = true := hdep { on := 7, ground := Ground.data } (by simp) rfl
        have g5 : ℓ 5 = true := hdep { on := 5, ground := Ground.guard } (by simp) rfl
        clear hdep ho
        have hx160 := hr.f7 g7
        have hx158 := hr.f5 g5
        subst hx160 hx158
        have cc : w'.cell? ⟨N, 18, none⟩ = some (.slice (some ⟨bS, oS, none⟩) ad.sn ad.sc) := TBx.cell (HXR.out _ hr.gb) 18 HSA.out
        try simp only [Act.put, List.setIfInBounds_toArray, List.set_cons_zero, List.set_cons_succ]
        rw [if_pos (by rfl)]
        try simp only [Act.put, List.setIfInBounds_toArray, List.set_cons_zero, List.set_cons_succ]
        go_simp
        exact hK.out _ _ (fun j => if j = 8 then true else ℓ j) ⟨x153, x154, x155, x156, x157, .bool true, x159, .pointer (some ⟨N, 18, none⟩), .slice (some ⟨bS, oS, none⟩) ad.sn ad.sc, x162, x163, x164, x165, x166, x167, x168, x169, x170, x171, x172, x2, (by simp only [Act.put, List.setIfInBounds_toArray, List.set_cons_zero, List.set_cons_succ]), ⟨hr.gb, hr.f0, hr.f1, hr.f2, hr.f3, hr.f4, hr.f5, hr.f6, hr.f7, (fun _ => rfl), hr.f9, hr.f10, hr.f11, hr.f12, hr.f13, hr.f14, hr.f15, hr.f16, hr.f17, hr.f18, hr.f19, hr.f20⟩⟩ (if_pos rfl) (fun j hj => if_neg hj)
      · obtain rfl := Option.some.inj ho
        have g5 : ℓ 5 = true := hdep { on := 5, ground := Ground.guard } (by simp) rfl
        clear hdep ho
        have hx158 := hr.f5 g5
        subst hx158
        try simp only [Act.put, List.setIfInBounds_toArray, List.set_cons_zero, List.set_cons_succ]
        rw [if_pos (by rfl)]
        try simp only [Act.put, List.setIfInBounds_toArray, List.set_cons_zero, List.set_cons_succ]
        go_simp
        exact hK.out _ _ (fun j => if j = 9 then true else ℓ j) ⟨x153, x154, x155, x156, x157, .bool true, x159, x160, x161, .int .i64 (i : Int), x163, x164, x165, x166, x167, x168, x169, x170, x171, x172, x2, (by simp only [Act.put, List.setIfInBounds_toArray, List.set_cons_zero, List.set_cons_succ]), ⟨hr.gb, hr.f0, hr.f1, hr.f2, hr.f3, hr.f4, hr.f5, hr.f6, hr.f7, hr.f8, (fun _ => rfl), hr.f10, hr.f11, hr.f12, hr.f13, hr.f14, hr.f15, hr.f16, hr.f17, hr.f18, hr.f19, hr.f20⟩⟩ (if_pos rfl) (fun j hj => if_neg hj)
      · obtain rfl := Option.some.inj ho
        have g8 : ℓ 8 = true := hdep { on := 8, ground := Ground.data } (by simp) rfl
        have g9 : ℓ 9 = true := hdep { on := 9, ground := Ground.data } (by simp) rfl
        have g5 : ℓ 5 = true := hdep { on := 5, ground := Ground.guard } (by simp) rfl
        clear hdep ho
        have hx161 := hr.f8 g8
        have hx162 := hr.f9 g9
        have hx158 := hr.f5 g5
        subst hx161 hx162 hx158
        try simp only [Act.put, List.setIfInBounds_toArray, List.set_cons_zero, List.set_cons_succ]
        rw [if_pos (by rfl)]
        try simp only [Act.put, List.setIfInBounds_toArray, List.set_cons_zero, List.set_cons_succ]
        go_simp
        exact hK.out _ _ (fun j => if j = 10 then true else ℓ j) ⟨x153, x154, x155, x156, x157, .bool true, x159, x160, .slice (some ⟨bS, oS, none⟩) ad.sn ad.sc, .int .i64 (i : Int), .pointer (some ⟨bS, oS + i * 3, none⟩), x164, x165, x166, x167, x168, x169, x170, x171, x172, x2, (by simp only [Act.put, List.setIfInBounds_toArray, List.set_cons_zero, List.set_cons_succ]), ⟨hr.gb, hr.f0, hr.f1, hr.f2, hr.f3, hr.f4, hr.f5, hr.f6, hr.f7, hr.f8, hr.f9, (fun _ => rfl), hr.f11, hr.f12, hr.f13, hr.f14, hr.f15, hr.f16, hr.f17, hr.f18, hr.f19, hr.f20⟩⟩ (if_pos rfl) (fun j hj => if_neg hj)
      · obtain rfl := Option.some.inj ho
        have g10 : ℓ 10 = true := hdep { on := 10, ground := Ground.data } (by simp) rfl
        have g5 : ℓ 5 = true := hdep { on := 5, ground := Ground.guard } (by simp) rfl
        clear hdep ho
        have hx163 := hr.f10 g10
        have hx158 := hr.f5 g5
        subst hx163 hx158
        try simp only [Act.put, List.setIfInBounds_toArray, List.set_cons_zero, List.set_cons_succ]
        rw [if_pos (by rfl)]
        try simp only [Act.put, List.setIfInBounds_toArray, List.set_cons_zero, List.set_cons_succ]
        go_simp
        exact hK.out _ _ (fun j => if j = 11 then true else ℓ j) ⟨x153, x154, x155, x156, x157, .bool true, x159, x160, x161, x162, .pointer (some ⟨bS, oS + i * 3, none⟩), .pointer (some ⟨bS, oS + i * 3, none⟩), x165, x166, x167, x168, x169, x170, x171, x172, x2, (by simp only [Act.put, List.setIfInBounds_toArray, List.set_cons_zero, List.set_cons_succ]), ⟨hr.gb, hr.f0, hr.f1, hr.f2, hr.f3, hr.f4, hr.f5, hr.f6, hr.f7, hr.f8, hr.f9, hr.f10, (fun _ => rfl), hr.f12, hr.f13, hr.f14, hr.f15, hr.f16, hr.f17, hr.f18, hr.f19, hr.f20⟩⟩ (if_pos rfl) (fun j hj => if_neg hj)
      · obtain rfl := Option.some.inj ho
        have g11 : ℓ 11 = true := hdep { on := 11, ground := Ground.data } (by simp) rfl
        have g5 : ℓ 5 = true := hdep { on := 5, ground := Ground.guard } (by simp) rfl
        clear hdep ho
        have hx164 := hr.f11 g11
        have hx158 := hr.f5 g5
        subst hx164 hx158
        have cc := HPT.out _ hr.gb
        try simp only [Act.put, List.setIfInBounds_toArray, List.set_cons_zero, List.set_cons_succ]
        rw [if_pos (by rfl)]
        try simp only [Act.put, List.setIfInBounds_toArray, List.set_cons_zero, List.set_cons_succ]
        go_simp
        exact hK.out _ _ (fun j => if j = 12 then true else ℓ j) ⟨x153, x154, x155, x156, x157, .bool true, x159, x160, x161, x162, x163, .pointer (some ⟨bS, oS + i * 3, none⟩), .int .i64 pt, x166, x167, x168, x169, x170, x171, x172, x2, (by simp only [Act.put, List.setIfInBounds_toArray, List.set_cons_zero, List.set_cons_succ]), ⟨hr.gb, hr.f0, hr.f1, hr.f2, hr.f3, hr.f4, hr.f5, hr.f6, hr.f7, hr.f8, hr.f9, hr.f10, hr.f11, (fun _ => rfl), hr.f13, hr.f14, hr.f15, hr.f16, hr.f17, hr.f18, hr.f19, hr.f20⟩⟩ (if_pos rfl) (fun j hj => if_neg hj)
      · obtain rfl := Option.some.inj ho
        have g5 : ℓ 5 = true := hdep { on := 5, ground := Ground.guard } (by simp) rfl
        clear hdep ho
        have hx158 := hr.f5 g5
        subst hx158
        try simp only [Act.put, List.setIfInBounds_toArray, List.set_cons_zero, List.set_cons_succ]
        rw [if_pos (by rfl)]
        try simp only [Act.put, List.setIfInBounds_toArray, List.set_cons_zero, List.set_cons_succ]
        go_simp
        exact hK.out _ _ (fun j => if j = 13 then true else ℓ j) ⟨x153, x154, x155, x156, x157, .bool true, x159, x160, x161, x162, x163, x164, x165, .int .i64 c, x167, x168, x169, x170, x171, x172, x2, (by simp only [Act.put, List.setIfInBounds_toArray, List.set_cons_zero, List.set_cons_succ]), ⟨hr.gb, hr.f0, hr.f1, hr.f2, hr.f3, hr.f4, hr.f5, hr.f6, hr.f7, hr.f8, hr.f9, hr.f10, hr.f11, hr.f12, (fun _ => rfl), hr.f14, hr.f15, hr.f16, hr.f17, hr.f18, hr.f19, hr.f20⟩⟩ (if_pos rfl) (fun j hj => if_neg hj)
      · obtain rfl := Option.some.inj ho
        have g5 : ℓ 5 = true := hdep { on := 5, ground := Ground.guard } (by simp) rfl
        clear hdep ho
        have hx158 := hr.f5 g5
        subst hx158
        try simp only [Act.put, List.setIfInBounds_toArray, List.set_cons_zero, List.set_cons_succ]
        rw [if_pos (by rfl)]
        try simp only [Act.put, List.setIfInBounds_toArray, List.set_cons_zero, List.set_cons_succ]
        go_simp
        exact hK.out _ _ (fun j => if j = 14 then true else ℓ j) ⟨x153, x154, x155, x156, x157, .bool true, x159, x160, x161, x162, x163, x164, x165, x166, .int .i64 n, x168, x169, x170, x171, x172, x2, (by simp only [Act.put, List.setIfInBounds_toArray, List.set_cons_zero, List.set_cons_succ]), ⟨hr.gb, hr.f0, hr.f1, hr.f2, hr.f3, hr.f4, hr.f5, hr.f6, hr.f7, hr.f8, hr.f9, hr.f10, hr.f11, hr.f12, hr.f13, (fun _ => rfl), hr.f15, hr.f16, hr.f17, hr.f18, hr.f19, hr.f20⟩⟩ (if_pos rfl) (fun j hj => if_neg hj)
      · obtain rfl := Option.some.inj ho
        have g14 : ℓ 14 = true := hdep { on := 14, ground := Ground.data } (by simp) rfl
        have g5 : ℓ 5 = true := hdep { on := 5, ground := Ground.guard } (by simp) rfl
        clear hdep ho
        have hx167 := hr.f14 g14
        have hx158 := hr.f5 g5
        subst hx167 hx158
        try simp only [Act.put, List.setIfInBounds_toArray, List.set_cons_zero, List.set_cons_succ]
        rw [if_pos (by rfl)]
        try simp only [Act.put, List.setIfInBounds_toArray, List.set_cons_zero, List.set_cons_succ]
        go_simp
        exact hK.out _ _ (fun j => if j = 15 then true else ℓ j) ⟨x153, x154, x155, x156, x157, .bool true, x159, x160, x161, x162, x163, x164, x165, x166, .int .i64 n, .int .i64 (n + 1), x169, x170, x171, x172, x2, (by simp only [Act.put, List.setIfInBounds_toArray, List.set_cons_zero, List.set_cons_succ]), ⟨hr.gb, hr.f0, hr.f1, hr.f2, hr.f3, hr.f4, hr.f5, hr.f6, hr.f7, hr.f8, hr.f9, hr.f10, hr.f11, hr.f12, hr.f13, hr.f14, (fun _ => rfl), hr.f16, hr.f17, hr.f18, hr.f19, hr.f20⟩⟩ (if_pos rfl) (fun j hj => if_neg hj)
      · obtain rfl := Option.some.inj ho
        have g6 : ℓ 6 = true := hdep { on := 6, ground := Ground.data } (by simp) rfl
        have g12 : ℓ 12 = true := hdep { on := 12, ground := Ground.data } (by simp) rfl
        have g13 : ℓ 13 = true := hdep { on := 13, ground := Ground.data } (by simp) rfl
        have g15 : ℓ 15 = true := hdep { on := 15, ground := Ground.data } (by simp) rfl
        have g5 : ℓ 5 = true := hdep { on := 5, ground := Ground.guard } (by simp) rfl
        clear hdep ho
        have hx159 := hr.f6 g6
        have hx165 := hr.f12 g12
        have hx166 := hr.f13 g13
        have hx168 := hr.f15 g15
        have hx158 := hr.f5 g5
        subst hx159 hx165 hx166 hx168 hx158
        try simp only [Act.put, List.setIfInBounds_toArray, List.set_cons_zero, List.set_cons_succ]
        rw [if_pos (by rfl)]
        try simp only [Act.put, List.setIfInBounds_toArray, List.set_cons_zero, List.set_cons_succ]
        go_simp
        refine Calls.mono (HST.out _ hr.gb) ?_
        rintro e w9 ⟨⟨aZ, cZ, rfl⟩, hb9⟩
        exact hK.out _ _ (fun j => if j = 16 then true else ℓ j) ⟨x153, x154, x155, x156, x157, .bool true, tbV t ad, x160, x161, x162, x163, x164, .int .i64 pt, .int .i64 c, x167, .int .i64 (n + 1), .slice aZ 1 cZ, x170, x171, x172, x2, (by simp only [Act.put, List.setIfInBounds_toArray, List.set_cons_zero, List.set_cons_succ]), ⟨(hr.gb.trans (hb9.mono hr.gb.size)), hr.f0, hr.f1, hr.f2, hr.f3, hr.f4, hr.f5, hr.f6, hr.f7, hr.f8, hr.f9, hr.f10, hr.f11, hr.f12, hr.f13, hr.f14, hr.f15, (fun _ => ⟨_, _, rfl⟩), hr.f17, hr.f18, hr.f19, hr.f20⟩⟩ (if_pos rfl) (fun j hj => if_neg hj)
      · obtain rfl := Option.some.inj ho
        have g16 : ℓ 16 = true := hdep { on := 16, ground := Ground.data } (by simp) rfl
        have g5 : ℓ 5 = true := hdep { on := 5, ground := Ground.guard } (by simp) rfl
        clear hdep ho
        have hx158 := hr.f5 g5
        revert hK
        obtain ⟨aZ, cZ, hx169⟩ := hr.f16 g16
        subst hx169
        intro hK
        subst hx158
        try simp only [Act.put, List.setIfInBounds_toArray, List.set_cons_zero, List.set_cons_succ]
        rw [if_pos (by rfl)]
        try simp only [Act.put, List.setIfInBounds_toArray, List.set_cons_zero, List.set_cons_succ]
        go_simp
        exact hK.out _ _ (fun j => if j = 17 then true else ℓ j) ⟨x153, x154, x155, x156, x157, .bool true, x159, x160, x161, x162, x163, x164, x165, x166, x167, x168, .slice aZ 1 cZ, .int .i64 1, x171, x172, x2, (by simp only [Act.put, List.setIfInBounds_toArray, List.set_cons_zero, List.set_cons_succ]), ⟨hr.gb, hr.f0, hr.f1, hr.f2, hr.f3, hr.f4, hr.f5, hr.f6, hr.f7, hr.f8, hr.f9, hr.f10, hr.f11, hr.f12, hr.f13, hr.f14, hr.f15, (fun _ => ⟨_, _, rfl⟩), (fun _ => rfl), hr.f18, hr.f19, hr.f20⟩⟩ (if_pos rfl) (fun j hj => if_neg hj)
      · obtain rfl := Option.some.inj ho
        have g17 : ℓ 17 = true := hdep { on := 17, ground := Ground.data } (by simp) rfl
        have g5 : ℓ 5 = true := hdep { on := 5, ground := Ground.guard } (by simp) rfl
        clear hdep ho
        have hx170 := hr.f17 g17
        have hx158 := hr.f5 g5
        subst hx170 hx158
        try simp only [Act.put, List.setIfInBounds_toArray, List.set_cons_zero, List.set_cons_succ]
        rw [if_pos (by rfl)]
        try simp only [Act.put, List.setIfInBounds_toArray, List.set_cons_zero, List.set_cons_succ]
        go_simp
        exact hK.out _ _ (fun j => if j = 18 then true else ℓ j) ⟨x153, x154, x155, x156, x157, .bool true, x159, x160, x161, x162, x163, x164, x165, x166, x167, x168, x169, .int .i64 1, .bool true, x172, x2, (by simp only [Act.put, List.setIfInBounds_toArray, List.set_cons_zero, List.set_cons_succ]), ⟨hr.gb, hr.f0, hr.f1, hr.f2, hr.f3, hr.f4, hr.f5, hr.f6, hr.f7, hr.f8, hr.f9, hr.f10, hr.f11, hr.f12, hr.f13, hr.f14, hr.f15, hr.f16, hr.f17, (fun _ => rfl), hr.f19, hr.f20⟩⟩ (if_pos rfl) (fun j hj => if_neg hj)
      · obtain rfl := Option.some.inj ho
        have g5 : ℓ 5 = true := hdep { on := 5, ground := Ground.data } (by simp) rfl
        have g18 : ℓ 18 = true := hdep { on := 18, ground := Ground.data } (by simp) rfl
        clear hdep ho
        have hx158 := hr.f5 g5
        have hx171 := hr.f18 g18
        subst hx158 hx171
        rw [if_pos (by rfl)]
        try simp only [Act.put, List.setIfInBounds_toArray, List.set_cons_zero, List.set_cons_succ]
        go_simp
        exact hK.out _ _ (fun j => if j = 19 then true else ℓ j) ⟨x153, x154, x155, x156, x157, .bool true, x159, x160, x161, x162, x163, x164, x165, x166, x167, x168, x169, x170, .bool true, .bool true, x2, (by simp only [Act.put, List.setIfInBounds_toArray, List.set_cons_zero, List.set_cons_succ]), ⟨hr.gb, hr.f0, hr.f1, hr.f2, hr.f3, hr.f4, hr.f5, hr.f6, hr.f7, hr.f8, hr.f9, hr.f10, hr.f11, hr.f12, hr.f13, hr.f14, hr.f15, hr.f16, hr.f17, hr.f18, (fun _ => rfl), hr.f20⟩⟩ (if_pos rfl) (fun j hj => if_neg hj)
      · obtain rfl := Option.some.inj ho
        have g19 : ℓ 19 = true := hdep { on := 19, ground := Ground.data } (by simp) rfl
        clear hdep ho
        have hx172 := hr.f19 g19
        subst hx172
        rw [if_pos (by rfl)]
        try simp only [Act.put, List.setIfInBounds_toArray, List.set_cons_zero, List.set_cons_succ]
        go_simp
        exact hK.out _ _ (fun j => if j = 20 then true else ℓ j) ⟨x153, x154, x155, x156, x157, x158, x159, x160, x161, x162, x163, x164, x165, x166, x167, x168, x169, x170, x171, .bool true, .bool true, (by simp only [Act.put, List.setIfInBounds_toArray, List.set_cons_zero, List.set_cons_succ]), ⟨hr.gb, hr.f0, hr.f1, hr.f2, hr.f3, hr.f4, hr.f5, hr.f6, hr.f7, hr.f8, hr.f9, hr.f10, hr.f11, hr.f12, hr.f13, hr.f14, hr.f15, hr.f16, hr.f17, hr.f18, hr.f19, (fun _ => rfl)⟩⟩ (if_pos rfl) (fun j hj => if_neg hj)
    · rintro a' w' ℓ ℓ' hℓ hI
      rw [← show ℓ = ℓ' from funext hℓ]
      exact hI
  · have q2' := q2.symm
    have q3' := q3.symm
    subst q1 q2' q3'
    clear HCC
    go_wp2_with (first | (refine wpList_load_row rfl 46 (.tmp 3) rfl N rfl 46 (tbA t ad) (0, 0) _ (HX.out _ HB3.out) Tryz.underlying46 rfl (by kernel_rfl) ?_) | fail)
    refine Calls.mono (HH1.out _ HB3.out) ?_
    rintro e w6 ⟨rfl, hb6⟩
    have HB6 : Hid (Below V.heap.size V w6) := HB3.out.trans (hb6.mono (Below.size HB3.out))
    clear hb6 HB3
    go_wp2_with (first | (refine wpList_load_rowG rfl 46 (.tmp 3) rfl N rfl 46 (tbA t ad) (0, 0) _ (HX.out _ HB6.out) Tryz.underlying46 rfl (by kernel_rfl) ?_) | fail)
    refine Calls.mono (HB2.out _ HB6.out) ?_
    rintro e w7 ⟨rfl, hb7⟩
    have HBV : Hid (Below V.heap.size V w7) := HB6.out.trans (hb7.mono (Below.size HB6.out))
    clear hb7 HB6
    have k18 : w7.cell? ⟨N, 18, none⟩ = some (.slice (some ⟨bS, oS, none⟩) ad.sn ad.sc) := TBx.cell (HX.out _ HBV.out) 18 HSA.out
    have ks0 : w7.cell? ⟨bS, oS + k * 3, none⟩ = some (.int .i64 pk) := by rw [← HPK.out]; exact (HCL.out _ HBV.out k hk).1
    have hkn : (k : Int) < (ad.sn : Int) := by omega
    have hnk : (pk != pk) = false := by simp
    go_wp2
    have hgr := gr_some w7
    have HXG : Hid (∀ X, (∃ x : Gr w7, X = x.w) → X.heap[N]? = some (.cells (tbA t ad) 46 (0, 0))) := fun X ⟨x, e⟩ => by rw [e]; exact HX.out x.w (HBV.out.trans (x.h.mono (Below.size HBV.out)))
    have HHG : Hid (∀ x : Gr w7, Calls Tryz.prog 34 #[tbV t ad, .int .i64 c] x.w fun e w' => e = .returned (.int .i64 pk) ∧ Below x.w.heap.size x.w w') := fun x => HH1.out x.w (HBV.out.trans (x.h.mono (Below.size HBV.out)))
    have G18 := fun X => gr_cell k18 X
    have GS0 := fun X => gr_cell ks0 X
    refine region_alike (by kernel_rfl) (by kernel_rfl) ?_
    repeat (first | (refine wpQuiet_load_row rfl 46 (.tmp 3) rfl N rfl 46 (tbA t ad) (0, 0) _ HXG.out Tryz.underlying46 rfl (by kernel_rfl) ?_; simp only [Act.put, List.setIfInBounds_toArray, List.set_cons_zero, List.set_cons_succ]) | go_big_quiet_step (first | (go_at_call 34; exact gr_call (HHG.out _))))
    refine wpQuiet_nil ?_
    intro _ hw'
    obtain ⟨X1, rfl⟩ := hw'
    have HB8 : Hid (Below V.heap.size V X1.w) := HBV.out.trans (X1.h.mono (Below.size HBV.out))
    generalize X1.w = w8 at HB8 ⊢
    clear HXG hgr HBV HHG HH1 HB2 k18 ks0 G18 GS0
    go_wp2_with (first | (refine wpList_load_row rfl 46 (.tmp 3) rfl N rfl 46 (tbA t ad) (0, 0) _ (HX.out _ HB8.out) Tryz.underlying46 rfl (by kernel_rfl) ?_) | fail)
    refine Calls.mono (HN1.out _ HB8.out) ?_
    rintro e w3 ⟨rfl, hb3⟩
    have HB3 : Hid (Below V.heap.size V w3) := HB8.out.trans (hb3.mono (Below.size HB8.out))
    clear hb3
    go_wp2_with (first | (refine wpList_load_row rfl 46 (.tmp 3) rfl N rfl 46 (tbA t ad) (0, 0) _ (HX.out _ HB3.out) Tryz.underlying46 rfl (by kernel_rfl) ?_) | fail)
    refine Calls.mono (HS3.out _ HB3.out) ?_
    rintro e w4 ⟨rfl, hb4⟩
    have HBV : Hid (Below V.heap.size V w4) := HB3.out.trans (hb4.mono (Below.size HB3.out))
    clear hb4 HB3
    have k14 : w4.cell? ⟨N, 14, none⟩ = some (.int .i64 t.maj) := TBx.cell (HX.out _ HBV.out) 14 rfl
    have k18 : w4.cell? ⟨N, 18, none⟩ = some (.slice (some ⟨bS, oS, none⟩) ad.sn ad.sc) := TBx.cell (HX.out _ HBV.out) 18 HSA.out
    have ks1 : w4.cell? ⟨bS, oS + i * 3 + 1, none⟩ = some (.int .i64 (n % t.maj)) := HPS.out _ HBV.out
    have hin : (i : Int) < (ad.sn : Int) := by omega
    have hnl : ¬ n < c := by omega
    have hnl' : decide (n < c) = false := decide_eq_false hnl
    have hng : ¬ c + t.maj < n := by omega
    have hng' : decide (c + t.maj < n) = false := decide_eq_false hng
    have hi0 : ¬ (i : Int) < 0 := by omega
    have hi0' : decide ((i : Int) < 0) = false := decide_eq_false hi0
    have hwm : IntKind.i64.wrap (c + t.maj) = c + t.maj := by rw [IntKind.wrap_i64]; omega
    have hmz : (t.maj == 0) = false := beq_eq_false_iff_ne.2 (by omega)
    have hmz2 : ¬ t.maj = 0 := by omega
    have htm : Int.tmod n t.maj = n % t.maj := Int.tmod_eq_emod_of_nonneg (by omega)
    have hne : ((n % t.maj) != (n % t.maj)) = false := by simp
    have hn11 : ((1 : Int) != 1) = false := by simp
    go_wp2
    have hgr := gr_some w4
    have HXG : Hid (∀ X, (∃ x : Gr w4, X = x.w) → X.heap[N]? = some (.cells (tbA t ad) 46 (0, 0))) := fun X ⟨x, e⟩ => by rw [e]; exact HX.out x.w (HBV.out.trans (x.h.mono (Below.size HBV.out)))
    have G14 := fun X => gr_cell k14 X
    have G18 := fun X => gr_cell k18 X
    have GS1 := fun X => gr_cell ks1 X
    have HPG : Hid (∀ x : Gr w4, Calls Tryz.prog 31 #[tbV t ad, .int .i64 n] x.w fun e w' => e = .returned (.int .i64 1) ∧ Below x.w.heap.size x.w w') := fun x => HP4.out x.w (HBV.out.trans (x.h.mono (Below.size HBV.out)))
    refine region_alike (by kernel_rfl) (by kernel_rfl) ?_
    repeat (first | (refine wpQuiet_load_row rfl 46 (.tmp 3) rfl N rfl 46 (tbA t ad) (0, 0) _ HXG.out Tryz.underlying46 rfl (by kernel_rfl) ?_; simp only [Act.put, List.setIfInBounds_toArray, List.set_cons_zero, List.set_cons_succ]) | go_big_quiet_step (first | (go_at_call 31; exact gr_call (HPG.out _))))
    refine wpQuiet_nil ?_
    intro _ hw'
    obtain ⟨X1, rfl⟩ := hw'
    have HBR0 : Hid (Below V.heap.size V X1.w) := HBV.out.trans (X1.h.mono (Below.size HBV.out))
    generalize X1.w = VR at HBR0 ⊢
    clear k14 k18 ks1 G14 G18 GS1 HPG HXG hgr HBV hwm hmz hmz2 htm hne hn11 hnl hng hi0 hnl' hng' hi0'
    go_wp2
    have HXR : Hid (∀ X, Below VR.heap.size VR X → X.heap[N]? = some (.cells (tbA t ad) 46 (0, 0))) := fun X hX => HX.out X (HBR0.out.trans (hX.mono (Below.size HBR0.out)))
    have HPT : Hid (∀ X, Below VR.heap.size VR X → X.cell? ⟨bS, oS + i * 3, none⟩ = some (.int .i64 pt)) := fun X hX => HPP.out X (HBR0.out.trans (hX.mono (Below.size HBR0.out)))
    have HN2 : Hid (∀ X, Below VR.heap.size VR X → Calls Tryz.prog 36 #[tbV t ad, .int .i64 n] X fun e w' => e = .returned (.int .i64 n) ∧ Below X.heap.size X w') := fun X hX => HN4.out X (HBR0.out.trans (hX.mono (Below.size HBR0.out)))
    have HST : Hid (∀ X, Below VR.heap.size VR X → Calls Tryz.prog 30 #[tbV t ad, .int .i64 pt, .int .i64 c, .int .i64 (n + 1)] X fun e w' => (∃ b cc, e = .returned (.slice b 1 cc)) ∧ Below X.heap.size X w') := fun X hX => HS4.out X (HBR0.out.trans (hX.mono (Below.size HBR0.out)))
    have HBR : Hid (Below w.heap.size w VR) := HB1.out.trans (HBR0.out.mono (Below.size HB1.out))
    have hnn : (n == n) = true := by simp
    have hw1 : IntKind.i64.wrap (n + 1) = n + 1 := by rw [IntKind.wrap_i64]; omega
    have h11 : ((1 : Int) == 1) = true := by simp
    clear HX HBR0 HN1 HS3 HP4 HN4 HS4 HPP HPS
    refine wp_region_inv (by kernel_rfl) (by kernel_rfl) (fun AC ℓ a' w' => ∃ (x153 x154 x155 x156 x157 x158 x159 x160 x161 x162 x163 x164 x165 x166 x167 x168 x169 x170 x171 x172 x2 : Value), a' = (((((((((((((((((((((AC.put (some 153) x153).put (some 154) x154).put (some 155) x155).put (some 156) x156).put (some 157) x157).put (some 158) x158).put (some 159) x159).put (some 160) x160).put (some 161) x161).put (some 162) x162).put (some 163) x163).put (some 164) x164).put (some 165) x165).put (some 166) x166).put (some 167) x167).put (some 168) x168).put (some 169) x169).put (some 170) x170).put (some 171) x171).put (some 172) x172).put (some 2) x2) ∧ R18 VR w' t ad N bS oS i n c pt (ℓ 0) (ℓ 1) (ℓ 2) (ℓ 3) (ℓ 4) (ℓ 5) (ℓ 6) (ℓ 7) (ℓ 8) (ℓ 9) (ℓ 10) (ℓ 11) (ℓ 12) (ℓ 13) (ℓ 14) (ℓ 15) (ℓ 16) (ℓ 17) (ℓ 18) (ℓ 19) (ℓ 20) x153 x154 x155 x156 x157 x158 x159 x160 x161 x162 x163 x164 x165 x166 x167 x168 x169 x170 x171 x172 x2) ?_ ?_ ?_ ?_
    · exact ⟨undef, undef, undef, undef, undef, undef, undef, undef, undef, undef, undef, undef, undef, undef, undef, undef, undef, undef, undef, undef, .bool false, (by simp only [Act.put, List.setIfInBounds_toArray, List.set_cons_zero, List.set_cons_succ]), ⟨(Below.refl _ _).drew, (fun g => by cases g), (fun g => by cases g), (fun g => by cases g), (fun g => by cases g), (fun g => by cases g), (fun g => by cases g), (fun g => by cases g), (fun g => by cases g), (fun g => by cases g), (fun g => by cases g), (fun g => by cases g), (fun g => by cases g), (fun g => by cases g), (fun g => by cases g), (fun g => by cases g), (fun g => by cases g), (fun g => by cases g), (fun g => by cases g), (fun g => by cases g), (fun g => by cases g), (fun g => by cases g)⟩⟩
    · intro ℓ a' w9 hI hall
      obtain ⟨x153, x154, x155, x156, x157, x158, x159, x160, x161, x162, x163, x164, x165, x166, x167, x168, x169, x170, x171, x172, x2, rfl, hr⟩ := hI
      have hall' : ∀ i, i < 21 → ℓ i = true := hall
      obtain rfl := hr.f20 (hall' 20 (by omega))
      have HE : Hid (Below w.heap.size w w9) := HBR.out.trans (hr.gb.mono HBR.out.size)
      clear hr hall hall'
      simp only [Act.put, List.setIfInBounds_toArray, List.set_cons_zero, List.set_cons_succ]
      go_wp2
      go_ret
      exact ⟨rfl, HE.out⟩
    · intro ℓ a' w' ii o hI ho hi hL hdep K hK
      obtain ⟨x153, x154, x155, x156, x157, x158, x159, x160, x161, x162, x163, x164, x165, x166, x167, x168, x169, x170, x171, x172, x2, rfl, hr⟩ := hI
      have hi7 : ii < 21 := hi
      have hcs : ii = 0 ∨ ii = 1 ∨ ii = 2 ∨ ii = 3 ∨ ii = 4 ∨ ii = 5 ∨ ii = 6 ∨ ii = 7 ∨ ii = 8 ∨ ii = 9 ∨ ii = 10 ∨ ii = 11 ∨ ii = 12 ∨ ii = 13 ∨ ii = 14 ∨ ii = 15 ∨ ii = 16 ∨ ii = 17 ∨ ii = 18 ∨ ii = 19 ∨ ii = 20 := by omega
      clear hi hi7
      rcases hcs with rfl | rfl | rfl | rfl | rfl | rfl | rfl | rfl | rfl | rfl | rfl | rfl | rfl | rfl | rfl | rfl | rfl | rfl | rfl | rfl | rfl
      · replace ho : some ({ dst := some 153, op := .load 46 (.tmp 3), type := 46, pos := "laws.go:1185", after := #[], guard := none } : Oper) = some o := ho
        obtain rfl := Option.some.inj ho
        clear hdep ho
        rw [if_pos (by rfl)]
        try simp only [Act.put, List.setIfInBounds_toArray, List.set_cons_zero, List.set_cons_succ]
        refine wp_load_row (P := Tryz.prog) 46 (.tmp 3) rfl N rfl 46 (tbA t ad) (0, 0) _ (HXR.out _ hr.gb) Tryz.underlying46 rfl (by kernel_rfl) ?_
        exact hK.out _ _ (fun j => if j = 0 then true else ℓ j) ⟨tbV t ad, x154, x155, x156, x157, x158, x159, x160, x161, x162, x163, x164, x165, x166, x167, x168, x169, x170, x171, x172, x2, (by simp only [Act.put, List.setIfInBounds_toArray, List.set_cons_zero, List.set_cons_succ]), ⟨hr.gb, (fun _ => rfl), hr.f1, hr.f2, hr.f3, hr.f4, hr.f5, hr.f6, hr.f7, hr.f8, hr.f9, hr.f10, hr.f11, hr.f12, hr.f13, hr.f14, hr.f15, hr.f16, hr.f17, hr.f18, hr.f19, hr.f20⟩⟩ (if_pos rfl) (fun j hj => if_neg hj)
      · obtain rfl := Option.some.inj ho
        clear hdep ho
        rw [if_pos (by rfl)]
        try simp only [Act.put, List.setIfInBounds_toArray, List.set_cons_zero, List.set_cons_succ]
        go_simp
        exact hK.out _ _ (fun j => if j = 1 then true else ℓ j) ⟨x153, .int .i64 n, x155, x156, x157, x158, x159, x160, x161, x162, x163, x164, x165, x166, x167, x168, x169, x170, x171, x172, x2, (by simp only [Act.put, List.setIfInBounds_toArray, List.set_cons_zero, List.set_cons_succ]), ⟨hr.gb, hr.f0, (fun _ => rfl), hr.f2, hr.f3, hr.f4, hr.f5, hr.f6, hr.f7, hr.f8, hr.f9, hr.f10, hr.f11, hr.f12, hr.f13, hr.f14, hr.f15, hr.f16, hr.f17, hr.f18, hr.f19, hr.f20⟩⟩ (if_pos rfl) (fun j hj => if_neg hj)
      · obtain rfl := Option.some.inj ho
        have g0 : ℓ 0 = true := hdep { on := 0, ground := Ground.data } (by simp) rfl
        have g1 : ℓ 1 = true := hdep { on := 1, ground := Ground.data } (by simp) rfl
        clear hdep ho
        have hx153 := hr.f0 g0
        have hx154 := hr.f1 g1
        subst hx153 hx154
        rw [if_pos (by rfl)]
        try simp only [Act.put, List.setIfInBounds_toArray, List.set_cons_zero, List.set_cons_succ]
        go_simp
        refine Calls.mono (HN2.out _ hr.gb) ?_
        rintro e w9 ⟨rfl, hb9⟩
        exact hK.out _ _ (fun j => if j = 2 then true else ℓ j) ⟨tbV t ad, .int .i64 n, .int .i64 n, x156, x157, x158, x159, x160, x161, x162, x163, x164, x165, x166, x167, x168, x169, x170, x171, x172, x2, (by simp only [Act.put, List.setIfInBounds_toArray, List.set_cons_zero, List.set_cons_succ]), ⟨(hr.gb.trans (hb9.mono hr.gb.size)), hr.f0, hr.f1, (fun _ => rfl), hr.f3, hr.f4, hr.f5, hr.f6, hr.f7, hr.f8, hr.f9, hr.f10, hr.f11, hr.f12, hr.f13, hr.f14, hr.f15, hr.f16, hr.f17, hr.f18, hr.f19, hr.f20⟩⟩ (if_pos rfl) (fun j hj => if_neg hj)
      · obtain rfl := Option.some.inj ho
        clear hdep ho
        rw [if_pos (by rfl)]
        try simp only [Act.put, List.setIfInBounds_toArray, List.set_cons_zero, List.set_cons_succ]
        go_simp
        exact hK.out _ _ (fun j => if j = 3 then true else ℓ j) ⟨x153, x154, x155, .int .i64 n, x157, x158, x159, x160, x161, x162, x163, x164, x165, x166, x167, x168, x169, x170, x171, x172, x2, (by simp only [Act.put, List.setIfInBounds_toArray, List.set_cons_zero, List.set_cons_succ]), ⟨hr.gb, hr.f0, hr.f1, hr.f2, (fun _ => rfl), hr.f4, hr.f5, hr.f6, hr.f7, hr.f8, hr.f9, hr.f10, hr.f11, hr.f12, hr.f13, hr.f14, hr.f15, hr.f16, hr.f17, hr.f18, hr.f19, hr.f20⟩⟩ (if_pos rfl) (fun j hj => if_neg hj)
      · obtain rfl := Option.some.inj ho
        have g2 : ℓ 2 = true := hdep { on := 2, ground := Ground.data } (by simp) rfl
        have g3 : ℓ 3 = true := hdep { on := 3, ground := Ground.data } (by simp) rfl
        clear hdep ho
        have hx155 := hr.f2 g2
        have hx156 := hr.f3 g3
        subst hx155 hx156
        rw [if_pos (by rfl)]
        try simp only [Act.put, List.setIfInBounds_toArray, List.set_cons_zero, List.set_cons_succ]
        go_simp
        exact hK.out _ _ (fun j => if j = 4 then true else ℓ j) ⟨x153, x154, .int .i64 n, .int .i64 n, .bool true, x158, x159, x160, x161, x162, x163, x164, x165, x166, x167, x168, x169, x170, x171, x172, x2, (by simp only [Act.put, List.setIfInBounds_toArray, List.set_cons_zero, List.set_cons_succ]), ⟨hr.gb, hr.f0, hr.f1, hr.f2, hr.f3, (fun _ => rfl), hr.f5, hr.f6, hr.f7, hr.f8, hr.f9, hr.f10, hr.f11, hr.f12, hr.f13, hr.f14, hr.f15, hr.f16, hr.f17, hr.f18, hr.f19, hr.f20⟩⟩ (if_pos rfl) (fun j hj => if_neg hj)
      · obtain rfl := Option.some.inj ho
        have g4 : ℓ 4 = true := hdep { on := 4, ground := Ground.data } (by simp) rfl
        clear hdep ho
        have hx157 := hr.f4 g4
        subst hx157
        rw [if_pos (by rfl)]
        try simp only [Act.put, List.setIfInBounds_toArray, List.set_cons_zero, List.set_cons_succ]
        go_simp
        exact hK.out _ _ (fun j => if j = 5 then true else ℓ j) ⟨x153, x154, x155, x156, .bool true, .bool true, x159, x160, x161, x162, x163, x164, x165, x166, x167, x168, x169, x170, x171, x172, x2, (by simp only [Act.put, List.setIfInBounds_toArray, List.set_cons_zero, List.set_cons_succ]), ⟨hr.gb, hr.f0, hr.f1, hr.f2, hr.f3, hr.f4, (fun _ => rfl), hr.f6, hr.f7, hr.f8, hr.f9, hr.f10, hr.f11, hr.f12, hr.f13, hr.f14, hr.f15, hr.f16, hr.f17, hr.f18, hr.f19, hr.f20⟩⟩ (if_pos rfl) (fun j hj => if_neg hj)
      · replace ho : some ({ dst := some 159, op := .load 46 (.tmp 3), type := 46, pos := "laws.go:1185", after := #[{ on := 5, ground := Ground.guard }], guard := some (5, true) } : Oper) = some o := ho
        obtain rfl := Option.some.inj ho
        have g5 : ℓ 5 = true := hdep { on := 5, ground := Ground.guard } (by simp) rfl
        clear hdep ho
        have hx158 := hr.f5 g5
        subst hx158
        try simp only [Act.put, List.setIfInBounds_toArray, List.set_cons_zero, List.set_cons_succ]
        rw [if_pos (by rfl)]
        try simp only [Act.put, List.setIfInBounds_toArray, List.set_cons_zero, List.set_cons_succ]
        refine wp_load_row (P := Tryz.prog) 46 (.tmp 3) rfl N rfl 46 (tbA t ad) (0, 0) _ (HXR.out _ hr.gb) Tryz.underlying46 rfl (by kernel_rfl) ?_
        exact hK.out _ _ (fun j => if j = 6 then true else ℓ j) ⟨x153, x154, x155, x156, x157, .bool true, tbV t ad, x160, x161, x162, x163, x164, x165, x166, x167, x168, x169, x170, x171, x172, x2, (by simp only [Act.put, List.setIfInBounds_toArray, List.set_cons_zero, List.set_cons_succ]), ⟨hr.gb, hr.f0, hr.f1, hr.f2, hr.f3, hr.f4, hr.f5, (fun _ => rfl), hr.f7, hr.f8, hr.f9, hr.f10, hr.f11, hr.f12, hr.f13, hr.f14, hr.f15, hr.f16, hr.f17, hr.f18, hr.f19, hr.f20⟩⟩ (if_pos rfl) (fun j hj => if_neg hj)
      · obtain rfl := Option.some.inj ho
        have g5 : ℓ 5 = true := hdep { on := 5, ground := Ground.guard } (by simp) rfl
        clear hdep ho
        have hx158 := hr.f5 g5
        subst hx158
        try simp only [Act.put, List.setIfInBounds_toArray, List.set_cons_zero, List.set_cons_succ]
        rw [if_pos (by rfl)]
        try simp only [Act.put, List.setIfInBounds_toArray, List.set_cons_zero, List.set_cons_succ]
        go_simp
        exact hK.out _ _ (fun j => if j = 7 then true else ℓ j) ⟨x153, x154, x155, x156, x157, .bool true, x159, .pointer (some ⟨N, 18, none⟩), x161, x162, x163, x164, x165, x166, x167, x168, x169, x170, x171, x172, x2, (by simp only [Act.put, List.setIfInBounds_toArray, List.set_cons_zero, List.set_cons_succ]), ⟨hr.gb, hr.f0, hr.f1, hr.f2, hr.f3, hr.f4, hr.f5, hr.f6, (fun _ => rfl), hr.f8, hr.f9, hr.f10, hr.f11, hr.f12, hr.f13, hr.f14, hr.f15, hr.f16, hr.f17, hr.f18, hr.f19, hr.f20⟩⟩ (if_pos rfl) (fun j hj => if_neg hj)
      · obtain rfl := Option.some.inj ho
        have g7 : ℓ 7 = true := hdep { on := 7, ground := Ground.data } (by simp) rfl
        have g5 : ℓ 5 = true := hdep { on := 5, ground := Ground.guard } (by simp) rfl
        clear hdep ho
        have hx160 := hr.f7 g7
        have hx158 := hr.f5 g5
        subst hx160 hx158
        have cc : w'.cell? ⟨N, 18, none⟩ = some (.slice (some ⟨bS, oS, none⟩) ad.sn ad.sc) := TBx.cell (HXR.out _ hr.gb) 18 HSA.out
        try simp only [Act.put, List.setIfInBounds_toArray, List.set_cons_zero, List.set_cons_succ]
        rw [if_pos (by rfl)]
        try simp only [Act.put, List.setIfInBounds_toArray, List.set_cons_zero, List.set_cons_succ]
        go_simp
        exact hK.out _ _ (fun j => if j = 8 then true else ℓ j) ⟨x153, x154, x155, x156, x157, .bool true, x159, .pointer (some ⟨N, 18, none⟩), .slice (some ⟨bS, oS, none⟩) ad.sn ad.sc, x162, x163, x164, x165, x166, x167, x168, x169, x170, x171, x172, x2, (by simp only [Act.put, List.setIfInBounds_toArray, List.set_cons_zero, List.set_cons_succ]), ⟨hr.gb, hr.f0, hr.f1, hr.f2, hr.f3, hr.f4, hr.f5, hr.f6, hr.f7, (fun _ => rfl), hr.f9, hr.f10, hr.f11, hr.f12, hr.f13, hr.f14, hr.f15, hr.f16, hr.f17, hr.f18, hr.f19, hr.f20⟩⟩ (if_pos rfl) (fun j hj => if_neg hj)
      · obtain rfl := Option.some.inj ho
        have g5 : ℓ 5 = true := hdep { on := 5, ground := Ground.guard } (by simp) rfl
        clear hdep ho
        have hx158 := hr.f5 g5
        subst hx158
        try simp only [Act.put, List.setIfInBounds_toArray, List.set_cons_zero, List.set_cons_succ]
        rw [if_pos (by rfl)]
        try simp only [Act.put, List.setIfInBounds_toArray, List.set_cons_zero, List.set_cons_succ]
        go_simp
        exact hK.out _ _ (fun j => if j = 9 then true else ℓ j) ⟨x153, x154, x155, x156, x157, .bool true, x159, x160, x161, .int .i64 (i : Int), x163, x164, x165, x166, x167, x168, x169, x170, x171, x172, x2, (by simp only [Act.put, List.setIfInBounds_toArray, List.set_cons_zero, List.set_cons_succ]), ⟨hr.gb, hr.f0, hr.f1, hr.f2, hr.f3, hr.f4, hr.f5, hr.f6, hr.f7, hr.f8, (fun _ => rfl), hr.f10, hr.f11, hr.f12, hr.f13, hr.f14, hr.f15, hr.f16, hr.f17, hr.f18, hr.f19, hr.f20⟩⟩ (if_pos rfl) (fun j hj => if_neg hj)
      · obtain rfl := Option.some.inj ho
        have g8 : ℓ 8 = true := hdep { on := 8, ground := Ground.data } (by simp) rfl
        have g9 : ℓ 9 = true := hdep { on := 9, ground := Ground.data } (by simp) rfl
        have g5 : ℓ 5 = true := hdep { on := 5, ground := Ground.guard } (by simp) rfl
        clear hdep ho
        have hx161 := hr.f8 g8
        have hx162 := hr.f9 g9
        have hx158 := hr.f5 g5
        subst hx161 hx162 hx158
        try simp only [Act.put, List.setIfInBounds_toArray, List.set_cons_zero, List.set_cons_succ]
        rw [if_pos (by rfl)]
        try simp only [Act.put, List.setIfInBounds_toArray, List.set_cons_zero, List.set_cons_succ]
        go_simp
        exact hK.out _ _ (fun j => if j = 10 then true else ℓ j) ⟨x153, x154, x155, x156, x157, .bool true, x159, x160, .slice (some ⟨bS, oS, none⟩) ad.sn ad.sc, .int .i64 (i : Int), .pointer (some ⟨bS, oS + i * 3, none⟩), x164, x165, x166, x167, x168, x169, x170, x171, x172, x2, (by simp only [Act.put, List.setIfInBounds_toArray, List.set_cons_zero, List.set_cons_succ]), ⟨hr.gb, hr.f0, hr.f1, hr.f2, hr.f3, hr.f4, hr.f5, hr.f6, hr.f7, hr.f8, hr.f9, (fun _ => rfl), hr.f11, hr.f12, hr.f13, hr.f14, hr.f15, hr.f16, hr.f17, hr.f18, hr.f19, hr.f20⟩⟩ (if_pos rfl) (fun j hj => if_neg hj)
      · obtain rfl := Option.some.inj ho
        have g10 : ℓ 10 = true := hdep { on := 10, ground := Ground.data } (by simp) rfl
        have g5 : ℓ 5 = true := hdep { on := 5, ground := Ground.guard } (by simp) rfl
        clear hdep ho
        have hx163 := hr.f10 g10
        have hx158 := hr.f5 g5
        subst hx163 hx158
        try simp only [Act.put, List.setIfInBounds_toArray, List.set_cons_zero, List.set_cons_succ]
        rw [if_pos (by rfl)]
        try simp only [Act.put, List.setIfInBounds_toArray, List.set_cons_zero, List.set_cons_succ]
        go_simp
        exact hK.out _ _ (fun j => if j = 11 then true else ℓ j) ⟨x153, x154, x155, x156, x157, .bool true, x159, x160, x161, x162, .pointer (some ⟨bS, oS + i * 3, none⟩), .pointer (some ⟨bS, oS + i * 3, none⟩), x165, x166, x167, x168, x169, x170, x171, x172, x2, (by simp only [Act.put, List.setIfInBounds_toArray, List.set_cons_zero, List.set_cons_succ]), ⟨hr.gb, hr.f0, hr.f1, hr.f2, hr.f3, hr.f4, hr.f5, hr.f6, hr.f7, hr.f8, hr.f9, hr.f10, (fun _ => rfl), hr.f12, hr.f13, hr.f14, hr.f15, hr.f16, hr.f17, hr.f18, hr.f19, hr.f20⟩⟩ (if_pos rfl) (fun j hj => if_neg hj)
      · obtain rfl := Option.some.inj ho
        have g11 : ℓ 11 = true := hdep { on := 11, ground := Ground.data } (by simp) rfl
        have g5 : ℓ 5 = true := hdep { on := 5, ground := Ground.guard } (by simp) rfl
        clear hdep ho
        have hx164 := hr.f11 g11
        have hx158 := hr.f5 g5
        subst hx164 hx158
        have cc := HPT.out _ hr.gb
        try simp only [Act.put, List.setIfInBounds_toArray, List.set_cons_zero, List.set_cons_succ]
        rw [if_pos (by rfl)]
        try simp only [Act.put, List.setIfInBounds_toArray, List.set_cons_zero, List.set_cons_succ]
        go_simp
        exact hK.out _ _ (fun j => if j = 12 then true else ℓ j) ⟨x153, x154, x155, x156, x157, .bool true, x159, x160, x161, x162, x163, .pointer (some ⟨bS, oS + i * 3, none⟩), .int .i64 pt, x166, x167, x168, x169, x170, x171, x172, x2, (by simp only [Act.put, List.setIfInBounds_toArray, List.set_cons_zero, List.set_cons_succ]), ⟨hr.gb, hr.f0, hr.f1, hr.f2, hr.f3, hr.f4, hr.f5, hr.f6, hr.f7, hr.f8, hr.f9, hr.f10, hr.f11, (fun _ => rfl), hr.f13, hr.f14, hr.f15, hr.f16, hr.f17, hr.f18, hr.f19, hr.f20⟩⟩ (if_pos rfl) (fun j hj => if_neg hj)
      · obtain rfl := Option.some.inj ho
        have g5 : ℓ 5 = true := hdep { on := 5, ground := Ground.guard } (by simp) rfl
        clear hdep ho
        have hx158 := hr.f5 g5
        subst hx158
        try simp only [Act.put, List.setIfInBounds_toArray, List.set_cons_zero, List.set_cons_succ]
        rw [if_pos (by rfl)]
        try simp only [Act.put, List.setIfInBounds_toArray, List.set_cons_zero, List.set_cons_succ]
        go_simp
        exact hK.out _ _ (fun j => if j = 13 then true else ℓ j) ⟨x153, x154, x155, x156, x157, .bool true, x159, x160, x161, x162, x163, x164, x165, .int .i64 c, x167, x168, x169, x170, x171, x172, x2, (by simp only [Act.put, List.setIfInBounds_toArray, List.set_cons_zero, List.set_cons_succ]), ⟨hr.gb, hr.f0, hr.f1, hr.f2, hr.f3, hr.f4, hr.f5, hr.f6, hr.f7, hr.f8, hr.f9, hr.f10, hr.f11, hr.f12, (fun _ => rfl), hr.f14, hr.f15, hr.f16, hr.f17, hr.f18, hr.f19, hr.f20⟩⟩ (if_pos rfl) (fun j hj => if_neg hj)
      · obtain rfl := Option.some.inj ho
        have g5 : ℓ 5 = true := hdep { on := 5, ground := Ground.guard } (by simp) rfl
        clear hdep ho
        have hx158 := hr.f5 g5
        subst hx158
        try simp only [Act.put, List.setIfInBounds_toArray, List.set_cons_zero, List.set_cons_succ]
        rw [if_pos (by rfl)]
        try simp only [Act.put, List.setIfInBounds_toArray, List.set_cons_zero, List.set_cons_succ]
        go_simp
        exact hK.out _ _ (fun j => if j = 14 then true else ℓ j) ⟨x153, x154, x155, x156, x157, .bool true, x159, x160, x161, x162, x163, x164, x165, x166, .int .i64 n, x168, x169, x170, x171, x172, x2, (by simp only [Act.put, List.setIfInBounds_toArray, List.set_cons_zero, List.set_cons_succ]), ⟨hr.gb, hr.f0, hr.f1, hr.f2, hr.f3, hr.f4, hr.f5, hr.f6, hr.f7, hr.f8, hr.f9, hr.f10, hr.f11, hr.f12, hr.f13, (fun _ => rfl), hr.f15, hr.f16, hr.f17, hr.f18, hr.f19, hr.f20⟩⟩ (if_pos rfl) (fun j hj => if_neg hj)
      · obtain rfl := Option.some.inj ho
        have g14 : ℓ 14 = true := hdep { on := 14, ground := Ground.data } (by simp) rfl
        have g5 : ℓ 5 = true := hdep { on := 5, ground := Ground.guard } (by simp) rfl
        clear hdep ho
        have hx167 := hr.f14 g14
        have hx158 := hr.f5 g5
        subst hx167 hx158
        try simp only [Act.put, List.setIfInBounds_toArray, List.set_cons_zero, List.set_cons_succ]
        rw [if_pos (by rfl)]
        try simp only [Act.put, List.setIfInBounds_toArray, List.set_cons_zero, List.set_cons_succ]
        go_simp
        exact hK.out _ _ (fun j => if j = 15 then true else ℓ j) ⟨x153, x154, x155, x156, x157, .bool true, x159, x160, x161, x162, x163, x164, x165, x166, .int .i64 n, .int .i64 (n + 1), x169, x170, x171, x172, x2, (by simp only [Act.put, List.setIfInBounds_toArray, List.set_cons_zero, List.set_cons_succ]), ⟨hr.gb, hr.f0, hr.f1, hr.f2, hr.f3, hr.f4, hr.f5, hr.f6, hr.f7, hr.f8, hr.f9, hr.f10, hr.f11, hr.f12, hr.f13, hr.f14, (fun _ => rfl), hr.f16, hr.f17, hr.f18, hr.f19, hr.f20⟩⟩ (if_pos rfl) (fun j hj => if_neg hj)
      · obtain rfl := Option.some.inj ho
        have g6 : ℓ 6 = true := hdep { on := 6, ground := Ground.data } (by simp) rfl
        have g12 : ℓ 12 = true := hdep { on := 12, ground := Ground.data } (by simp) rfl
        have g13 : ℓ 13 = true := hdep { on := 13, ground := Ground.data } (by simp) rfl
        have g15 : ℓ 15 = true := hdep { on := 15, ground := Ground.data } (by simp) rfl
        have g5 : ℓ 5 = true := hdep { on := 5, ground := Ground.guard } (by simp) rfl
        clear hdep ho
        have hx159 := hr.f6 g6
        have hx165 := hr.f12 g12
        have hx166 := hr.f13 g13
        have hx168 := hr.f15 g15
        have hx158 := hr.f5 g5
        subst hx159 hx165 hx166 hx168 hx158
        try simp only [Act.put, List.setIfInBounds_toArray, List.set_cons_zero, List.set_cons_succ]
        rw [if_pos (by rfl)]
        try simp only [Act.put, List.setIfInBounds_toArray, List.set_cons_zero, List.set_cons_succ]
        go_simp
        refine Calls.mono (HST.out _ hr.gb) ?_
        rintro e w9 ⟨⟨aZ, cZ, rfl⟩, hb9⟩
        exact hK.out _ _ (fun j => if j = 16 then true else ℓ j) ⟨x153, x154, x155, x156, x157, .bool true, tbV t ad, x160, x161, x162, x163, x164, .int .i64 pt, .int .i64 c, x167, .int .i64 (n + 1), .slice aZ 1 cZ, x170, x171, x172, x2, (by simp only [Act.put, List.setIfInBounds_toArray, List.set_cons_zero, List.set_cons_succ]), ⟨(hr.gb.trans (hb9.mono hr.gb.size)), hr.f0, hr.f1, hr.f2, hr.f3, hr.f4, hr.f5, hr.f6, hr.f7, hr.f8, hr.f9, hr.f10, hr.f11, hr.f12, hr.f13, hr.f14, hr.f15, (fun _ => ⟨_, _, rfl⟩), hr.f17, hr.f18, hr.f19, hr.f20⟩⟩ (if_pos rfl) (fun j hj => if_neg hj)
      · obtain rfl := Option.some.inj ho
        have g16 : ℓ 16 = true := hdep { on := 16, ground := Ground.data } (by simp) rfl
        have g5 : ℓ 5 = true := hdep { on := 5, ground := Ground.guard } (by simp) rfl
        clear hdep ho
        have hx158 := hr.f5 g5
        revert hK
        obtain ⟨aZ, cZ, hx169⟩ := hr.f16 g16
        subst hx169
        intro hK
        subst hx158
        try simp only [Act.put, List.setIfInBounds_toArray, List.set_cons_zero, List.set_cons_succ]
        rw [if_pos (by rfl)]
        try simp only [Act.put, List.setIfInBounds_toArray, List.set_cons_zero, List.set_cons_succ]
        go_simp
        exact hK.out _ _ (fun j => if j = 17 then true else ℓ j) ⟨x153, x154, x155, x156, x157, .bool true, x159, x160, x161, x162, x163, x164, x165, x166, x167, x168, .slice aZ 1 cZ, .int .i64 1, x171, x172, x2, (by simp only [Act.put, List.setIfInBounds_toArray, List.set_cons_zero, List.set_cons_succ]), ⟨hr.gb, hr.f0, hr.f1, hr.f2, hr.f3, hr.f4, hr.f5, hr.f6, hr.f7, hr.f8, hr.f9, hr.f10, hr.f11, hr.f12, hr.f13, hr.f14, hr.f15, (fun _ => ⟨_, _, rfl⟩), (fun _ => rfl), hr.f18, hr.f19, hr.f20⟩⟩ (if_pos rfl) (fun j hj => if_neg hj)
      · obtain rfl := Option.some.inj ho
        have g17 : ℓ 17 = true := hdep { on := 17, ground := Ground.data } (by simp) rfl
        have g5 : ℓ 5 = true := hdep { on := 5, ground := Ground.guard } (by simp) rfl
        clear hdep ho
        have hx170 := hr.f17 g17
        have hx158 := hr.f5 g5
        subst hx170 hx158
        try simp only [Act.put, List.setIfInBounds_toArray, List.set_cons_zero, List.set_cons_succ]
        rw [if_pos (by rfl)]
        try simp only [Act.put, List.setIfInBounds_toArray, List.set_cons_zero, List.set_cons_succ]
        go_simp
        exact hK.out _ _ (fun j => if j = 18 then true else ℓ j) ⟨x153, x154, x155, x156, x157, .bool true, x159, x160, x161, x162, x163, x164, x165, x166, x167, x168, x169, .int .i64 1, .bool true, x172, x2, (by simp only [Act.put, List.setIfInBounds_toArray, List.set_cons_zero, List.set_cons_succ]), ⟨hr.gb, hr.f0, hr.f1, hr.f2, hr.f3, hr.f4, hr.f5, hr.f6, hr.f7, hr.f8, hr.f9, hr.f10, hr.f11, hr.f12, hr.f13, hr.f14, hr.f15, hr.f16, hr.f17, (fun _ => rfl), hr.f19, hr.f20⟩⟩ (if_pos rfl) (fun j hj => if_neg hj)
      · obtain rfl := Option.some.inj ho
        have g5 : ℓ 5 = true := hdep { on := 5, ground := Ground.data } (by simp) rfl
        have g18 : ℓ 18 = true := hdep { on := 18, ground := Ground.data } (by simp) rfl
        clear hdep ho
        have hx158 := hr.f5 g5
        have hx171 := hr.f18 g18
        subst hx158 hx171
        rw [if_pos (by rfl)]
        try simp only [Act.put, List.setIfInBounds_toArray, List.set_cons_zero, List.set_cons_succ]
        go_simp
        exact hK.out _ _ (fun j => if j = 19 then true else ℓ j) ⟨x153, x154, x155, x156, x157, .bool true, x159, x160, x161, x162, x163, x164, x165, x166, x167, x168, x169, x170, .bool true, .bool true, x2, (by simp only [Act.put, List.setIfInBounds_toArray, List.set_cons_zero, List.set_cons_succ]), ⟨hr.gb, hr.f0, hr.f1, hr.f2, hr.f3, hr.f4, hr.f5, hr.f6, hr.f7, hr.f8, hr.f9, hr.f10, hr.f11, hr.f12, hr.f13, hr.f14, hr.f15, hr.f16, hr.f17, hr.f18, (fun _ => rfl), hr.f20⟩⟩ (if_pos rfl) (fun j hj => if_neg hj)
      · obtain rfl := Option.some.inj ho
        have g19 : ℓ 19 = true := hdep { on := 19, ground := Ground.data } (by simp) rfl
        clear hdep ho
        have hx172 := hr.f19 g19
        subst hx172
        rw [if_pos (by rfl)]
        try simp only [Act.put, List.setIfInBounds_toArray, List.set_cons_zero, List.set_cons_succ]
        go_simp
        exact hK.out _ _ (fun j => if j = 20 then true else ℓ j) ⟨x153, x154, x155, x156, x157, x158, x159, x160, x161, x162, x163, x164, x165, x166, x167, x168, x169, x170, x171, .bool true, .bool true, (by simp only [Act.put, List.setIfInBounds_toArray, List.set_cons_zero, List.set_cons_succ]), ⟨hr.gb, hr.f0, hr.f1, hr.f2, hr.f3, hr.f4, hr.f5, hr.f6, hr.f7, hr.f8, hr.f9, hr.f10, hr.f11, hr.f12, hr.f13, hr.f14, hr.f15, hr.f16, hr.f17, hr.f18, hr.f19, (fun _ => rfl)⟩⟩ (if_pos rfl) (fun j hj => if_neg hj)
    · rintro a' w' ℓ ℓ' hℓ hI
      rw [← show ℓ = ℓ' from funext hℓ]
      exact hI
  · have q2' := q2.symm
    subst q1 q2' q3
    clear HCC
    go_wp2_with (first | (refine wpList_load_row rfl 46 (.tmp 3) rfl N rfl 46 (tbA t ad) (0, 0) _ (HX.out _ HB3.out) Tryz.underlying46 rfl (by kernel_rfl) ?_) | fail)
    refine Calls.mono (HH1.out _ HB3.out) ?_
    rintro e w6 ⟨rfl, hb6⟩
    have HB6 : Hid (Below V.heap.size V w6) := HB3.out.trans (hb6.mono (Below.size HB3.out))
    clear hb6 HB3
    go_wp2_with (first | (refine wpList_load_rowG rfl 46 (.tmp 3) rfl N rfl 46 (tbA t ad) (0, 0) _ (HX.out _ HB6.out) Tryz.underlying46 rfl (by kernel_rfl) ?_) | fail)
    refine Calls.mono (HB2.out _ HB6.out) ?_
    rintro e w7 ⟨rfl, hb7⟩
    have HBV : Hid (Below V.heap.size V w7) := HB6.out.trans (hb7.mono (Below.size HB6.out))
    clear hb7 HB6
    have k18 : w7.cell? ⟨N, 18, none⟩ = some (.slice (some ⟨bS, oS, none⟩) ad.sn ad.sc) := TBx.cell (HX.out _ HBV.out) 18 HSA.out
    have ks0 : w7.cell? ⟨bS, oS + k * 3, none⟩ = some (.int .i64 pk) := by rw [← HPK.out]; exact (HCL.out _ HBV.out k hk).1
    have hkn : (k : Int) < (ad.sn : Int) := by omega
    have hnk : (pk != pk) = false := by simp
    go_wp2
    have hgr := gr_some w7
    have HXG : Hid (∀ X, (∃ x : Gr w7, X = x.w) → X.heap[N]? = some (.cells (tbA t ad) 46 (0, 0))) := fun X ⟨x, e⟩ => by rw [e]; exact HX.out x.w (HBV.out.trans (x.h.mono (Below.size HBV.out)))
    have HHG : Hid (∀ x : Gr w7, Calls Tryz.prog 34 #[tbV t ad, .int .i64 c] x.w fun e w' => e = .returned (.int .i64 pk) ∧ Below x.w.heap.size x.w w') := fun x => HH1.out x.w (HBV.out.trans (x.h.mono (Below.size HBV.out)))
    have G18 := fun X => gr_cell k18 X
    have GS0 := fun X => gr_cell ks0 X
    refine region_alike (by kernel_rfl) (by kernel_rfl) ?_
    repeat (first | (refine wpQuiet_load_row rfl 46 (.tmp 3) rfl N rfl 46 (tbA t ad) (0, 0) _ HXG.out Tryz.underlying46 rfl (by kernel_rfl) ?_; simp only [Act.put, List.setIfInBounds_toArray, List.set_cons_zero, List.set_cons_succ]) | go_big_quiet_step (first | (go_at_call 34; exact gr_call (HHG.out _))))
    refine wpQuiet_nil ?_
    intro _ hw'
    obtain ⟨X1, rfl⟩ := hw'
    have HB8 : Hid (Below V.heap.size V X1.w) := HBV.out.trans (X1.h.mono (Below.size HBV.out))
    generalize X1.w = w8 at HB8 ⊢
    clear HXG hgr HBV HHG HH1 HB2 k18 ks0 G18 GS0
    go_wp2_with (first | (refine wpList_load_row rfl 46 (.tmp 3) rfl N rfl 46 (tbA t ad) (0, 0) _ (HX.out _ HB8.out) Tryz.underlying46 rfl (by kernel_rfl) ?_) | fail)
    refine Calls.mono (HN1.out _ HB8.out) ?_
    rintro e w3 ⟨rfl, hb3⟩
    have HB3 : Hid (Below V.heap.size V w3) := HB8.out.trans (hb3.mono (Below.size HB8.out))
    clear hb3
    go_wp2_with (first | (refine wpList_load_row rfl 46 (.tmp 3) rfl N rfl 46 (tbA t ad) (0, 0) _ (HX.out _ HB3.out) Tryz.underlying46 rfl (by kernel_rfl) ?_) | fail)
    refine Calls.mono (HS3.out _ HB3.out) ?_
    rintro e w4 ⟨rfl, hb4⟩
    have HBV : Hid (Below V.heap.size V w4) := HB3.out.trans (hb4.mono (Below.size HB3.out))
    clear hb4 HB3
    have k14 : w4.cell? ⟨N, 14, none⟩ = some (.int .i64 t.maj) := TBx.cell (HX.out _ HBV.out) 14 rfl
    have k18 : w4.cell? ⟨N, 18, none⟩ = some (.slice (some ⟨bS, oS, none⟩) ad.sn ad.sc) := TBx.cell (HX.out _ HBV.out) 18 HSA.out
    have ks1 : w4.cell? ⟨bS, oS + i * 3 + 1, none⟩ = some (.int .i64 (n % t.maj)) := HPS.out _ HBV.out
    have hin : (i : Int) < (ad.sn : Int) := by omega
    have hnl : ¬ n < c := by omega
    have hnl' : decide (n < c) = false := decide_eq_false hnl
    have hng : ¬ c + t.maj < n := by omega
    have hng' : decide (c + t.maj < n) = false := decide_eq_false hng
    have hi0 : ¬ (i : Int) < 0 := by omega
    have hi0' : decide ((i : Int) < 0) = false := decide_eq_false hi0
    have hwm : IntKind.i64.wrap (c + t.maj) = c + t.maj := by rw [IntKind.wrap_i64]; omega
    have hmz : (t.maj == 0) = false := beq_eq_false_iff_ne.2 (by omega)
    have hmz2 : ¬ t.maj = 0 := by omega
    have htm : Int.tmod n t.maj = n % t.maj := Int.tmod_eq_emod_of_nonneg (by omega)
    have hne : ((n % t.maj) != (n % t.maj)) = false := by simp
    have hn11 : ((1 : Int) != 1) = false := by simp
    go_wp2
    have hgr := gr_some w4
    have HXG : Hid (∀ X, (∃ x : Gr w4, X = x.w) → X.heap[N]? = some (.cells (tbA t ad) 46 (0, 0))) := fun X ⟨x, e⟩ => by rw [e]; exact HX.out x.w (HBV.out.trans (x.h.mono (Below.size HBV.out)))
    have G14 := fun X => gr_cell k14 X
    have G18 := fun X => gr_cell k18 X
    have GS1 := fun X => gr_cell ks1 X
    have HPG : Hid (∀ x : Gr w4, Calls Tryz.prog 31 #[tbV t ad, .int .i64 n] x.w fun e w' => e = .returned (.int .i64 1) ∧ Below x.w.heap.size x.w w') := fun x => HP4.out x.w (HBV.out.trans (x.h.mono (Below.size HBV.out)))
    refine region_alike (by kernel_rfl) (by kernel_rfl) ?_
    repeat (first | (refine wpQuiet_load_row rfl 46 (.tmp 3) rfl N rfl 46 (tbA t ad) (0, 0) _ HXG.out Tryz.underlying46 rfl (by kernel_rfl) ?_; simp only [Act.put, List.setIfInBounds_toArray, List.set_cons_zero, List.set_cons_succ]) | go_big_quiet_step (first | (go_at_call 31; exact gr_call (HPG.out _))))
    refine wpQuiet_nil ?_
    intro _ hw'
    obtain ⟨X1, rfl⟩ := hw'
    have HBR0 : Hid (Below V.heap.size V X1.w) := HBV.out.trans (X1.h.mono (Below.size HBV.out))
    generalize X1.w = VR at HBR0 ⊢
    clear k14 k18 ks1 G14 G18 GS1 HPG HXG hgr HBV hwm hmz hmz2 htm hne hn11 hnl hng hi0 hnl' hng' hi0'
    go_wp2
    have HXR : Hid (∀ X, Below VR.heap.size VR X → X.heap[N]? = some (.cells (tbA t ad) 46 (0, 0))) := fun X hX => HX.out X (HBR0.out.trans (hX.mono (Below.size HBR0.out)))
    have HPT : Hid (∀ X, Below VR.heap.size VR X → X.cell? ⟨bS, oS + i * 3, none⟩ = some (.int .i64 pt)) := fun X hX => HPP.out X (HBR0.out.trans (hX.mono (Below.size HBR0.out)))
    have HN2 : Hid (∀ X, Below VR.heap.size VR X → Calls Tryz.prog 36 #[tbV t ad, .int .i64 n] X fun e w' => e = .returned (.int .i64 n) ∧ Below X.heap.size X w') := fun X hX => HN4.out X (HBR0.out.trans (hX.mono (Below.size HBR0.out)))
    have HST : Hid (∀ X, Below VR.heap.size VR X → Calls Tryz.prog 30 #[tbV t ad, .int .i64 pt, .int .i64 c, .int .i64 (n + 1)] X fun e w' => (∃ b cc, e = .returned (.slice b 1 cc)) ∧ Below X.heap.size X w') := fun X hX => HS4.out X (HBR0.out.trans (hX.mono (Below.size HBR0.out)))
    have HBR : Hid (Below w.heap.size w VR) := HB1.out.trans (HBR0.out.mono (Below.size HB1.out))
    have hnn : (n == n) = true := by simp
    have hw1 : IntKind.i64.wrap (n + 1) = n + 1 := by rw [IntKind.wrap_i64]; omega
    have h11 : ((1 : Int) == 1) = true := by simp
    clear HX HBR0 HN1 HS3 HP4 HN4 HS4 HPP HPS
    refine wp_region_inv (by kernel_rfl) (by kernel_rfl) (fun AC ℓ a' w' => ∃ (x153 x154 x155 x156 x157 x158 x159 x160 x161 x162 x163 x164 x165 x166 x167 x168 x169 x170 x171 x172 x2 : Value), a' = (((((((((((((((((((((AC.put (some 153) x153).put (some 154) x154).put (some 155) x155).put (some 156) x156).put (some 157) x157).put (some 158) x158).put (some 159) x159).put (some 160) x160).put (some 161) x161).put (some 162) x162).put (some 163) x163).put (some 164) x164).put (some 165) x165).put (some 166) x166).put (some 167) x167).put (some 168) x168).put (some 169) x169).put (some 170) x170).put (some 171) x171).put (some 172) x172).put (some 2) x2) ∧ R18 VR w' t ad N bS oS i n c pt (ℓ 0) (ℓ 1) (ℓ 2) (ℓ 3) (ℓ 4) (ℓ 5) (ℓ 6) (ℓ 7) (ℓ 8) (ℓ 9) (ℓ 10) (ℓ 11) (ℓ 12) (ℓ 13) (ℓ 14) (ℓ 15) (ℓ 16) (ℓ 17) (ℓ 18) (ℓ 19) (ℓ 20) x153 x154 x155 x156 x157 x158 x159 x160 x161 x162 x163 x164 x165 x166 x167 x168 x169 x170 x171 x172 x2) ?_ ?_ ?_ ?_
    · exact ⟨undef, undef, undef, undef, undef, undef, undef, undef, undef, undef, undef, undef, undef, undef, undef, undef, undef, undef, undef, undef, .bool false, (by simp only [Act.put, List.setIfInBounds_toArray, List.set_cons_zero, List.set_cons_succ]), ⟨(Below.refl _ _).drew, (fun g => by cases g), (fun g => by cases g), (fun g => by cases g), (fun g => by cases g), (fun g => by cases g), (fun g => by cases g), (fun g => by cases g), (fun g => by cases g), (fun g => by cases g), (fun g => by cases g), (fun g => by cases g), (fun g => by cases g), (fun g => by cases g), (fun g => by cases g), (fun g => by cases g), (fun g => by cases g), (fun g => by cases g), (fun g => by cases g), (fun g => by cases g), (fun g => by cases g), (fun g => by cases g)⟩⟩
    · intro ℓ a' w9 hI hall
      obtain ⟨x153, x154, x155, x156, x157, x158, x159, x160, x161, x162, x163, x164, x165, x166, x167, x168, x169, x170, x171, x172, x2, rfl, hr⟩ := hI
      have hall' : ∀ i, i < 21 → ℓ i = true := hall
      obtain rfl := hr.f20 (hall' 20 (by omega))
      have HE : Hid (Below w.heap.size w w9) := HBR.out.trans (hr.gb.mono HBR.out.size)
      clear hr hall hall'
      simp only [Act.put, List.setIfInBounds_toArray, List.set_cons_zero, List.set_cons_succ]
      go_wp2
      go_ret
      exact ⟨rfl, HE.out⟩
    · intro ℓ a' w' ii o hI ho hi hL hdep K hK
      obtain ⟨x153, x154, x155, x156, x157, x158, x159, x160, x161, x162, x163, x164, x165, x166, x167, x168, x169, x170, x171, x172, x2, rfl, hr⟩ := hI
      have hi7 : ii < 21 := hi
      have hcs : ii = 0 ∨ ii = 1 ∨ ii = 2 ∨ ii = 3 ∨ ii = 4 ∨ ii = 5 ∨ ii = 6 ∨ ii = 7 ∨ ii = 8 ∨ ii = 9 ∨ ii = 10 ∨ ii = 11 ∨ ii = 12 ∨ ii = 13 ∨ ii = 14 ∨ ii = 15 ∨ ii = 16 ∨ ii = 17 ∨ ii = 18 ∨ ii = 19 ∨ ii = 20 := by omega
      clear hi hi7
      rcases hcs with rfl | rfl | rfl | rfl | rfl | rfl | rfl | rfl | rfl | rfl | rfl | rfl | rfl | rfl | rfl | rfl | rfl | rfl | rfl | rfl | rfl
      · replace ho : some ({ dst := some 153, op := .load 46 (.tmp 3), type := 46, pos := "laws.go:1185", after := #[], guard := none } : Oper) = some o := ho
        obtain rfl := Option.some.inj ho
        clear hdep ho
        rw [if_pos (by rfl)]
        try simp only [Act.put, List.setIfInBounds_toArray, List.set_cons_zero, List.set_cons_succ]
        refine wp_load_row (P := Tryz.prog) 46 (.tmp 3) rfl N rfl 46 (tbA t ad) (0, 0) _ (HXR.out _ hr.gb) Tryz.underlying46 rfl (by kernel_rfl) ?_
        exact hK.out _ _ (fun j => if j = 0 then true else ℓ j) ⟨tbV t ad, x154, x155, x156, x157, x158, x159, x160, x161, x162, x163, x164, x165, x166, x167, x168, x169, x170, x171, x172, x2, (by simp only [Act.put, List.setIfInBounds_toArray, List.set_cons_zero, List.set_cons_succ]), ⟨hr.gb, (fun _ => rfl), hr.f1, hr.f2, hr.f3, hr.f4, hr.f5, hr.f6, hr.f7, hr.f8, hr.f9, hr.f10, hr.f11, hr.f12, hr.f13, hr.f14, hr.f15, hr.f16, hr.f17, hr.f18, hr.f19, hr.f20⟩⟩ (if_pos rfl) (fun j hj => if_neg hj)
      · obtain rfl := Option.some.inj ho
        clear hdep ho
        rw [if_pos (by rfl)]
        try simp only [Act.put, List.setIfInBounds_toArray, List.set_cons_zero, List.set_cons_succ]
        go_simp
        exact hK.out _ _ (fun j => if j = 1 then true else ℓ j) ⟨x153, .int .i64 n, x155, x156, x157, x158, x159, x160, x161, x162, x163, x164, x165, x166, x167, x168, x169, x170, x171, x172, x2, (by simp only [Act.put, List.setIfInBounds_toArray, List.set_cons_zero, List.set_cons_succ]), ⟨hr.gb, hr.f0, (fun _ => rfl), hr.f2, hr.f3, hr.f4, hr.f5, hr.f6, hr.f7, hr.f8, hr.f9, hr.f10, hr.f11, hr.f12, hr.f13, hr.f14, hr.f15, hr.f16, hr.f17, hr.f18, hr.f19, hr.f20⟩⟩ (if_pos rfl) (fun j hj => if_neg hj)
      · obtain rfl := Option.some.inj ho
        have g0 : ℓ 0 = true := hdep { on := 0, ground := Ground.data } (by simp) rfl
        have g1 : ℓ 1 = true := hdep { on := 1, ground := Ground.data } (by simp) rfl
        clear hdep ho
        have hx153 := hr.f0 g0
        have hx154 := hr.f1 g1
        subst hx153 hx154
        rw [if_pos (by rfl)]
        try simp only [Act.put, List.setIfInBounds_toArray, List.set_cons_zero, List.set_cons_succ]
        go_simp
        refine Calls.mono (HN2.out _ hr.gb) ?_
        rintro e w9 ⟨rfl, hb9⟩
        exact hK.out _ _ (fun j => if j = 2 then true else ℓ j) ⟨tbV t ad, .int .i64 n, .int .i64 n, x156, x157, x158, x159, x160, x161, x162, x163, x164, x165, x166, x167, x168, x169, x170, x171, x172, x2, (by simp only [Act.put, List.setIfInBounds_toArray, List.set_cons_zero, List.set_cons_succ]), ⟨(hr.gb.trans (hb9.mono hr.gb.size)), hr.f0, hr.f1, (fun _ => rfl), hr.f3, hr.f4, hr.f5, hr.f6, hr.f7, hr.f8, hr.f9, hr.f10, hr.f11, hr.f12, hr.f13, hr.f14, hr.f15, hr.f16, hr.f17, hr.f18, hr.f19, hr.f20⟩⟩ (if_pos rfl) (fun j hj => if_neg hj)
      · obtain rfl := Option.some.inj ho
        clear hdep ho
        rw [if_pos (by rfl)]
        try simp only [Act.put, List.setIfInBounds_toArray, List.set_cons_zero, List.set_cons_succ]
        go_simp
        exact hK.out _ _ (fun j => if j = 3 then true else ℓ j) ⟨x153, x154, x155, .int .i64 n, x157, x158, x159, x160, x161, x162, x163, x164, x165, x166, x167, x168, x169, x170, x171, x172, x2, (by simp only [Act.put, List.setIfInBounds_toArray, List.set_cons_zero, List.set_cons_succ]), ⟨hr.gb, hr.f0, hr.f1, hr.f2, (fun _ => rfl), hr.f4, hr.f5, hr.f6, hr.f7, hr.f8, hr.f9, hr.f10, hr.f11, hr.f12, hr.f13, hr.f14, hr.f15, hr.f16, hr.f17, hr.f18, hr.f19, hr.f20⟩⟩ (if_pos rfl) (fun j hj => if_neg hj)
      · obtain rfl := Option.some.inj ho
        have g2 : ℓ 2 = true := hdep { on := 2, ground := Ground.data } (by simp) rfl
        have g3 : ℓ 3 = true := hdep { on := 3, ground := Ground.data } (by simp) rfl
        clear hdep ho
        have hx155 := hr.f2 g2
        have hx156 := hr.f3 g3
        subst hx155 hx156
        rw [if_pos (by rfl)]
        try simp only [Act.put, List.setIfInBounds_toArray, List.set_cons_zero, List.set_cons_succ]
        go_simp
        exact hK.out _ _ (fun j => if j = 4 then true else ℓ j) ⟨x153, x154, .int .i64 n, .int .i64 n, .bool true, x158, x159, x160, x161, x162, x163, x164, x165, x166, x167, x168, x169, x170, x171, x172, x2, (by simp only [Act.put, List.setIfInBounds_toArray, List.set_cons_zero, List.set_cons_succ]), ⟨hr.gb, hr.f0, hr.f1, hr.f2, hr.f3, (fun _ => rfl), hr.f5, hr.f6, hr.f7, hr.f8, hr.f9, hr.f10, hr.f11, hr.f12, hr.f13, hr.f14, hr.f15, hr.f16, hr.f17, hr.f18, hr.f19, hr.f20⟩⟩ (if_pos rfl) (fun j hj => if_neg hj)
      · obtain rfl := Option.some.inj ho
        have g4 : ℓ 4 = true := hdep { on := 4, ground := Ground.data } (by simp) rfl
        clear hdep ho
        have hx157 := hr.f4 g4
        subst hx157
        rw [if_pos (by rfl)]
        try simp only [Act.put, List.setIfInBounds_toArray, List.set_cons_zero, List.set_cons_succ]
        go_simp
        exact hK.out _ _ (fun j => if j = 5 then true else ℓ j) ⟨x153, x154, x155, x156, .bool true, .bool true, x159, x160, x161, x162, x163, x164, x165, x166, x167, x168, x169, x170, x171, x172, x2, (by simp only [Act.put, List.setIfInBounds_toArray, List.set_cons_zero, List.set_cons_succ]), ⟨hr.gb, hr.f0, hr.f1, hr.f2, hr.f3, hr.f4, (fun _ => rfl), hr.f6, hr.f7, hr.f8, hr.f9, hr.f10, hr.f11, hr.f12, hr.f13, hr.f14, hr.f15, hr.f16, hr.f17, hr.f18, hr.f19, hr.f20⟩⟩ (if_pos rfl) (fun j hj => if_neg hj)
      · replace ho : some ({ dst := some 159, op := .load 46 (.tmp 3), type := 46, pos := "laws.go:1185", after := #[{ on := 5, ground := Ground.guard }], guard := some (5, true) } : Oper) = some o := ho
        obtain rfl := Option.some.inj ho
        have g5 : ℓ 5 = true := hdep { on := 5, ground := Ground.guard } (by simp) rfl
        clear hdep ho
        have hx158 := hr.f5 g5
        subst hx158
        try simp only [Act.put, List.setIfInBounds_toArray, List.set_cons_zero, List.set_cons_succ]
        rw [if_pos (by rfl)]
        try simp only [Act.put, List.setIfInBounds_toArray, List.set_cons_zero, List.set_cons_succ]
        refine wp_load_row (P := Tryz.prog) 46 (.tmp 3) rfl N rfl 46 (tbA t ad) (0, 0) _ (HXR.out _ hr.gb) Tryz.underlying46 rfl (by kernel_rfl) ?_
        exact hK.out _ _ (fun j => if j = 6 then true else ℓ j) ⟨x153, x154, x155, x156, x157, .bool true, tbV t ad, x160, x161, x162, x163, x164, x165, x166, x167, x168, x169, x170, x171, x172, x2, (by simp only [Act.put, List.setIfInBounds_toArray, List.set_cons_zero, List.set_cons_succ]), ⟨hr.gb, hr.f0, hr.f1, hr.f2, hr.f3, hr.f4, hr.f5, (fun _ => rfl), hr.f7, hr.f8, hr.f9, hr.f10, hr.f11, hr.f12, hr.f13, hr.f14, hr.f15, hr.f16, hr.f17, hr.f18, hr.f19, hr.f20⟩⟩ (if_pos rfl) (fun j hj => if_neg hj)
      · obtain rfl := Option.some.inj ho
        have g5 : ℓ 5 = true := hdep { on := 5, ground := Ground.guard } (by simp) rfl
        clear hdep ho
        have hx158 := hr.f5 g5
        subst hx158
        try simp only [Act.put, List.setIfInBounds_toArray, List.set_cons_zero, List.set_cons_succ]
        rw [if_pos (by rfl)]
        try simp only [Act.put, List.setIfInBounds_toArray, List.set_cons_zero, List.set_cons_succ]
        go_simp
        exact hK.out _ _ (fun j => if j = 7 then true else ℓ j) ⟨x153, x154, x155, x156, x157, .bool true, x159, .pointer (some ⟨N, 18, none⟩), x161, x162, x163, x164, x165, x166, x167, x168, x169, x170, x171, x172, x2, (by simp only [Act.put, List.setIfInBounds_toArray, List.set_cons_zero, List.set_cons_succ]), ⟨hr.gb, hr.f0, hr.f1, hr.f2, hr.f3, hr.f4, hr.f5, hr.f6, (fun _ => rfl), hr.f8, hr.f9, hr.f10, hr.f11, hr.f12, hr.f13, hr.f14, hr.f15, hr.f16, hr.f17, hr.f18, hr.f19, hr.f20⟩⟩ (if_pos rfl) (fun j hj => if_neg hj)
      · obtain rfl := Option.some.inj ho
        have g7 : ℓ 7 = true := hdep { on := 7, ground := Ground.data } (by simp) rfl
        have g5 : ℓ 5 = true := hdep { on := 5, ground := Ground.guard } (by simp) rfl
        clear hdep ho
        have hx160 := hr.f7 g7
        have hx158 := hr.f5 g5
        subst hx160 hx158
        have cc : w'.cell? ⟨N, 18, none⟩ = some (.slice (some ⟨bS, oS, none⟩) ad.sn ad.sc) := TBx.cell (HXR.out _ hr.gb) 18 HSA.out
        try simp only [Act.put, List.setIfInBounds_toArray, List.set_cons_zero, List.set_cons_succ]
        rw [if_pos (by rfl)]
        try simp only [Act.put, List.setIfInBounds_toArray, List.set_cons_zero, List.set_cons_succ]
        go_simp
        exact hK.out _ _ (fun j => if j = 8 then true else ℓ j) ⟨x153, x154, x155, x156, x157, .bool true, x159, .pointer (some ⟨N, 18, none⟩), .slice (some ⟨bS, oS, none⟩) ad.sn ad.sc, x162, x163, x164, x165, x166, x167, x168, x169, x170, x171, x172, x2, (by simp only [Act.put, List.setIfInBounds_toArray, List.set_cons_zero, List.set_cons_succ]), ⟨hr.gb, hr.f0, hr.f1, hr.f2, hr.f3, hr.f4, hr.f5, hr.f6, hr.f7, (fun _ => rfl), hr.f9, hr.f10, hr.f11, hr.f12, hr.f13, hr.f14, hr.f15, hr.f16, hr.f17, hr.f18, hr.f19, hr.f20⟩⟩ (if_pos rfl) (fun j hj => if_neg hj)
      · obtain rfl := Option.some.inj ho
        have g5 : ℓ 5 = true := hdep { on := 5, ground := Ground.guard } (by simp) rfl
        clear hdep ho
        have hx158 := hr.f5 g5
        subst hx158
        try simp only [Act.put, List.setIfInBounds_toArray, List.set_cons_zero, List.set_cons_succ]
        rw [if_pos (by rfl)]
        try simp only [Act.put, List.setIfInBounds_toArray, List.set_cons_zero, List.set_cons_succ]
        go_simp
        exact hK.out _ _ (fun j => if j = 9 then true else ℓ j) ⟨x153, x154, x155, x156, x157, .bool true, x159, x160, x161, .int .i64 (i : Int), x163, x164, x165, x166, x167, x168, x169, x170, x171, x172, x2, (by simp only [Act.put, List.setIfInBounds_toArray, List.set_cons_zero, List.set_cons_succ]), ⟨hr.gb, hr.f0, hr.f1, hr.f2, hr.f3, hr.f4, hr.f5, hr.f6, hr.f7, hr.f8, (fun _ => rfl), hr.f10, hr.f11, hr.f12, hr.f13, hr.f14, hr.f15, hr.f16, hr.f17, hr.f18, hr.f19, hr.f20⟩⟩ (if_pos rfl) (fun j hj => if_neg hj)
      · obtain rfl := Option.some.inj ho
        have g8 : ℓ 8 = true := hdep { on := 8, ground := Ground.data } (by simp) rfl
        have g9 : ℓ 9 = true := hdep { on := 9, ground := Ground.data } (by simp) rfl
        have g5 : ℓ 5 = true := hdep { on := 5, ground := Ground.guard } (by simp) rfl
        clear hdep ho
        have hx161 := hr.f8 g8
        have hx162 := hr.f9 g9
        have hx158 := hr.f5 g5
        subst hx161 hx162 hx158
        try simp only [Act.put, List.setIfInBounds_toArray, List.set_cons_zero, List.set_cons_succ]
        rw [if_pos (by rfl)]
        try simp only [Act.put, List.setIfInBounds_toArray, List.set_cons_zero, List.set_cons_succ]
        go_simp
        exact hK.out _ _ (fun j => if j = 10 then true else ℓ j) ⟨x153, x154, x155, x156, x157, .bool true, x159, x160, .slice (some ⟨bS, oS, none⟩) ad.sn ad.sc, .int .i64 (i : Int), .pointer (some ⟨bS, oS + i * 3, none⟩), x164, x165, x166, x167, x168, x169, x170, x171, x172, x2, (by simp only [Act.put, List.setIfInBounds_toArray, List.set_cons_zero, List.set_cons_succ]), ⟨hr.gb, hr.f0, hr.f1, hr.f2, hr.f3, hr.f4, hr.f5, hr.f6, hr.f7, hr.f8, hr.f9, (fun _ => rfl), hr.f11, hr.f12, hr.f13, hr.f14, hr.f15, hr.f16, hr.f17, hr.f18, hr.f19, hr.f20⟩⟩ (if_pos rfl) (fun j hj => if_neg hj)
      · obtain rfl := Option.some.inj ho
        have g10 : ℓ 10 = true := hdep { on := 10, ground := Ground.data } (by simp) rfl
        have g5 : ℓ 5 = true := hdep { on := 5, ground := Ground.guard } (by simp) rfl
        clear hdep ho
        have hx163 := hr.f10 g10
        have hx158 := hr.f5 g5
        subst hx163 hx158
        try simp only [Act.put, List.setIfInBounds_toArray, List.set_cons_zero, List.set_cons_succ]
        rw [if_pos (by rfl)]
        try simp only [Act.put, List.setIfInBounds_toArray, List.set_cons_zero, List.set_cons_succ]
        go_simp
        exact hK.out _ _ (fun j => if j = 11 then true else ℓ j) ⟨x153, x154, x155, x156, x157, .bool true, x159, x160, x161, x162, .pointer (some ⟨bS, oS + i * 3, none⟩), .pointer (some ⟨bS, oS + i * 3, none⟩), x165, x166, x167, x168, x169, x170, x171, x172, x2, (by simp only [Act.put, List.setIfInBounds_toArray, List.set_cons_zero, List.set_cons_succ]), ⟨hr.gb, hr.f0, hr.f1, hr.f2, hr.f3, hr.f4, hr.f5, hr.f6, hr.f7, hr.f8, hr.f9, hr.f10, (fun _ => rfl), hr.f12, hr.f13, hr.f14, hr.f15, hr.f16, hr.f17, hr.f18, hr.f19, hr.f20⟩⟩ (if_pos rfl) (fun j hj => if_neg hj)
      · obtain rfl := Option.some.inj ho
        have g11 : ℓ 11 = true := hdep { on := 11, ground := Ground.data } (by simp) rfl
        have g5 : ℓ 5 = true := hdep { on := 5, ground := Ground.guard } (by simp) rfl
        clear hdep ho
        have hx164 := hr.f11 g11
        have hx158 := hr.f5 g5
        subst hx164 hx158
        have cc := HPT.out _ hr.gb
        try simp only [Act.put, List.setIfInBounds_toArray, List.set_cons_zero, List.set_cons_succ]
        rw [if_pos (by rfl)]
        try simp only [Act.put, List.setIfInBounds_toArray, List.set_cons_zero, List.set_cons_succ]
        go_simp
        exact hK.out _ _ (fun j => if j = 12 then true else ℓ j) ⟨x153, x154, x155, x156, x157, .bool true, x159, x160, x161, x162, x163, .pointer (some ⟨bS, oS + i * 3, none⟩), .int .i64 pt, x166, x167, x168, x169, x170, x171, x172, x2, (by simp only [Act.put, List.setIfInBounds_toArray, List.set_cons_zero, List.set_cons_succ]), ⟨hr.gb, hr.f0, hr.f1, hr.f2, hr.f3, hr.f4, hr.f5, hr.f6, hr.f7, hr.f8, hr.f9, hr.f10, hr.f11, (fun _ => rfl), hr.f13, hr.f14, hr.f15, hr.f16, hr.f17, hr.f18, hr.f19, hr.f20⟩⟩ (if_pos rfl) (fun j hj => if_neg hj)
      · obtain rfl := Option.some.inj ho
        have g5 : ℓ 5 = true := hdep { on := 5, ground := Ground.guard } (by simp) rfl
        clear hdep ho
        have hx158 := hr.f5 g5
        subst hx158
        try simp only [Act.put, List.setIfInBounds_toArray, List.set_cons_zero, List.set_cons_succ]
        rw [if_pos (by rfl)]
        try simp only [Act.put, List.setIfInBounds_toArray, List.set_cons_zero, List.set_cons_succ]
        go_simp
        exact hK.out _ _ (fun j => if j = 13 then true else ℓ j) ⟨x153, x154, x155, x156, x157, .bool true, x159, x160, x161, x162, x163, x164, x165, .int .i64 c, x167, x168, x169, x170, x171, x172, x2, (by simp only [Act.put, List.setIfInBounds_toArray, List.set_cons_zero, List.set_cons_succ]), ⟨hr.gb, hr.f0, hr.f1, hr.f2, hr.f3, hr.f4, hr.f5, hr.f6, hr.f7, hr.f8, hr.f9, hr.f10, hr.f11, hr.f12, (fun _ => rfl), hr.f14, hr.f15, hr.f16, hr.f17, hr.f18, hr.f19, hr.f20⟩⟩ (if_pos rfl) (fun j hj => if_neg hj)
      · obtain rfl := Option.some.inj ho
        have g5 : ℓ 5 = true := hdep { on := 5, ground := Ground.guard } (by simp) rfl
        clear hdep ho
        have hx158 := hr.f5 g5
        subst hx158
        try simp only [Act.put, List.setIfInBounds_toArray, List.set_cons_zero, List.set_cons_succ]
        rw [if_pos (by rfl)]
        try simp only [Act.put, List.setIfInBounds_toArray, List.set_cons_zero, List.set_cons_succ]
        go_simp
        exact hK.out _ _ (fun j => if j = 14 then true else ℓ j) ⟨x153, x154, x155, x156, x157, .bool true, x159, x160, x161, x162, x163, x164, x165, x166, .int .i64 n, x168, x169, x170, x171, x172, x2, (by simp only [Act.put, List.setIfInBounds_toArray, List.set_cons_zero, List.set_cons_succ]), ⟨hr.gb, hr.f0, hr.f1, hr.f2, hr.f3, hr.f4, hr.f5, hr.f6, hr.f7, hr.f8, hr.f9, hr.f10, hr.f11, hr.f12, hr.f13, (fun _ => rfl), hr.f15, hr.f16, hr.f17, hr.f18, hr.f19, hr.f20⟩⟩ (if_pos rfl) (fun j hj => if_neg hj)
      · obtain rfl := Option.some.inj ho
        have g14 : ℓ 14 = true := hdep { on := 14, ground := Ground.data } (by simp) rfl
        have g5 : ℓ 5 = true := hdep { on := 5, ground := Ground.guard } (by simp) rfl
        clear hdep ho
        have hx167 := hr.f14 g14
        have hx158 := hr.f5 g5
        subst hx167 hx158
        try simp only [Act.put, List.setIfInBounds_toArray, List.set_cons_zero, List.set_cons_succ]
        rw [if_pos (by rfl)]
        try simp only [Act.put, List.setIfInBounds_toArray, List.set_cons_zero, List.set_cons_succ]
        go_simp
        exact hK.out _ _ (fun j => if j = 15 then true else ℓ j) ⟨x153, x154, x155, x156, x157, .bool true, x159, x160, x161, x162, x163, x164, x165, x166, .int .i64 n, .int .i64 (n + 1), x169, x170, x171, x172, x2, (by simp only [Act.put, List.setIfInBounds_toArray, List.set_cons_zero, List.set_cons_succ]), ⟨hr.gb, hr.f0, hr.f1, hr.f2, hr.f3, hr.f4, hr.f5, hr.f6, hr.f7, hr.f8, hr.f9, hr.f10, hr.f11, hr.f12, hr.f13, hr.f14, (fun _ => rfl), hr.f16, hr.f17, hr.f18, hr.f19, hr.f20⟩⟩ (if_pos rfl) (fun j hj => if_neg hj)
      · obtain rfl := Option.some.inj ho
        have g6 : ℓ 6 = true := hdep { on := 6, ground := Ground.data } (by simp) rfl
        have g12 : ℓ 12 = true := hdep { on := 12, ground := Ground.data } (by simp) rfl
        have g13 : ℓ 13 = true := hdep { on := 13, ground := Ground.data } (by simp) rfl
        have g15 : ℓ 15 = true := hdep { on := 15, ground := Ground.data } (by simp) rfl
        have g5 : ℓ 5 = true := hdep { on := 5, ground := Ground.guard } (by simp) rfl
        clear hdep ho
        have hx159 := hr.f6 g6
        have hx165 := hr.f12 g12
        have hx166 := hr.f13 g13
        have hx168 := hr.f15 g15
        have hx158 := hr.f5 g5
        subst hx159 hx165 hx166 hx168 hx158
        try simp only [Act.put, List.setIfInBounds_toArray, List.set_cons_zero, List.set_cons_succ]
        rw [if_pos (by rfl)]
        try simp only [Act.put, List.setIfInBounds_toArray, List.set_cons_zero, List.set_cons_succ]
        go_simp
        refine Calls.mono (HST.out _ hr.gb) ?_
        rintro e w9 ⟨⟨aZ, cZ, rfl⟩, hb9⟩
        exact hK.out _ _ (fun j => if j = 16 then true else ℓ j) ⟨x153, x154, x155, x156, x157, .bool true, tbV t ad, x160, x161, x162, x163, x164, .int .i64 pt, .int .i64 c, x167, .int .i64 (n + 1), .slice aZ 1 cZ, x170, x171, x172, x2, (by simp only [Act.put, List.setIfInBounds_toArray, List.set_cons_zero, List.set_cons_succ]), ⟨(hr.gb.trans (hb9.mono hr.gb.size)), hr.f0, hr.f1, hr.f2, hr.f3, hr.f4, hr.f5, hr.f6, hr.f7, hr.f8, hr.f9, hr.f10, hr.f11, hr.f12, hr.f13, hr.f14, hr.f15, (fun _ => ⟨_, _, rfl⟩), hr.f17, hr.f18, hr.f19, hr.f20⟩⟩ (if_pos rfl) (fun j hj => if_neg hj)
      · obtain rfl := Option.some.inj ho
        have g16 : ℓ 16 = true := hdep { on := 16, ground := Ground.data } (by simp) rfl
        have g5 : ℓ 5 = true := hdep { on := 5, ground := Ground.guard } (by simp) rfl
        clear hdep ho
        have hx158 := hr.f5 g5
        revert hK
        obtain ⟨aZ, cZ, hx169⟩ := hr.f16 g16
        subst hx169
        intro hK
        subst hx158
        try simp only [Act.put, List.setIfInBounds_toArray, List.set_cons_zero, List.set_cons_succ]
        rw [if_pos (by rfl)]
        try simp only [Act.put, List.setIfInBounds_toArray, List.set_cons_zero, List.set_cons_succ]
        go_simp
        exact hK.out _ _ (fun j => if j = 17 then true else ℓ j) ⟨x153, x154, x155, x156, x157, .bool true, x159, x160, x161, x162, x163, x164, x165, x166, x167, x168, .slice aZ 1 cZ, .int .i64 1, x171, x172, x2, (by simp only [Act.put, List.setIfInBounds_toArray, List.set_cons_zero, List.set_cons_succ]), ⟨hr.gb, hr.f0, hr.f1, hr.f2, hr.f3, hr.f4, hr.f5, hr.f6, hr.f7, hr.f8, hr.f9, hr.f10, hr.f11, hr.f12, hr.f13, hr.f14, hr.f15, (fun _ => ⟨_, _, rfl⟩), (fun _ => rfl), hr.f18, hr.f19, hr.f20⟩⟩ (if_pos rfl) (fun j hj => if_neg hj)
      · obtain rfl := Option.some.inj ho
        have g17 : ℓ 17 = true := hdep { on := 17, ground := Ground.data } (by simp) rfl
        have g5 : ℓ 5 = true := hdep { on := 5, ground := Ground.guard } (by simp) rfl
        clear hdep ho
        have hx170 := hr.f17 g17
        have hx158 := hr.f5 g5
        subst hx170 hx158
        try simp only [Act.put, List.setIfInBounds_toArray, List.set_cons_zero, List.set_cons_succ]
        rw [if_pos (by rfl)]
        try simp only [Act.put, List.setIfInBounds_toArray, List.set_cons_zero, List.set_cons_succ]
        go_simp
        exact hK.out _ _ (fun j => if j = 18 then true else ℓ j) ⟨x153, x154, x155, x156, x157, .bool true, x159, x160, x161, x162, x163, x164, x165, x166, x167, x168, x169, .int .i64 1, .bool true, x172, x2, (by simp only [Act.put, List.setIfInBounds_toArray, List.set_cons_zero, List.set_cons_succ]), ⟨hr.gb, hr.f0, hr.f1, hr.f2, hr.f3, hr.f4, hr.f5, hr.f6, hr.f7, hr.f8, hr.f9, hr.f10, hr.f11, hr.f12, hr.f13, hr.f14, hr.f15, hr.f16, hr.f17, (fun _ => rfl), hr.f19, hr.f20⟩⟩ (if_pos rfl) (fun j hj => if_neg hj)
      · obtain rfl := Option.some.inj ho
        have g5 : ℓ 5 = true := hdep { on := 5, ground := Ground.data } (by simp) rfl
        have g18 : ℓ 18 = true := hdep { on := 18, ground := Ground.data } (by simp) rfl
        clear hdep ho
        have hx158 := hr.f5 g5
        have hx171 := hr.f18 g18
        subst hx158 hx171
        rw [if_pos (by rfl)]
        try simp only [Act.put, List.setIfInBounds_toArray, List.set_cons_zero, List.set_cons_succ]
        go_simp
        exact hK.out _ _ (fun j => if j = 19 then true else ℓ j) ⟨x153, x154, x155, x156, x157, .bool true, x159, x160, x161, x162, x163, x164, x165, x166, x167, x168, x169, x170, .bool true, .bool true, x2, (by simp only [Act.put, List.setIfInBounds_toArray, List.set_cons_zero, List.set_cons_succ]), ⟨hr.gb, hr.f0, hr.f1, hr.f2, hr.f3, hr.f4, hr.f5, hr.f6, hr.f7, hr.f8, hr.f9, hr.f10, hr.f11, hr.f12, hr.f13, hr.f14, hr.f15, hr.f16, hr.f17, hr.f18, (fun _ => rfl), hr.f20⟩⟩ (if_pos rfl) (fun j hj => if_neg hj)
      · obtain rfl := Option.some.inj ho
        have g19 : ℓ 19 = true := hdep { on := 19, ground := Ground.data } (by simp) rfl
        clear hdep ho
        have hx172 := hr.f19 g19
        subst hx172
        rw [if_pos (by rfl)]
        try simp only [Act.put, List.setIfInBounds_toArray, List.set_cons_zero, List.set_cons_succ]
        go_simp
        exact hK.out _ _ (fun j => if j = 20 then true else ℓ j) ⟨x153, x154, x155, x156, x157, x158, x159, x160, x161, x162, x163, x164, x165, x166, x167, x168, x169, x170, x171, .bool true, .bool true, (by simp only [Act.put, List.setIfInBounds_toArray, List.set_cons_zero, List.set_cons_succ]), ⟨hr.gb, hr.f0, hr.f1, hr.f2, hr.f3, hr.f4, hr.f5, hr.f6, hr.f7, hr.f8, hr.f9, hr.f10, hr.f11, hr.f12, hr.f13, hr.f14, hr.f15, hr.f16, hr.f17, hr.f18, hr.f19, (fun _ => rfl)⟩⟩ (if_pos rfl) (fun j hj => if_neg hj)
    · rintro a' w' ℓ ℓ' hℓ hI
      rw [← show ℓ = ℓ' from funext hℓ]
      exact hI
end Go.Proofs.YtgfinojlmbfkdaaGreatDoor
