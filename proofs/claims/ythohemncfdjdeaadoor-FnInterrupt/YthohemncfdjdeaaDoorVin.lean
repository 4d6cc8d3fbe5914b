
/-
  FnInterrupt's walk: a device that waits is due once interrupts are on, is not due inside, and leaving leads back. Conditions: the library's table lies as its text lays it.
-/
import Derived.Test.YthohemncfdjdeaaDoorVdu
import Derived.Test.YthohemncfdjdeaaDoorVdh
import Derived.Test.YthohemncfdjdeaaDoorVat
import Derived.Test.YthohemncfdjdeaaDoorAlk
namespace Go.Proofs.YthohemncfdjdeaaDoor
open Go.ChangeShapes Go.WideShapes Go.ChangeAt Go.RowKit
set_option linter.unusedVariables false

set_option maxHeartbeats 400000 in
/-- One byte, the same in every world that keeps the bytes. -/
theorem at_fix (a : Option Addr) (cap n : Nat) (zs : List Int) (i : Nat) (w : World) (hn : n ≤ 1048576) (hl : zs.length = n) (hi : i ≤ 1000) (hs : Seg .u8 w a zs) (hb : ∀ z ∈ zs, (Lit.int .u8 z).wf = true) :
    ∃ y : Int, ∀ X, Below w.heap.size w X → Calls Tryd.prog 10 #[.slice a n cap, .int .i64 i] X fun e w' => e = .returned (.int .i64 y) ∧ w' = X := by
  by_cases h : i < n
  · obtain ⟨b, off, he, hbl, hc⟩ := hs.at i (by omega)
    have hz := bounds_u8 (hb _ (getD_mem zs i (by omega)))
    obtain ⟨hz0, hz1⟩ := hz
    subst he
    generalize zs.getD i 0 = z at hc hz0 hz1
    refine ⟨z, fun X hX => ?_⟩
    replace hc := (hX.cell (p := ⟨b, off + i, none⟩) hbl).trans hc
    clear hs hb hl hX hbl
    have h2 : (i : Int) < (n : Int) := by omega
    go_enter Tryd.func10, Tryd.ntmps10
    go_wp2
    go_ret
    exact ⟨rfl, rfl⟩
  · have h2 : ¬ (i : Int) < (n : Int) := by omega
    refine ⟨((i : Int) * 7 + n) % 256, fun X hX => ?_⟩
    clear hs hb hl hX
    go_enter Tryd.func10, Tryd.ntmps10
    go_wp2
    go_ret
    exact ⟨rfl, rfl⟩
theorem low_pow (d : Int) (h1 : 0 ≤ d) (h2 : d ≤ 31) : Vb.low (Vb.orF 0 d) = d ∧ Vb.clF (Vb.orF 0 d) d = 0 ∧ ¬ Vb.orF 0 d = 0 := by
  have l := Vb.pow_lt d.toNat (by omega)
  have hp : 0 < 2 ^ d.toNat := Nat.two_pow_pos _
  have e : Vb.orF 0 d = ((2 ^ d.toNat : Nat) : Int) := by unfold Vb.orF; simp
  rw [e]
  refine ⟨?_, ?_, by omega⟩
  · unfold Vb.low
    rw [Int.toNat_natCast]
    obtain ⟨_, b1, b2⟩ := Vb.low_spec (2 ^ d.toNat) (by omega) l
    rw [Nat.testBit_two_pow] at b1
    have := of_decide_eq_true b1
    omega
  · unfold Vb.clF
    rw [Int.toNat_natCast]
    have := Vb.cl_sub (2 ^ d.toNat) d.toNat l (by omega) (by rw [Nat.testBit_two_pow]; simp)
    omega
set_option maxHeartbeats 2000000 in
theorem interrupt_law (w : World) (a : Option Addr) (zs : List Int) (cap : Nat) (hT : TabB w) (hs : Seg .u8 w a zs) (hz : ∀ z ∈ zs, (Lit.int .u8 z).wf = true) :
    Calls Tryd.prog 5 #[.slice a zs.length cap] w fun e w' => e = .returned (.bool true) ∧ Below w.heap.size w w' := by
  obtain ⟨n0, Hn⟩ : ∃ n0, Hid (zs.length = n0) := ⟨_, rfl⟩
  rw [Hn.out]
  by_cases hn : n0 ≤ 1048576
  rotate_left
  · go_enter Tryd.func5, Tryd.ntmps5
    go_wp2_with (first | (go_at_call 9; refine (big_yes _ _ _ _ hn).mono ?_; rintro e w' ⟨rfl, rfl⟩))
    go_ret
    exact ⟨rfl, Below.refl _ _⟩
  obtain ⟨y, hy⟩ := at_fix a cap n0 zs 5 w hn Hn.out (by omega) hs hz
  have AT : Hid (∀ X, Below w.heap.size w X → Calls Tryd.prog 10 #[.slice a n0 cap, .int .i64 5] X fun e w' => e = .returned (.int .i64 y) ∧ Below X.heap.size X w') := fun X hX => (hy X hX).mono fun e w' h => ⟨h.1, by rw [h.2]; exact Below.refl _ _⟩
  have WD : Hid (∀ X, Below w.heap.size w X → Calls Tryd.prog 11 #[.slice a n0 cap, .int .i64 1] X fun e w' => ∃ x : Int, e = .returned (.int .u32 x) ∧ 0 ≤ x ∧ x ≤ 4294967295 ∧ w' = X) := fun X hX => word_any a cap n0 zs 1 X hn Hn.out (by omega) (hs.below hX) hz
  have DH : Hid (Calls Tryd.prog 15 #[.slice a n0 cap] w fun e w' => ∃ o v s c k t n p d, e = .returned (.tuple #[vrt o v s c k t n p, .int .i64 d]) ∧ 0 ≤ k ∧ k ≤ 4294967295 ∧ 0 ≤ p ∧ p ≤ 4294967295 ∧ -1 ≤ d ∧ d ≤ 33 ∧ Below w.heap.size w w') := draw_hold w a zs cap n0 hs hz hn Hn.out
  have HT : Hid (TabB w) := hT
  clear hs hz hT Hn hy
  go_enter Tryd.func5, Tryd.ntmps5
  go_wp2_with (first | (go_at_call 9; refine (big_no _ _ _ _ hn).mono ?_; rintro e w' ⟨rfl, h0⟩; rw [h0]; clear h0))
  refine DH.out.mono ?_
  rintro e w1 ⟨o, v, s, c, k, t, n, p, d, rfl, k1, k2, p1, p2, d1, d2, hb1⟩
  have HB : Hid (Below w.heap.size w w1) := hb1
  clear hb1 DH
  go_wp2_with fail
  refine (WD.out _ (HB.out.trans ((Below.refl _ _).alloc HB.out.size _))).mono ?_
  rintro e w0 ⟨pc, rfl, pc1, pc2, h0⟩
  rw [h0]
  clear h0 w0 WD
  by_cases hd : 0 ≤ d ∧ d ≤ 31
  rotate_left
  · have HO : Hid (∀ X, Calls Tryd.prog 16 #[vrt o v s c k t n p, .int .i64 d] X fun e w' => e = .returned (vrt o v s c k t n p) ∧ Below X.heap.size X w') := fun X => by
      have := impl_hold o v s c k t n p d X p1 p2
      rw [show holdF p d = p by unfold holdF; rw [if_neg hd]] at this
      exact this
    obtain ⟨W0, HW⟩ : ∃ W0, Hid (W0 = w1.alloc (.cells (vrow o v s c k t n p) 26)) := ⟨_, rfl⟩
    have hv : VC W0 w1.heap.size o v s c k t n p := by rw [HW.out]; exact VC.new _ _ _ _ _ _ _ _ _ _
    have HBW : Hid (Below w.heap.size w W0) := by show Below _ _ _; rw [HW.out]; exact HB.out.trans ((Below.refl _ _).alloc HB.out.size _)
    have hdd : d < 0 ∨ 31 < d := by omega
    have hgr := gr_some W0
    have q0 := fun X => gr_cell hv.c0 X
    have q1 := fun X => gr_cell hv.c1 X
    have q2 := fun X => gr_cell hv.c2 X
    have q3 := fun X => gr_cell hv.c3 X
    have q4 := fun X => gr_cell hv.c4 X
    have q5 := fun X => gr_cell hv.c5 X
    have q6 := fun X => gr_cell hv.c6 X
    have q7 := fun X => gr_cell hv.c7 X
    clear hv
    rcases hdd with hd3 | hd3
    all_goals
      clear hd d1 d2
      go_wp2
      rw [← HW.out]
      refine region_alike (by kernel_rfl) (by kernel_rfl) ?_
      repeat (go_big_quiet_step (first | (go_at_call 16; exact gr_call (HO.out _))))
      refine wpQuiet_nil ?_
      intro _ hw'
      obtain ⟨X1, rfl⟩ := hw'
      have hb2 := X1.h
      generalize X1.w = W1 at hb2 ⊢
      have HB2 : Hid (Below w.heap.size w W1) := HBW.out.trans (hb2.mono HBW.out.size)
      clear hb2 q0 q1 q2 q3 q4 q5 q6 q7
      go_wp2
      go_ret
      exact ⟨rfl, HB2.out⟩
  obtain ⟨d3, d4⟩ := hd
  have hlp := low_pow d d3 d4
  obtain ⟨H, HH⟩ : ∃ H, Hid (Vb.orF 0 d = H) := ⟨_, rfl⟩
  have hr := Vb.or_rng 0 d (by omega) (by omega) d3 d4
  rw [HH.out] at hlp hr
  obtain ⟨hl1, hl2, hl3⟩ := hlp
  obtain ⟨H1, H2⟩ := hr
  obtain ⟨g, hg⟩ : ∃ g, g = d + 2 := ⟨_, rfl⟩
  have HO : Hid (∀ X, Below w.heap.size w X → Calls Tryd.prog 16 #[vrt true v s c k false false 0, .int .i64 d] X fun e w' => e = .returned (vrt true v s c k false false H) ∧ Below X.heap.size X w') := fun X hX => by
    have := impl_hold true v s c k false false 0 d X (by omega) (by omega)
    rw [show holdF 0 d = H by unfold holdF; rw [if_pos ⟨d3, d4⟩]; exact HH.out] at this
    exact this
  have D1 : Hid (∀ X, Below w.heap.size w X → Calls Tryd.prog 8 #[vrt true v s c k false false H, .int .i64 y] X fun e w' => e = .returned (.int .i64 g) ∧ Below X.heap.size X w') := fun X hX => by
    have := impl_due true v s c k false false H y X H1 H2 k1 k2 (HT.out.below hX)
    rw [show dueF true k false false H y = g by unfold dueF; rw [if_neg (by simp), if_neg (by simp), if_neg hl3, hl1, hg]; omega] at this
    exact this
  have D2 : Hid (∀ X, Below w.heap.size w X → Calls Tryd.prog 8 #[vrt true v s c k false false 0, .int .i64 y] X fun e w' => e = .returned (.int .i64 0) ∧ Below X.heap.size X w') := fun X hX => by
    have := impl_due true v s c k false false 0 y X (by omega) (by omega) k1 k2 (HT.out.below hX)
    rw [show dueF true k false false 0 y = 0 by unfold dueF; rw [if_neg (by simp), if_neg (by simp), if_pos rfl]] at this
    exact this
  have D3 : Hid (∀ X, Below w.heap.size w X → Calls Tryd.prog 8 #[vrt true v pc g k false true 0, .int .i64 y] X fun e w' => e = .returned (.int .i64 0) ∧ Below X.heap.size X w') := fun X hX => by
    have := impl_due true v pc g k false true 0 y X (by omega) (by omega) k1 k2 (HT.out.below hX)
    rw [show dueF true k false true 0 y = 0 by unfold dueF; rw [if_pos (by simp)]] at this
    exact this
  have D4 : Hid (∀ X, Below w.heap.size w X → Calls Tryd.prog 8 #[vrt true v pc g k false false 0, .int .i64 y] X fun e w' => e = .returned (.int .i64 0) ∧ Below X.heap.size X w') := fun X hX => by
    have := impl_due true v pc g k false false 0 y X (by omega) (by omega) k1 k2 (HT.out.below hX)
    rw [show dueF true k false false 0 y = 0 by unfold dueF; rw [if_neg (by simp), if_neg (by simp), if_pos rfl]] at this
    exact this
  have E1 : Hid (∀ X, Below w.heap.size w X → Calls Tryd.prog 13 #[vrt true v s c k false false H, .int .i64 g, .int .u32 pc] X fun e w' => e = .returned (.tuple #[vrt true v pc g k false true 0, .int .u32 v]) ∧ Below X.heap.size X w') := fun X hX => impl_enter_dev true v s c k false false H g pc 0 X H1 H2 (by omega) (by omega) (by show _ = _; rw [show g - 2 = d by omega]; exact hl2)
  have L1 : Hid (∀ X, Below w.heap.size w X → Calls Tryd.prog 14 #[vrt true v pc g k false true 0] X fun e w' => e = .returned (.tuple #[vrt true v pc g k false false 0, .int .u32 pc, .bool true]) ∧ Below X.heap.size X w') := fun X hX => impl_leave true v pc g k false true 0 X
  have L2 : Hid (∀ X, Below w.heap.size w X → Calls Tryd.prog 14 #[vrt true v pc g k false false 0] X fun e w' => e = .returned (.tuple #[vrt true v pc g k false false 0, .int .u32 0, .bool false]) ∧ Below X.heap.size X w') := fun X hX => impl_leave true v pc g k false false 0 X
  have R3 : Hid (∀ X, Below w.heap.size w X → Calls Tryd.prog 17 #[vrt true v pc g k false true 0, .int .i64 3, .int .i64 0] X fun e w' => e = .returned (.tuple #[.int .u32 g, .bool true]) ∧ Below X.heap.size X w') := fun X hX => impl_read3 true v pc g k false true 0 0 X
  have g1 : 2 ≤ g := by omega
  have g2 : g ≤ 33 := by omega
  have hgd : IntKind.i64.wrap (2 + d) = g := by rw [IntKind.wrap_i64]; omega
  have hgu : IntKind.u32.wrap g = g := by rw [IntKind.wrap_u32]; omega
  clear HH hl1 hl2 hl3 hg HT
  go_wp2_with fail
  refine (HO.out _ (HB.out.trans ((Below.refl _ _).alloc HB.out.size _))).mono ?_
  rintro e w2 ⟨rfl, hb2⟩
  have hv : Hid (VC w2 w1.heap.size true v s c k false false 0) := (VC.new w1 26 _ _ _ _ _ _ _ _).kept hb2 (by simp)
  replace hb2 : Below w1.heap.size w1 w2 := ((Below.refl _ _).alloc (Nat.le_refl _) _).trans (hb2.mono (by simp))
  replace HB : Hid _ := HB.out.trans (hb2.mono HB.out.size)
  clear hb2
  go_wp2
  obtain ⟨W3, HW⟩ : ∃ W, Hid (W = w2.alloc (.cells (vrow true v s c k false false H) 26)) := ⟨_, rfl⟩
  rw [← HW.out]
  have hh : Hid (VC W3 w2.heap.size true v s c k false false H) := by show VC _ _ _ _ _ _ _ _ _ _; rw [HW.out]; exact VC.new _ _ _ _ _ _ _ _ _ _
  have hbw : Below w2.heap.size w2 W3 := by rw [HW.out]; exact (Below.refl _ _).alloc (Nat.le_refl _) _
  replace hv : Hid _ := hv.out.kept hbw hv.out.lt
  replace HB : Hid _ := HB.out.trans (hbw.mono HB.out.size)
  clear hbw HW
  have q0 := fun X => gr_cell hh.out.c0 X
  have q1 := fun X => gr_cell hh.out.c1 X
  have q2 := fun X => gr_cell hh.out.c2 X
  have q3 := fun X => gr_cell hh.out.c3 X
  have q4 := fun X => gr_cell hh.out.c4 X
  have q5 := fun X => gr_cell hh.out.c5 X
  have q6 := fun X => gr_cell hh.out.c6 X
  have q7 := fun X => gr_cell hh.out.c7 X
  have hgr := gr_some W3
  have GA : Hid (∀ X : Gr W3, Calls Tryd.prog 10 #[.slice a n0 cap, .int .i64 5] X.w fun e w' => e = .returned (.int .i64 y) ∧ Below X.w.heap.size X.w w') := fun X => AT.out _ (HB.out.trans (X.h.mono HB.out.size))
  have GD : Hid (∀ X : Gr W3, Calls Tryd.prog 8 #[vrt true v s c k false false H, .int .i64 y] X.w fun e w' => e = .returned (.int .i64 g) ∧ Below X.w.heap.size X.w w') := fun X => D1.out _ (HB.out.trans (X.h.mono HB.out.size))
  refine region_alike (by kernel_rfl) (by kernel_rfl) ?_
  repeat (go_big_quiet_step (first | (go_at_call 10; exact gr_call (GA.out _)) | (go_at_call 8; exact gr_call (GD.out _))))
  refine wpQuiet_nil ?_
  intro _ hw'
  obtain ⟨X1, rfl⟩ := hw'
  have hb2 := X1.h
  generalize X1.w = w4 at hb2 ⊢
  clear q0 q1 q2 q3 q4 q5 q6 q7
  clear hgr X1 GA GD
  replace hv : Hid _ := hv.out.kept hb2 hv.out.lt
  replace hh : Hid _ := hh.out.kept hb2 hh.out.lt
  replace HB : Hid _ := HB.out.trans (hb2.mono HB.out.size)
  clear hb2
  obtain ⟨c0, c1, c2, c3, c4, c5, c6, c7⟩ := hh.out
  have cl : w2.heap.size < w4.heap.size := hh.out.lt
  go_wp2_with fail
  refine (E1.out _ HB.out).mono ?_
  rintro e w5 ⟨rfl, hb5⟩
  replace hv : Hid _ := hv.out.kept hb5 hv.out.lt
  replace hh : Hid _ := hh.out.kept hb5 hh.out.lt
  replace HB : Hid _ := HB.out.trans (hb5.mono HB.out.size)
  clear hb5
  clear c0 c1 c2 c3 c4 c5 c6 c7 cl
  clear hh
  go_wp2
  obtain ⟨W6, HW⟩ : ∃ W, Hid (W = w5.alloc (.cells (vrow true v pc g k false true 0) 26)) := ⟨_, rfl⟩
  rw [← HW.out]
  have hi : Hid (VC W6 w5.heap.size true v pc g k false true 0) := by show VC _ _ _ _ _ _ _ _ _ _; rw [HW.out]; exact VC.new _ _ _ _ _ _ _ _ _ _
  have hbw : Below w5.heap.size w5 W6 := by rw [HW.out]; exact (Below.refl _ _).alloc (Nat.le_refl _) _
  replace hv : Hid _ := hv.out.kept hbw hv.out.lt
  replace HB : Hid _ := HB.out.trans (hbw.mono HB.out.size)
  clear hbw HW
  have q0 := fun X => gr_cell hv.out.c0 X
  have q1 := fun X => gr_cell hv.out.c1 X
  have q2 := fun X => gr_cell hv.out.c2 X
  have q3 := fun X => gr_cell hv.out.c3 X
  have q4 := fun X => gr_cell hv.out.c4 X
  have q5 := fun X => gr_cell hv.out.c5 X
  have q6 := fun X => gr_cell hv.out.c6 X
  have q7 := fun X => gr_cell hv.out.c7 X
  have r0 := fun X => gr_cell hi.out.c0 X
  have r1 := fun X => gr_cell hi.out.c1 X
  have r2 := fun X => gr_cell hi.out.c2 X
  have r3 := fun X => gr_cell hi.out.c3 X
  have r4 := fun X => gr_cell hi.out.c4 X
  have r5 := fun X => gr_cell hi.out.c5 X
  have r6 := fun X => gr_cell hi.out.c6 X
  have r7 := fun X => gr_cell hi.out.c7 X
  have hgr := gr_some W6
  have GA : Hid (∀ X : Gr W6, Calls Tryd.prog 10 #[.slice a n0 cap, .int .i64 5] X.w fun e w' => e = .returned (.int .i64 y) ∧ Below X.w.heap.size X.w w') := fun X => AT.out _ (HB.out.trans (X.h.mono HB.out.size))
  have GD : Hid (∀ X : Gr W6, Calls Tryd.prog 8 #[vrt true v s c k false false 0, .int .i64 y] X.w fun e w' => e = .returned (.int .i64 0) ∧ Below X.w.heap.size X.w w') := fun X => D2.out _ (HB.out.trans (X.h.mono HB.out.size))
  have GE : Hid (∀ X : Gr W6, Calls Tryd.prog 8 #[vrt true v pc g k false true 0, .int .i64 y] X.w fun e w' => e = .returned (.int .i64 0) ∧ Below X.w.heap.size X.w w') := fun X => D3.out _ (HB.out.trans (X.h.mono HB.out.size))
  refine region_alike (by kernel_rfl) (by kernel_rfl) ?_
  repeat (go_big_quiet_step (first | (go_at_call 10; exact gr_call (GA.out _)) | (go_at_call_of 8 (Value.int IntKind.u32 s); exact gr_call (GD.out _)) | (go_at_call_of 8 (Value.int IntKind.u32 pc); exact gr_call (GE.out _))))
  refine wpQuiet_nil ?_
  intro _ hw'
  obtain ⟨X1, rfl⟩ := hw'
  have hb2 := X1.h
  generalize X1.w = w7 at hb2 ⊢
  clear q0 q1 q2 q3 q4 q5 q6 q7
  clear r0 r1 r2 r3 r4 r5 r6 r7
  clear hgr X1 GA GD GE
  replace hv : Hid _ := hv.out.kept hb2 hv.out.lt
  replace hi : Hid _ := hi.out.kept hb2 hi.out.lt
  replace HB : Hid _ := HB.out.trans (hb2.mono HB.out.size)
  clear hb2
  clear hv
  obtain ⟨c0, c1, c2, c3, c4, c5, c6, c7⟩ := hi.out
  have cl : w5.heap.size < w7.heap.size := hi.out.lt
  go_wp2_with fail
  refine (L1.out _ HB.out).mono ?_
  rintro e w8 ⟨rfl, hb8⟩
  replace hi : Hid _ := hi.out.kept hb8 hi.out.lt
  replace HB : Hid _ := HB.out.trans (hb8.mono HB.out.size)
  clear hb8
  clear c0 c1 c2 c3 c4 c5 c6 c7 cl
  go_wp2_with fail
  refine (L2.out _ (HB.out.trans ((Below.refl _ _).alloc HB.out.size _))).mono ?_
  rintro e w9 ⟨rfl, hb9⟩
  have ho : Hid (VC w9 w8.heap.size true v pc g k false false 0) := (VC.new w8 26 _ _ _ _ _ _ _ _).kept hb9 (by simp)
  replace hb9 : Below w8.heap.size w8 w9 := ((Below.refl _ _).alloc (Nat.le_refl _) _).trans (hb9.mono (by simp))
  replace hi : Hid _ := hi.out.kept hb9 hi.out.lt
  replace HB : Hid _ := HB.out.trans (hb9.mono HB.out.size)
  clear hb9
  obtain ⟨c0, c1, c2, c3, c4, c5, c6, c7⟩ := hi.out
  have cl : w5.heap.size < w9.heap.size := hi.out.lt
  go_wp2_with fail
  refine (R3.out _ (HB.out.trans ((Below.refl _ _).alloc HB.out.size _))).mono ?_
  rintro e w10 ⟨rfl, hb10⟩
  have ho2 : Hid (VC w10 w9.heap.size true v pc g k false false 0) := (VC.new w9 26 _ _ _ _ _ _ _ _).kept hb10 (by simp)
  replace hb10 : Below w9.heap.size w9 w10 := ((Below.refl _ _).alloc (Nat.le_refl _) _).trans (hb10.mono (by simp))
  replace hi : Hid _ := hi.out.kept hb10 hi.out.lt
  replace ho : Hid _ := ho.out.kept hb10 ho.out.lt
  replace HB : Hid _ := HB.out.trans (hb10.mono HB.out.size)
  clear hb10
  clear c0 c1 c2 c3 c4 c5 c6 c7 cl
  clear hi
  clear ho2
  go_wp2
  have q0 := fun X => gr_cell ho.out.c0 X
  have q1 := fun X => gr_cell ho.out.c1 X
  have q2 := fun X => gr_cell ho.out.c2 X
  have q3 := fun X => gr_cell ho.out.c3 X
  have q4 := fun X => gr_cell ho.out.c4 X
  have q5 := fun X => gr_cell ho.out.c5 X
  have q6 := fun X => gr_cell ho.out.c6 X
  have q7 := fun X => gr_cell ho.out.c7 X
  have hgr := gr_some w10
  have GA : Hid (∀ X : Gr w10, Calls Tryd.prog 10 #[.slice a n0 cap, .int .i64 5] X.w fun e w' => e = .returned (.int .i64 y) ∧ Below X.w.heap.size X.w w') := fun X => AT.out _ (HB.out.trans (X.h.mono HB.out.size))
  have GD : Hid (∀ X : Gr w10, Calls Tryd.prog 8 #[vrt true v pc g k false false 0, .int .i64 y] X.w fun e w' => e = .returned (.int .i64 0) ∧ Below X.w.heap.size X.w w') := fun X => D4.out _ (HB.out.trans (X.h.mono HB.out.size))
  refine region_alike (by kernel_rfl) (by kernel_rfl) ?_
  repeat (go_big_quiet_step (first | (go_at_call 10; exact gr_call (GA.out _)) | (go_at_call 8; exact gr_call (GD.out _))))
  refine wpQuiet_nil ?_
  intro _ hw'
  obtain ⟨X1, rfl⟩ := hw'
  have hb2 := X1.h
  generalize X1.w = w12 at hb2 ⊢
  clear q0 q1 q2 q3 q4 q5 q6 q7
  clear hgr X1 GA GD
  replace ho : Hid _ := ho.out.kept hb2 ho.out.lt
  replace HB : Hid _ := HB.out.trans (hb2.mono HB.out.size)
  clear hb2
  go_wp2
  go_ret
  exact ⟨rfl, HB.out⟩
end Go.Proofs.YthohemncfdjdeaaDoor
