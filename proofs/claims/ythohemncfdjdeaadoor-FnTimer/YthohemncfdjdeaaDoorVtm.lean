
/-
  FnTimer's walk: a timer that is set rings from its cycle on, ahead of all devices, and once. Conditions: the library's table lies as its text lays it.
-/
import Derived.Test.YthohemncfdjdeaaDoorVdu
import Derived.Test.YthohemncfdjdeaaDoorVcw
import Derived.Test.YthohemncfdjdeaaDoorVat
namespace Go.Proofs.YthohemncfdjdeaaDoor
open Go.ChangeShapes Go.WideShapes Go.ChangeAt Go.RowKit
set_option linter.unusedVariables false

theorem low_odd (p : Int) (h1 : 0 ≤ p) (h2 : p ≤ 4294967295) (h : p % 2 = 1) : Vb.low p = 0 := by
  obtain ⟨P, rfl⟩ := Int.eq_ofNat_of_zero_le h1
  unfold Vb.low
  rw [Int.toNat_natCast]
  have : Lib.ctz 32 P = 0 := by
    unfold Lib.ctz
    rw [if_neg (by omega)]
    show Lib.ctzFrom 32 P = 0
    unfold Lib.ctzFrom
    rw [if_pos (by omega)]
  rw [this]; rfl
theorem or_one (y : Int) (h1 : 0 ≤ y) (h2 : y ≤ 4294967295) : 0 ≤ bits .or .u32 y 1 ∧ bits .or .u32 y 1 ≤ 4294967295 ∧ bits .or .u32 y 1 % 2 = 1 := by
  have e := Vb.or_int y 0 h1 h2 (by omega) (by omega)
  have e1 : (2 : Int) ^ (0 : Int).toNat = 1 := by decide
  rw [e1] at e
  obtain ⟨r1, r2⟩ := Vb.or_rng y 0 h1 h2 (by omega) (by omega)
  rw [e]
  refine ⟨r1, r2, ?_⟩
  unfold Vb.orF
  have hb : (y.toNat ||| 2 ^ (0 : Int).toNat).testBit 0 = true := by
    rw [Nat.testBit_or]; simp
  rw [Nat.testBit_zero] at hb
  have := of_decide_eq_true hb
  omega
set_option maxHeartbeats 1600000 in
theorem timer_law (w : World) (a : Option Addr) (zs : List Int) (cap : Nat) (hT : TabB w) (hs : Seg .u8 w a zs) (hz : ∀ z ∈ zs, (Lit.int .u8 z).wf = true) :
    Calls Tryd.prog 4 #[.slice a zs.length cap] w fun e w' => e = .returned (.bool true) ∧ Below w.heap.size w w' := by
  obtain ⟨n, Hn⟩ : ∃ n, Hid (zs.length = n) := ⟨_, rfl⟩
  rw [Hn.out]
  by_cases hn : n ≤ 1048576
  rotate_left
  · go_enter Tryd.func4, Tryd.ntmps4
    go_wp2_with (first | (go_at_call 9; refine (big_yes _ _ _ _ hn).mono ?_; rintro e w' ⟨rfl, rfl⟩))
    go_ret
    exact ⟨rfl, Below.refl _ _⟩
  have AT : Hid (Calls Tryd.prog 10 #[.slice a n cap, .int .i64 2] w fun e w' => ∃ x : Int, e = .returned (.int .i64 x) ∧ 0 ≤ x ∧ x ≤ 255 ∧ w' = w) := at_any a cap n zs 2 w hn Hn.out (by omega) hs hz
  have WD : Hid (Calls Tryd.prog 11 #[.slice a n cap, .int .i64 4] w fun e w' => ∃ x : Int, e = .returned (.int .u32 x) ∧ 0 ≤ x ∧ x ≤ 4294967295 ∧ w' = w) := word_any a cap n zs 4 w hn Hn.out (by omega) hs hz
  have HT : Hid (TabB w) := hT
  clear hs hz hT Hn
  go_enter Tryd.func4, Tryd.ntmps4
  go_wp2_with (first | (go_at_call 9; refine (big_no _ _ _ _ hn).mono ?_; rintro e w' ⟨rfl, h0⟩; rw [h0]; clear h0))
  refine AT.out.mono ?_
  rintro e w0 ⟨x, rfl, x1, x2, h0⟩
  rw [h0]
  clear h0 w0
  go_wp2_with fail
  refine WD.out.mono ?_
  rintro e w0 ⟨y, rfl, y1, y2, h0⟩
  rw [h0]
  clear h0 w0
  obtain ⟨P, HP⟩ : ∃ P, Hid (bits .or .u32 y 1 = P) := ⟨_, rfl⟩
  have hP := or_one y y1 y2
  rw [HP.out] at hP
  obtain ⟨P1, P2, P3⟩ := hP
  obtain ⟨m, HM⟩ : ∃ m, Hid (x * 3 = m) := ⟨_, rfl⟩
  have m1 : 0 ≤ m := by have := HM.out; omega
  have m2 : m ≤ 765 := by have := HM.out; omega
  have HL : Hid (Vb.low P = 0) := low_odd P P1 P2 P3
  have hP0 : ¬ P = 0 := by omega
  have C4 : Hid (∀ X, Below w.heap.size w X → Calls Tryd.prog 12 #[vrt false 0 0 0 0 false false P, .int .i64 4, .int .u32 m] X fun e w' => e = .returned (.tuple #[vrt false 0 0 0 m false false P, .bool true]) ∧ Below X.heap.size X w') := fun X hX => impl_write4 false 0 0 0 0 false false P m true X
  have C5 : Hid (∀ X, Below w.heap.size w X → Calls Tryd.prog 12 #[vrt false 0 0 0 m false false P, .int .i64 5, .int .u32 1] X fun e w' => e = .returned (.tuple #[vrt false 0 0 0 m true false P, .bool true]) ∧ Below X.heap.size X w') := fun X hX => impl_write5 false 0 0 0 m false false P 1 true X (by omega) (by omega) (by show _ = _; decide)
  have C0 : Hid (∀ X, Below w.heap.size w X → Calls Tryd.prog 12 #[vrt false 0 0 0 m true false P, .int .i64 0, .int .u32 1] X fun e w' => e = .returned (.tuple #[vrt true 0 0 0 m true false P, .bool true]) ∧ Below X.heap.size X w') := fun X hX => impl_write0 false 0 0 0 m true false P 1 true X (by omega) (by omega) (by show _ = _; decide)
  have C3 : Hid (∀ X, Below w.heap.size w X → Calls Tryd.prog 12 #[vrt true 0 0 0 m true false P, .int .i64 3, .int .u32 1] X fun e w' => e = .returned (.tuple #[vrt true 0 0 0 m true false P, .bool false]) ∧ Below X.heap.size X w') := fun X hX => impl_write3 true 0 0 0 m true false P 1 true X
  have D1 : Hid (∀ X, Below w.heap.size w X → Calls Tryd.prog 8 #[vrt true 0 0 0 m true false P, .int .i64 m] X fun e w' => e = .returned (.int .i64 1) ∧ Below X.heap.size X w') := fun X hX => by
    have := impl_due true 0 0 0 m true false P m X P1 P2 m1 (by omega) (HT.out.below hX)
    rw [show dueF true m true false P m = 1 by unfold dueF; rw [if_neg (by simp), if_pos (by rw [show m % 4294967296 = m by omega]; simp)]] at this
    exact this
  have D2 : Hid (∀ X, Below w.heap.size w X → Calls Tryd.prog 8 #[vrt false 0 0 0 m true false P, .int .i64 m] X fun e w' => e = .returned (.int .i64 0) ∧ Below X.heap.size X w') := fun X hX => by
    have := impl_due false 0 0 0 m true false P m X P1 P2 m1 (by omega) (HT.out.below hX)
    rw [show dueF false m true false P m = 0 by unfold dueF; rw [if_pos (by simp)]] at this
    exact this
  have D3 : Hid (0 < m → ∀ X, Below w.heap.size w X → Calls Tryd.prog 8 #[vrt true 0 0 0 m true false P, .int .i64 (m - 1)] X fun e w' => e = .returned (.int .i64 2) ∧ Below X.heap.size X w') := fun hm X hX => by
    have := impl_due true 0 0 0 m true false P (m - 1) X P1 P2 m1 (by omega) (HT.out.below hX)
    rw [show dueF true m true false P (m - 1) = 2 by unfold dueF; rw [if_neg (by simp), if_neg (by rw [show (m - 1) % 4294967296 = m - 1 by omega]; simp; omega), if_neg hP0, HL.out]; rfl] at this
    exact this
  have D4 : Hid (∀ X, Below w.heap.size w X → Calls Tryd.prog 8 #[vrt true 0 8 1 m false false P, .int .i64 (m + 1)] X fun e w' => e = .returned (.int .i64 2) ∧ Below X.heap.size X w') := fun X hX => by
    have := impl_due true 0 8 1 m false false P (m + 1) X P1 P2 m1 (by omega) (HT.out.below hX)
    rw [show dueF true m false false P (m + 1) = 2 by unfold dueF; rw [if_neg (by simp), if_neg (by simp), if_neg hP0, HL.out]; rfl] at this
    exact this
  have E1 : Hid (∀ X, Below w.heap.size w X → Calls Tryd.prog 13 #[vrt true 0 0 0 m true false P, .int .i64 1, .int .u32 8] X fun e w' => e = .returned (.tuple #[vrt true 0 8 1 m false true P, .int .u32 0]) ∧ Below X.heap.size X w') := fun X hX => impl_enter_one true 0 0 0 m true false P 8 X
  have L1 : Hid (∀ X, Below w.heap.size w X → Calls Tryd.prog 14 #[vrt true 0 8 1 m false true P] X fun e w' => e = .returned (.tuple #[vrt true 0 8 1 m false false P, .int .u32 8, .bool true]) ∧ Below X.heap.size X w') := fun X hX => impl_leave true 0 8 1 m false true P X
  have HB : Hid (Below w.heap.size w w) := Below.refl _ _
  clear AT WD HT y1 y2
  have hx3 : wrap64 (x * 3) = m := by have := HM.out; unfold wrap64; omega
  go_wp2_with fail
  rw [HP.out, HM.out]
  clear HP HM hx3 x1 x2
  refine (C4.out _ (HB.out.trans ((Below.refl _ _).alloc HB.out.size _))).mono ?_
  rintro e w1 ⟨rfl, hb1⟩
  have hv : Hid (VC w1 w.heap.size false 0 0 0 0 false false P) := (VC.new w 26 _ _ _ _ _ _ _ _).kept hb1 (by simp)
  replace hb1 : Below w.heap.size w w1 := ((Below.refl _ _).alloc (Nat.le_refl _) _).trans (hb1.mono (by simp))
  replace HB : Hid _ := HB.out.trans (hb1.mono HB.out.size)
  clear hb1
  clear hv
  go_wp2_with fail
  refine (C5.out _ (HB.out.trans ((Below.refl _ _).alloc HB.out.size _))).mono ?_
  rintro e w2 ⟨rfl, hb2⟩
  have ha : Hid (VC w2 w1.heap.size false 0 0 0 m false false P) := (VC.new w1 26 _ _ _ _ _ _ _ _).kept hb2 (by simp)
  replace hb2 : Below w1.heap.size w1 w2 := ((Below.refl _ _).alloc (Nat.le_refl _) _).trans (hb2.mono (by simp))
  replace HB : Hid _ := HB.out.trans (hb2.mono HB.out.size)
  clear hb2
  clear ha
  go_wp2_with fail
  refine (C0.out _ (HB.out.trans ((Below.refl _ _).alloc HB.out.size _))).mono ?_
  rintro e w3 ⟨rfl, hb3⟩
  have hbb : Hid (VC w3 w2.heap.size false 0 0 0 m true false P) := (VC.new w2 26 _ _ _ _ _ _ _ _).kept hb3 (by simp)
  replace hb3 : Below w2.heap.size w2 w3 := ((Below.refl _ _).alloc (Nat.le_refl _) _).trans (hb3.mono (by simp))
  replace HB : Hid _ := HB.out.trans (hb3.mono HB.out.size)
  clear hb3
  go_wp2_with fail
  refine (C3.out _ (HB.out.trans ((Below.refl _ _).alloc HB.out.size _))).mono ?_
  rintro e w4 ⟨rfl, hb4⟩
  have hc : Hid (VC w4 w3.heap.size true 0 0 0 m true false P) := (VC.new w3 26 _ _ _ _ _ _ _ _).kept hb4 (by simp)
  replace hb4 : Below w3.heap.size w3 w4 := ((Below.refl _ _).alloc (Nat.le_refl _) _).trans (hb4.mono (by simp))
  replace hbb : Hid _ := hbb.out.kept hb4 hbb.out.lt
  replace HB : Hid _ := HB.out.trans (hb4.mono HB.out.size)
  clear hb4
  obtain ⟨c0, c1, c2, c3, c4, c5, c6, c7⟩ := hc.out
  have cl : w3.heap.size < w4.heap.size := hc.out.lt
  go_wp2_with fail
  refine (D1.out _ (HB.out.trans ((Below.refl _ _).alloc HB.out.size _))).mono ?_
  rintro e w5 ⟨rfl, hb5⟩
  have hd : Hid (VC w5 w4.heap.size true 0 0 0 m true false P) := (VC.new w4 26 _ _ _ _ _ _ _ _).kept hb5 (by simp)
  replace hb5 : Below w4.heap.size w4 w5 := ((Below.refl _ _).alloc (Nat.le_refl _) _).trans (hb5.mono (by simp))
  replace hbb : Hid _ := hbb.out.kept hb5 hbb.out.lt
  replace hc : Hid _ := hc.out.kept hb5 hc.out.lt
  replace HB : Hid _ := HB.out.trans (hb5.mono HB.out.size)
  clear hb5
  clear c0 c1 c2 c3 c4 c5 c6 c7 cl
  clear hd
  obtain ⟨c0, c1, c2, c3, c4, c5, c6, c7⟩ := hbb.out
  have cl : w2.heap.size < w5.heap.size := hbb.out.lt
  go_wp2_with fail
  refine (D2.out _ HB.out).mono ?_
  rintro e w6 ⟨rfl, hb6⟩
  replace hbb : Hid _ := hbb.out.kept hb6 hbb.out.lt
  replace hc : Hid _ := hc.out.kept hb6 hc.out.lt
  replace HB : Hid _ := HB.out.trans (hb6.mono HB.out.size)
  clear hb6
  clear c0 c1 c2 c3 c4 c5 c6 c7 cl
  clear hbb
  by_cases hm : 0 < m
  · obtain ⟨c0, c1, c2, c3, c4, c5, c6, c7⟩ := hc.out
    have cl : w3.heap.size < w6.heap.size := hc.out.lt
    go_wp2_with fail
    refine (D3.out hm _ HB.out).mono ?_
    rintro e w7 ⟨rfl, hb7⟩
    replace hc : Hid _ := hc.out.kept hb7 hc.out.lt
    replace HB : Hid _ := HB.out.trans (hb7.mono HB.out.size)
    clear hb7
    clear c0 c1 c2 c3 c4 c5 c6 c7 cl
    obtain ⟨c0, c1, c2, c3, c4, c5, c6, c7⟩ := hc.out
    have cl : w3.heap.size < w7.heap.size := hc.out.lt
    go_wp2_with fail
    refine (E1.out _ HB.out).mono ?_
    rintro e w8 ⟨rfl, hb8⟩
    replace hc : Hid _ := hc.out.kept hb8 hc.out.lt
    replace HB : Hid _ := HB.out.trans (hb8.mono HB.out.size)
    clear hb8
    clear c0 c1 c2 c3 c4 c5 c6 c7 cl
    obtain ⟨c0, c1, c2, c3, c4, c5, c6, c7⟩ := hc.out
    have cl : w3.heap.size < w8.heap.size := hc.out.lt
    go_wp2_with fail
    refine (L1.out _ (HB.out.trans ((Below.refl _ _).alloc HB.out.size _))).mono ?_
    rintro e w9 ⟨rfl, hb9⟩
    have hi : Hid (VC w9 w8.heap.size true 0 8 1 m false true P) := (VC.new w8 26 _ _ _ _ _ _ _ _).kept hb9 (by simp)
    replace hb9 : Below w8.heap.size w8 w9 := ((Below.refl _ _).alloc (Nat.le_refl _) _).trans (hb9.mono (by simp))
    replace hc : Hid _ := hc.out.kept hb9 hc.out.lt
    replace HB : Hid _ := HB.out.trans (hb9.mono HB.out.size)
    clear hb9
    clear c0 c1 c2 c3 c4 c5 c6 c7 cl
    obtain ⟨c0, c1, c2, c3, c4, c5, c6, c7⟩ := hc.out
    have cl : w3.heap.size < w9.heap.size := hc.out.lt
    obtain ⟨d0, d1, d2, d3, d4, d5, d6, d7⟩ := hi.out
    have dl : w8.heap.size < w9.heap.size := hi.out.lt
    go_wp2_with fail
    refine (D4.out _ (HB.out.trans ((Below.refl _ _).alloc HB.out.size _))).mono ?_
    rintro e w10 ⟨rfl, hb10⟩
    have ho : Hid (VC w10 w9.heap.size true 0 8 1 m false false P) := (VC.new w9 26 _ _ _ _ _ _ _ _).kept hb10 (by simp)
    replace hb10 : Below w9.heap.size w9 w10 := ((Below.refl _ _).alloc (Nat.le_refl _) _).trans (hb10.mono (by simp))
    replace hc : Hid _ := hc.out.kept hb10 hc.out.lt
    replace hi : Hid _ := hi.out.kept hb10 hi.out.lt
    replace HB : Hid _ := HB.out.trans (hb10.mono HB.out.size)
    clear hb10
    clear c0 c1 c2 c3 c4 c5 c6 c7 cl
    clear d0 d1 d2 d3 d4 d5 d6 d7 dl
    obtain ⟨c0, c1, c2, c3, c4, c5, c6, c7⟩ := hc.out
    have cl : w3.heap.size < w10.heap.size := hc.out.lt
    obtain ⟨d0, d1, d2, d3, d4, d5, d6, d7⟩ := hi.out
    have dl : w8.heap.size < w10.heap.size := hi.out.lt
    go_wp2
    go_ret
    exact ⟨rfl, HB.out⟩
  · obtain ⟨c0, c1, c2, c3, c4, c5, c6, c7⟩ := hc.out
    have cl : w3.heap.size < w6.heap.size := hc.out.lt
    go_wp2_with fail
    refine (E1.out _ HB.out).mono ?_
    rintro e w7 ⟨rfl, hb7⟩
    replace hc : Hid _ := hc.out.kept hb7 hc.out.lt
    replace HB : Hid _ := HB.out.trans (hb7.mono HB.out.size)
    clear hb7
    clear c0 c1 c2 c3 c4 c5 c6 c7 cl
    obtain ⟨c0, c1, c2, c3, c4, c5, c6, c7⟩ := hc.out
    have cl : w3.heap.size < w7.heap.size := hc.out.lt
    go_wp2_with fail
    refine (L1.out _ (HB.out.trans ((Below.refl _ _).alloc HB.out.size _))).mono ?_
    rintro e w8 ⟨rfl, hb8⟩
    have hi : Hid (VC w8 w7.heap.size true 0 8 1 m false true P) := (VC.new w7 26 _ _ _ _ _ _ _ _).kept hb8 (by simp)
    replace hb8 : Below w7.heap.size w7 w8 := ((Below.refl _ _).alloc (Nat.le_refl _) _).trans (hb8.mono (by simp))
    replace hc : Hid _ := hc.out.kept hb8 hc.out.lt
    replace HB : Hid _ := HB.out.trans (hb8.mono HB.out.size)
    clear hb8
    clear c0 c1 c2 c3 c4 c5 c6 c7 cl
    obtain ⟨c0, c1, c2, c3, c4, c5, c6, c7⟩ := hc.out
    have cl : w3.heap.size < w8.heap.size := hc.out.lt
    obtain ⟨d0, d1, d2, d3, d4, d5, d6, d7⟩ := hi.out
    have dl : w7.heap.size < w8.heap.size := hi.out.lt
    go_wp2_with fail
    refine (D4.out _ (HB.out.trans ((Below.refl _ _).alloc HB.out.size _))).mono ?_
    rintro e w9 ⟨rfl, hb9⟩
    have ho : Hid (VC w9 w8.heap.size true 0 8 1 m false false P) := (VC.new w8 26 _ _ _ _ _ _ _ _).kept hb9 (by simp)
    replace hb9 : Below w8.heap.size w8 w9 := ((Below.refl _ _).alloc (Nat.le_refl _) _).trans (hb9.mono (by simp))
    replace hc : Hid _ := hc.out.kept hb9 hc.out.lt
    replace hi : Hid _ := hi.out.kept hb9 hi.out.lt
    replace HB : Hid _ := HB.out.trans (hb9.mono HB.out.size)
    clear hb9
    clear c0 c1 c2 c3 c4 c5 c6 c7 cl
    clear d0 d1 d2 d3 d4 d5 d6 d7 dl
    obtain ⟨c0, c1, c2, c3, c4, c5, c6, c7⟩ := hc.out
    have cl : w3.heap.size < w9.heap.size := hc.out.lt
    obtain ⟨d0, d1, d2, d3, d4, d5, d6, d7⟩ := hi.out
    have dl : w7.heap.size < w9.heap.size := hi.out.lt
    go_wp2
    go_ret
    exact ⟨rfl, HB.out⟩
end Go.Proofs.YthohemncfdjdeaaDoor
