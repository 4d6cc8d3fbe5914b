
/-
  The law on who reaches whom, walked: of all bytes it returns true. Conditions: the bytes are bytes; the program's table of extras holds what the program's text lays.
-/
import Derived.Test.YtfejlmoambidaaaGreatDoorBas
import Derived.Test.YtfejlmoambidaaaGreatDoorDtd
import Derived.Test.YtfejlmoambidaaaGreatDoorJlw
import Derived.Test.YtfejlmoambidaaaGreatDoorGen
namespace Go.Proofs.YtfejlmoambidaaaGreatDoor
open Go.ChangeShapes Go.WideShapes Go.ChangeAt Go.RowKit Go.Deep Go.Joins
set_option linter.unusedVariables false

theorem big_no (a : Option Addr) (n cap : Nat) (w : World) (h : n ≤ 1048576) : Calls Tryz.prog 4 #[.slice a n cap] w fun e w' => e = .returned (.bool false) ∧ w' = w := by
  have h1 : decide (1048576 < (n : Int)) = false := decide_eq_false (by omega)
  go_enter Tryz.func4, Tryz.ntmps4
  go_wp2
  go_ret
  exact ⟨rfl, rfl⟩
theorem big_yes (a : Option Addr) (n cap : Nat) (w : World) (h : ¬ n ≤ 1048576) : Calls Tryz.prog 4 #[.slice a n cap] w fun e w' => e = .returned (.bool true) ∧ w' = w := by
  have h1 : decide (1048576 < (n : Int)) = true := decide_eq_true (by omega)
  go_enter Tryz.func4, Tryz.ntmps4
  go_wp2
  go_ret
  exact ⟨rfl, rfl⟩
set_option maxHeartbeats 2000000 in
theorem has_w (A : Option Addr) (cap : Nat) (zs : List Int) (x : Int) (q : Bool) (w : World) (hs : Seg .i64 w A zs) (hl : zs.length ≤ 1048576) (hq : decide (x ∈ zs) = q) :
    Calls Tryz.prog 7 #[.slice A zs.length cap, .int .i64 x] w fun e w' => e = .returned (.bool q) ∧ w' = w := by
  have HS : Hid (Seg .i64 w A zs) := hs
  have HQ : Hid (decide (x ∈ zs) = q) := hq
  clear hs hq
  obtain ⟨n, hn⟩ : ∃ n, n = zs.length := ⟨_, rfl⟩
  rw [← hn] at hl ⊢
  go_enter Tryz.func7, Tryz.ntmps7
  go_wp2
  go_loopw [5] (fun i wr => ∃ k : Nat, k ≤ n ∧ i = .int .i64 k ∧ wr = w ∧ Hid (∀ j, j < k → zs.getD j 0 ≠ x)) (fun i _ => n - (intOf i).toNat)
  case atStart => exact ⟨0, by omega, rfl, rfl, fun j hj => by omega⟩
  case round =>
    obtain ⟨k, hk, rfl, rfl, HR⟩ := hrel
    by_cases hkn : k < n
    rotate_left
    · obtain rfl : k = n := by omega
      have HF : Hid (q = false) := by show _ = _; rw [← HQ.out]; exact decide_eq_false (not_mem_at (by rw [← hn]; exact HR.out))
      go_wp2
      go_ret
      exact ⟨by rw [HF.out]; rfl, rfl⟩
    have hkn' : (k : Int) < (n : Int) := by omega
    obtain ⟨b, off, rfl, p⟩ := HS.out.at k (by omega)
    obtain ⟨y, HY⟩ : ∃ y, Hid (zs.getD k 0 = y) := ⟨_, rfl⟩
    rw [HY.out] at p
    by_cases hx : y = x
    · have HT : Hid (q = true) := by show _ = _; rw [← HQ.out]; exact decide_eq_true (mem_at (by omega) (HY.out.trans hx))
      subst hx
      go_wp2
      go_ret
      exact ⟨by rw [HT.out]; rfl, rfl⟩
    · have hb : (y == x) = false := by simpa using hx
      have HN : Hid (∀ j, j < k + 1 → zs.getD j 0 ≠ x) := fun j hj => by
        by_cases e : j = k
        · subst e; rw [HY.out]; exact hx
        · exact HR.out j (by omega)
      clear HR HY
      go_wp2
      go_roundw
      case rel => exact ⟨k + 1, by omega, by go_num, (by first | rfl | trivial), HN.out⟩
      case measure => simp [intOf]; omega
set_option maxHeartbeats 2000000 in
theorem same_w (A B : Option Addr) (ca cb : Nat) (zs : List Int) (w : World) (ha : Seg .i64 w A zs) (hb : Seg .i64 w B zs) (hl : zs.length ≤ 1048576) :
    Calls Tryz.prog 9 #[.slice A zs.length ca, .slice B zs.length cb] w fun e w' => e = .returned (.bool true) ∧ Below w.heap.size w w' := by
  have HS : Hid (Seg .i64 w A zs ∧ Seg .i64 w B zs) := And.intro ha hb
  clear ha hb
  obtain ⟨n, hn⟩ : ∃ n, n = zs.length := ⟨_, rfl⟩
  rw [← hn] at hl ⊢
  go_enter Tryz.func9, Tryz.ntmps9
  go_wp2
  go_loopw [5] (fun i wr => ∃ k : Nat, k ≤ n ∧ i = .int .i64 k ∧ Hid (Below w.heap.size w wr)) (fun i _ => n - (intOf i).toNat)
  case atStart => exact ⟨0, by omega, rfl, Below.refl _ _⟩
  case round =>
    obtain ⟨k, hk, rfl, HB⟩ := hrel
    by_cases hkn : k < n
    rotate_left
    · obtain rfl : k = n := by omega
      go_wp2
      go_ret
      exact ⟨rfl, HB.out⟩
    have hkn' : (k : Int) < (n : Int) := by omega
    obtain ⟨b1, o1, rfl, hb1, c1⟩ := HS.out.1.at k (by omega)
    obtain ⟨b2, o2, rfl, hb2, c2⟩ := HS.out.2.at k (by omega)
    replace c1 := (HB.out.cell (p := ⟨b1, o1 + k, none⟩) hb1).trans c1
    replace c2 := (HB.out.cell (p := ⟨b2, o2 + k, none⟩) hb2).trans c2
    generalize zs.getD k 0 = y at c1 c2
    replace c1 := fun X => gr_cell c1 X
    replace c2 := fun X => gr_cell c2 X
    clear hb1 hb2
    go_wp2
    have hgr := gr_some wr
    refine region_alike (by kernel_rfl) (by kernel_rfl) ?_
    repeat (go_big_quiet_step (fail))
    refine wpQuiet_nil ?_
    intro _ hw'
    obtain ⟨X1, rfl⟩ := hw'
    have hb3 := X1.h
    generalize X1.w = W1 at hb3 ⊢
    have HB1 : Hid (Below w.heap.size w W1) := HB.out.trans (hb3.mono HB.out.size)
    clear hb3 c1 c2
    go_wp2
    go_roundw
    case rel => exact ⟨k + 1, by omega, by go_num, HB1.out⟩
    case measure => simp [intOf]; omega
/-! ### What is known of who reaches whom -/
structure JF (t : Tb) (np : Nat) (J : Int → List Int) : Prop where
  me : ∀ p : Int, 0 ≤ p ∧ p < (np : Int) → p ∈ J p
  rng : ∀ p : Int, 0 ≤ p ∧ p < (np : Int) → ∀ x ∈ J p, 0 ≤ x ∧ x < (np : Int)
  tr : ∀ p : Int, 0 ≤ p ∧ p < (np : Int) → ∀ x ∈ J p, ∀ y ∈ J x, y ∈ J p
  asc : ∀ p : Int, ∀ i, i + 1 < (J p).length → (J p).getD i 0 < (J p).getD (i + 1) 0
  ch : ∀ i, i < t.cs.length → (0 ≤ (t.cs.getD i ch0).2.1 ∧ (t.cs.getD i ch0).2.1 < (np : Int)) ∧ (0 ≤ (t.cs.getD i ch0).2.2.1 ∧ (t.cs.getD i ch0).2.2.1 < (np : Int)) ∧ (t.cs.getD i ch0).2.1 ∈ J (t.cs.getD i ch0).2.2.1
  qu : ∀ i, i < t.cs.length → (t.cs.getD i ch0).1 = 1 → J (t.cs.getD i ch0).2.1 = J (t.cs.getD i ch0).2.2.1
  len : ∀ p : Int, (J p).length ≤ 6
theorem jf_of {t : Tb} (h : Sd t) : JF t t.ps.length (fun p => joinV t.cs t.ps.length p) := by
  have h19 := h 19 (by omega)
  have h8 := h 8 (by omega)
  simp only [R] at h19 h8
  have hw : Wi t.cs t.ps.length := fun i hi => (h19 i hi).2
  refine ⟨fun p hp => (join_mem hp hw p).2 .base, fun p hp x hx => ((join_mem hp hw x).1 hx).wi hw hp, fun p hp x hx y hy => ?_, fun p i hi => ?_, fun i hi => ⟨(hw i hi).1, (hw i hi).2, ?_⟩, fun i hi h1 => ?_, fun p => ?_⟩
  · have h1 := (join_mem hp hw x).1 hx
    have h2 := (join_mem (h1.wi hw hp) hw y).1 hy
    exact (join_mem hp hw y).2 (h1.trans h2)
  · have ha := flt_asc (its t.cs t.ps.length [p]) t.ps.length
    have := List.pairwise_iff_getElem.1 ha i (i + 1) (by unfold joinV at hi; omega) hi (by omega)
    have e1 : (joinV t.cs t.ps.length p).getD i 0 = (joinV t.cs t.ps.length p)[i] := by simp [List.getD, show i < (joinV t.cs t.ps.length p).length by omega]
    have e2 : (joinV t.cs t.ps.length p).getD (i + 1) 0 = (joinV t.cs t.ps.length p)[i + 1] := by simp [List.getD, hi]
    show (joinV t.cs t.ps.length p).getD i 0 < (joinV t.cs t.ps.length p).getD (i + 1) 0
    rw [e1, e2]
    exact this
  · exact (join_mem (hw i hi).2 hw _).2 (.step .base ⟨i, hi, .inl ⟨rfl, rfl⟩⟩)
  · refine asc_ext (flt_asc _ _) (flt_asc _ _) (fun x => ?_)
    show x ∈ joinV _ _ _ ↔ x ∈ joinV _ _ _
    rw [join_mem (hw i hi).1 hw, join_mem (hw i hi).2 hw]
    exact ⟨fun g => (Rc.step .base ⟨i, hi, .inl ⟨rfl, rfl⟩⟩ : Rc t.cs _ _).trans g, fun g => (Rc.step .base ⟨i, hi, .inr ⟨h1, rfl, rfl⟩⟩ : Rc t.cs _ _).trans g⟩
  · have := flt_len (its t.cs t.ps.length [p]) t.ps.length
    show (joinV _ _ _).length ≤ 6
    unfold joinV
    omega
structure R15 (V : World) (T0 S0 I0 P0 X0 : Value) (L0 : List Int) (w' : World) (b0 b1 b2 b3 b4 b5 b6 : Bool) (x56 x57 x58 x59 x60 x61 x7 : Value) : Prop where
  gb : Below V.heap.size V w'
  f0 : b0 = true → x56 = T0
  f1 : b1 = true → x57 = S0
  f2 : b2 = true → x58 = I0
  f3 : b3 = true → x59 = P0
  f4 : b4 = true → x60 = X0
  f5 : b5 = true → ∃ A c, x61 = .slice A (L0).length c ∧ Seg .i64 w' A (L0)
  f6 : b6 = true → ∃ A c, x7 = .slice A (L0).length c ∧ Seg .i64 w' A (L0)
theorem R15.below {V : World} {T0 S0 I0 P0 X0 : Value} {L0 : List Int} {w' w2 : World} {b0 b1 b2 b3 b4 b5 b6 : Bool} {x56 x57 x58 x59 x60 x61 x7 : Value} (h : R15 V T0 S0 I0 P0 X0 L0 w' b0 b1 b2 b3 b4 b5 b6 x56 x57 x58 x59 x60 x61 x7) (hb : Below w'.heap.size w' w2) : R15 V T0 S0 I0 P0 X0 L0 w2 b0 b1 b2 b3 b4 b5 b6 x56 x57 x58 x59 x60 x61 x7 :=
  ⟨h.gb.trans (hb.mono h.gb.size), h.f0, h.f1, h.f2, h.f3, h.f4, fun g => (by obtain ⟨A, c, e, hs⟩ := h.f5 g; exact ⟨A, c, e, hs.below hb⟩), fun g => (by obtain ⟨A, c, e, hs⟩ := h.f6 g; exact ⟨A, c, e, hs.below hb⟩)⟩
structure R25 (V : World) (T0 P0 P1 P2 X1 X2 X3 : Value) (L2 L3 : List Int) (w' : World) (b0 b1 b2 b3 b4 b5 b6 b7 b8 b9 b10 b11 b12 b13 b14 b15 b16 b17 b18 b19 b20 b21 b22 b23 : Bool) (x87 x88 x89 x90 x91 x92 x93 x94 x95 x96 x97 x98 x99 x100 x101 x102 x103 x104 x105 x106 x107 x108 x109 x110 : Value) : Prop where
  gb : Below V.heap.size V w'
  f0 : b0 = true → x87 = T0
  f1 : b1 = true → x88 = P1
  f2 : b2 = true → x89 = X2
  f3 : b3 = true → x90 = P2
  f4 : b4 = true → x91 = X3
  f5 : b5 = true → x92 = .bool true
  f6 : b6 = true → x93 = .bool false
  f7 : b7 = true → x94 = .bool false
  f8 : b8 = true → x95 = P0
  f9 : b9 = true → x96 = X1
  f10 : b10 = true → x97 = .bool true
  f11 : b11 = true → x98 = .bool true
  f12 : b12 = true → x99 = T0
  f13 : b13 = true → x100 = P1
  f14 : b14 = true → x101 = X2
  f15 : b15 = true → ∃ A c, x102 = .slice A (L2).length c ∧ Seg .i64 w' A (L2)
  f16 : b16 = true → x103 = T0
  f17 : b17 = true → x104 = P2
  f18 : b18 = true → x105 = X3
  f19 : b19 = true → ∃ A c, x106 = .slice A (L3).length c ∧ Seg .i64 w' A (L3)
  f20 : b20 = true → x107 = .bool true
  f21 : b21 = true → x108 = .bool false
  f22 : b22 = true → x109 = .bool false
  f23 : b23 = true → x110 = .bool false
theorem R25.below {V : World} {T0 P0 P1 P2 X1 X2 X3 : Value} {L2 L3 : List Int} {w' w2 : World} {b0 b1 b2 b3 b4 b5 b6 b7 b8 b9 b10 b11 b12 b13 b14 b15 b16 b17 b18 b19 b20 b21 b22 b23 : Bool} {x87 x88 x89 x90 x91 x92 x93 x94 x95 x96 x97 x98 x99 x100 x101 x102 x103 x104 x105 x106 x107 x108 x109 x110 : Value} (h : R25 V T0 P0 P1 P2 X1 X2 X3 L2 L3 w' b0 b1 b2 b3 b4 b5 b6 b7 b8 b9 b10 b11 b12 b13 b14 b15 b16 b17 b18 b19 b20 b21 b22 b23 x87 x88 x89 x90 x91 x92 x93 x94 x95 x96 x97 x98 x99 x100 x101 x102 x103 x104 x105 x106 x107 x108 x109 x110) (hb : Below w'.heap.size w' w2) : R25 V T0 P0 P1 P2 X1 X2 X3 L2 L3 w2 b0 b1 b2 b3 b4 b5 b6 b7 b8 b9 b10 b11 b12 b13 b14 b15 b16 b17 b18 b19 b20 b21 b22 b23 x87 x88 x89 x90 x91 x92 x93 x94 x95 x96 x97 x98 x99 x100 x101 x102 x103 x104 x105 x106 x107 x108 x109 x110 :=
  ⟨h.gb.trans (hb.mono h.gb.size), h.f0, h.f1, h.f2, h.f3, h.f4, h.f5, h.f6, h.f7, h.f8, h.f9, h.f10, h.f11, h.f12, h.f13, h.f14, fun g => (by obtain ⟨A, c, e, hs⟩ := h.f15 g; exact ⟨A, c, e, hs.below hb⟩), h.f16, h.f17, h.f18, fun g => (by obtain ⟨A, c, e, hs⟩ := h.f19 g; exact ⟨A, c, e, hs.below hb⟩), h.f20, h.f21, h.f22, h.f23⟩
structure R26 (V : World) (T0 P0 P1 P2 X1 X2 X3 : Value) (w' : World) (b0 b1 b2 b3 b4 b5 b6 b7 b8 b9 b10 b11 b12 b13 b14 b15 b16 b17 b18 b19 b20 b21 b22 b23 : Bool) (x87 x88 x89 x90 x91 x92 x93 x94 x95 x96 x97 x98 x99 x100 x101 x102 x103 x104 x105 x106 x107 x108 x109 x110 : Value) : Prop where
  gb : Below V.heap.size V w'
  f0 : b0 = true → x87 = T0
  f1 : b1 = true → x88 = P1
  f2 : b2 = true → x89 = X2
  f3 : b3 = true → x90 = P2
  f4 : b4 = true → x91 = X3
  f5 : b5 = true → x92 = .bool true
  f6 : b6 = true → x93 = .bool false
  f7 : b7 = true → x94 = .bool false
  f8 : b8 = true → x95 = P0
  f9 : b9 = true → x96 = X1
  f10 : b10 = true → x97 = .bool false
  f11 : b11 = true → x98 = .bool false
  f12 : b12 = true → x99 = undef
  f13 : b13 = true → x100 = undef
  f14 : b14 = true → x101 = undef
  f15 : b15 = true → x102 = undef
  f16 : b16 = true → x103 = undef
  f17 : b17 = true → x104 = undef
  f18 : b18 = true → x105 = undef
  f19 : b19 = true → x106 = undef
  f20 : b20 = true → x107 = undef
  f21 : b21 = true → x108 = undef
  f22 : b22 = true → x109 = .bool false
  f23 : b23 = true → x110 = .bool false
theorem R26.below {V : World} {T0 P0 P1 P2 X1 X2 X3 : Value} {w' w2 : World} {b0 b1 b2 b3 b4 b5 b6 b7 b8 b9 b10 b11 b12 b13 b14 b15 b16 b17 b18 b19 b20 b21 b22 b23 : Bool} {x87 x88 x89 x90 x91 x92 x93 x94 x95 x96 x97 x98 x99 x100 x101 x102 x103 x104 x105 x106 x107 x108 x109 x110 : Value} (h : R26 V T0 P0 P1 P2 X1 X2 X3 w' b0 b1 b2 b3 b4 b5 b6 b7 b8 b9 b10 b11 b12 b13 b14 b15 b16 b17 b18 b19 b20 b21 b22 b23 x87 x88 x89 x90 x91 x92 x93 x94 x95 x96 x97 x98 x99 x100 x101 x102 x103 x104 x105 x106 x107 x108 x109 x110) (hb : Below w'.heap.size w' w2) : R26 V T0 P0 P1 P2 X1 X2 X3 w2 b0 b1 b2 b3 b4 b5 b6 b7 b8 b9 b10 b11 b12 b13 b14 b15 b16 b17 b18 b19 b20 b21 b22 b23 x87 x88 x89 x90 x91 x92 x93 x94 x95 x96 x97 x98 x99 x100 x101 x102 x103 x104 x105 x106 x107 x108 x109 x110 :=
  ⟨h.gb.trans (hb.mono h.gb.size), h.f0, h.f1, h.f2, h.f3, h.f4, h.f5, h.f6, h.f7, h.f8, h.f9, h.f10, h.f11, h.f12, h.f13, h.f14, h.f15, h.f16, h.f17, h.f18, h.f19, h.f20, h.f21, h.f22, h.f23⟩
set_option maxRecDepth 40000 in
set_option maxHeartbeats 16000000 in
theorem walk_fnjoined (a : Option Addr) (cs : List Int) (cap n : Nat) (w : World) (hs : Seg .u8 w a cs) (hb : ∀ z ∈ cs, (Lit.int .u8 z).wf = true) (hl : cs.length = n) (he : TabE w) :
    Calls Tryz.prog 3 #[.slice a n cap] w fun e w' => e = .returned (.bool true) ∧ Below w.heap.size w w' := by
  by_cases hn : n ≤ 1048576
  rotate_left
  · have HY : Hid _ := big_yes a n cap w hn
    go_enter Tryz.func3, Tryz.ntmps3
    go_wp2_with fail
    refine Calls.mono HY.out ?_
    rintro e w1 ⟨rfl, rfl⟩
    go_wp2
    go_ret
    exact ⟨rfl, Below.refl _ _⟩
  have HNO : Hid _ := big_no a n cap w hn
  have HDR : Hid _ := draw_tables w a cs cap n hs hb hl hn
  have HTE : Hid (∀ X, Below w.heap.size w X → TabE X) := fun X hX => he.below hX
  clear hs hb hl he
  go_enter Tryz.func3, Tryz.ntmps3
  go_wp2_with fail
  refine Calls.mono HNO.out ?_
  rintro e w ⟨rfl, rfl⟩
  go_wp2_with fail
  refine Calls.mono HDR.out ?_
  rintro e w1 ⟨⟨t, ad, rfl, hD⟩, hb⟩
  have HNR : Hid ((w1.alloc (.cells #[.int .i64 0, .int .i64 0, .int .i64 0, .int .i64 0, .int .i64 0, .int .i64 0, .int .i64 0, .int .i64 0, .int .i64 0, .int .i64 0, .int .i64 0, .int .i64 0, .int .i64 0, .int .i64 0, .int .i64 0, .slice none 0 0, .slice none 0 0, .slice none 0 0, .slice none 0 0] 33)).heap[w1.heap.size]? = some (.cells #[.int .i64 0, .int .i64 0, .int .i64 0, .int .i64 0, .int .i64 0, .int .i64 0, .int .i64 0, .int .i64 0, .int .i64 0, .int .i64 0, .int .i64 0, .int .i64 0, .int .i64 0, .int .i64 0, .int .i64 0, .slice none 0 0, .slice none 0 0, .slice none 0 0, .slice none 0 0] 33 (0, 0))) := new_row w1 _ _ _ rfl
  have hbV : Below w1.heap.size w1 ((w1.alloc (.cells #[.int .i64 0, .int .i64 0, .int .i64 0, .int .i64 0, .int .i64 0, .int .i64 0, .int .i64 0, .int .i64 0, .int .i64 0, .int .i64 0, .int .i64 0, .int .i64 0, .int .i64 0, .int .i64 0, .int .i64 0, .slice none 0 0, .slice none 0 0, .slice none 0 0, .slice none 0 0] 33)).setRow w1.heap.size (tbA t ad)) := below_setRow ((Below.refl _ _).alloc (Nat.le_refl _) _) (Nat.le_refl _) _
  have HX : Hid (∀ X, Below ((w1.alloc (.cells #[.int .i64 0, .int .i64 0, .int .i64 0, .int .i64 0, .int .i64 0, .int .i64 0, .int .i64 0, .int .i64 0, .int .i64 0, .int .i64 0, .int .i64 0, .int .i64 0, .int .i64 0, .int .i64 0, .int .i64 0, .slice none 0 0, .slice none 0 0, .slice none 0 0, .slice none 0 0] 33)).setRow w1.heap.size (tbA t ad)).heap.size ((w1.alloc (.cells #[.int .i64 0, .int .i64 0, .int .i64 0, .int .i64 0, .int .i64 0, .int .i64 0, .int .i64 0, .int .i64 0, .int .i64 0, .int .i64 0, .int .i64 0, .int .i64 0, .int .i64 0, .int .i64 0, .int .i64 0, .slice none 0 0, .slice none 0 0, .slice none 0 0, .slice none 0 0] 33)).setRow w1.heap.size (tbA t ad)) X → X.heap[w1.heap.size]? = some (.cells (tbA t ad) 33 (0, 0))) := fun X hX => row_below (setRow_heap _ _ _ _ _ _ HNR.out) hX
  have HB1 : Hid (Below w.heap.size w ((w1.alloc (.cells #[.int .i64 0, .int .i64 0, .int .i64 0, .int .i64 0, .int .i64 0, .int .i64 0, .int .i64 0, .int .i64 0, .int .i64 0, .int .i64 0, .int .i64 0, .int .i64 0, .int .i64 0, .int .i64 0, .int .i64 0, .slice none 0 0, .slice none 0 0, .slice none 0 0, .slice none 0 0] 33)).setRow w1.heap.size (tbA t ad))) := hb.trans (hbV.mono hb.size)
  have hM : ∀ X, Below ((w1.alloc (.cells #[.int .i64 0, .int .i64 0, .int .i64 0, .int .i64 0, .int .i64 0, .int .i64 0, .int .i64 0, .int .i64 0, .int .i64 0, .int .i64 0, .int .i64 0, .int .i64 0, .int .i64 0, .int .i64 0, .int .i64 0, .slice none 0 0, .slice none 0 0, .slice none 0 0, .slice none 0 0] 33)).setRow w1.heap.size (tbA t ad)).heap.size ((w1.alloc (.cells #[.int .i64 0, .int .i64 0, .int .i64 0, .int .i64 0, .int .i64 0, .int .i64 0, .int .i64 0, .int .i64 0, .int .i64 0, .int .i64 0, .int .i64 0, .int .i64 0, .int .i64 0, .int .i64 0, .int .i64 0, .slice none 0 0, .slice none 0 0, .slice none 0 0, .slice none 0 0] 33)).setRow w1.heap.size (tbA t ad)) X → TM 0 X t ad ∧ TabE X := fun X hX => ⟨hD.m X (hbV.trans (hX.mono hbV.size)), HTE.out X (HB1.out.trans (hX.mono HB1.out.size))⟩
  obtain ⟨J, hJ⟩ : ∃ J : Int → List Int, J = fun p => joinV t.cs t.ps.length p := ⟨_, rfl⟩
  have HJF : Hid (JF t t.ps.length J) := by rw [hJ]; exact jf_of hD.d.sd
  have hjt : ∀ p : Int, 0 ≤ p ∧ p < (ad.pn : Int) → JT t p (J p) := fun p hp => .inr ⟨⟨hD.d.sd, by rw [hD.w.pl]; exact hp⟩, by rw [hJ]⟩
  have HJ : Hid (∀ (p : Int) X, (0 ≤ p ∧ p < (ad.pn : Int)) → Below ((w1.alloc (.cells #[.int .i64 0, .int .i64 0, .int .i64 0, .int .i64 0, .int .i64 0, .int .i64 0, .int .i64 0, .int .i64 0, .int .i64 0, .int .i64 0, .int .i64 0, .int .i64 0, .int .i64 0, .int .i64 0, .int .i64 0, .slice none 0 0, .slice none 0 0, .slice none 0 0, .slice none 0 0] 33)).setRow w1.heap.size (tbA t ad)).heap.size ((w1.alloc (.cells #[.int .i64 0, .int .i64 0, .int .i64 0, .int .i64 0, .int .i64 0, .int .i64 0, .int .i64 0, .int .i64 0, .int .i64 0, .int .i64 0, .int .i64 0, .int .i64 0, .int .i64 0, .int .i64 0, .int .i64 0, .slice none 0 0, .slice none 0 0, .slice none 0 0, .slice none 0 0] 33)).setRow w1.heap.size (tbA t ad)) X → Calls Tryz.prog 6 #[tbV t ad, .int .i64 p] X (LPostI X (J p))) := fun p X hp hX => impl_jo t ad p (J p) X (hM X hX).1 hD.w hD.s (hM X hX).2 hD.c1 hD.c2 (hjt p hp)
  have HIF : Hid (∀ (q p : Int) X, (0 ≤ p ∧ p < (ad.pn : Int)) → q ∈ J p → Below ((w1.alloc (.cells #[.int .i64 0, .int .i64 0, .int .i64 0, .int .i64 0, .int .i64 0, .int .i64 0, .int .i64 0, .int .i64 0, .int .i64 0, .int .i64 0, .int .i64 0, .int .i64 0, .int .i64 0, .int .i64 0, .int .i64 0, .slice none 0 0, .slice none 0 0, .slice none 0 0, .slice none 0 0] 33)).setRow w1.heap.size (tbA t ad)).heap.size ((w1.alloc (.cells #[.int .i64 0, .int .i64 0, .int .i64 0, .int .i64 0, .int .i64 0, .int .i64 0, .int .i64 0, .int .i64 0, .int .i64 0, .int .i64 0, .int .i64 0, .int .i64 0, .int .i64 0, .int .i64 0, .int .i64 0, .slice none 0 0, .slice none 0 0, .slice none 0 0, .slice none 0 0] 33)).setRow w1.heap.size (tbA t ad)) X → Calls Tryz.prog 8 #[tbV t ad, .int .i64 q, .int .i64 p] X fun e w' => e = .returned (.bool true) ∧ Below X.heap.size X w') := fun q p X hp hq hX => (impl_inf t ad q p X (hM X hX).1 hD.w hD.s (hM X hX).2 hD.c1).mono fun e w' ⟨⟨r, h1, h2⟩, h3⟩ => by
    obtain ⟨zs, h4, h5⟩ := h2
    rw [h4.unique (hjt p hp)] at h5
    exact ⟨by rw [h1, h5, decide_eq_true hq], h3⟩
  have HNP : Hid (t.ps.length = ad.pn) := hD.w.pl
  rw [HNP.out] at HJF
  have HCL : Hid (t.cs.length = ad.cn) := hD.w.cl
  have hpn : ad.pn ≤ 1048576 := hD.s.p
  have hcn : ad.cn ≤ 1048576 := hD.s.c
  have HCS : Hid (∀ X, Below ((w1.alloc (.cells #[.int .i64 0, .int .i64 0, .int .i64 0, .int .i64 0, .int .i64 0, .int .i64 0, .int .i64 0, .int .i64 0, .int .i64 0, .int .i64 0, .int .i64 0, .int .i64 0, .int .i64 0, .int .i64 0, .int .i64 0, .slice none 0 0, .slice none 0 0, .slice none 0 0, .slice none 0 0] 33)).setRow w1.heap.size (tbA t ad)).heap.size ((w1.alloc (.cells #[.int .i64 0, .int .i64 0, .int .i64 0, .int .i64 0, .int .i64 0, .int .i64 0, .int .i64 0, .int .i64 0, .int .i64 0, .int .i64 0, .int .i64 0, .int .i64 0, .int .i64 0, .int .i64 0, .int .i64 0, .slice none 0 0, .slice none 0 0, .slice none 0 0, .slice none 0 0] 33)).setRow w1.heap.size (tbA t ad)) X → GSeg 4 X ad.ca ad.cn (chX t.cs)) := fun X hX => (hM X hX).1.c.seg
  clear hb hbV hD HDR HNO HTE hM hJ hjt HNP
  go_wp2_with (first | (refine wpList_store_row rfl 33 (.tmp 3) (.tmp 14) rfl w1.heap.size (tbA t ad) rfl rfl 33 #[.int .i64 0, .int .i64 0, .int .i64 0, .int .i64 0, .int .i64 0, .int .i64 0, .int .i64 0, .int .i64 0, .int .i64 0, .int .i64 0, .int .i64 0, .int .i64 0, .int .i64 0, .int .i64 0, .int .i64 0, .slice none 0 0, .slice none 0 0, .slice none 0 0, .slice none 0 0] HNR.out (by kernel_rfl) rfl (by simp [Value.oneCell']) ?_) | fail)
  clear HNR
  revert HX HB1 HJ HIF HCS
  generalize ((w1.alloc (.cells #[.int .i64 0, .int .i64 0, .int .i64 0, .int .i64 0, .int .i64 0, .int .i64 0, .int .i64 0, .int .i64 0, .int .i64 0, .int .i64 0, .int .i64 0, .int .i64 0, .int .i64 0, .int .i64 0, .int .i64 0, .slice none 0 0, .slice none 0 0, .slice none 0 0, .slice none 0 0] 33)).setRow w1.heap.size (tbA t ad)) = V
  generalize w1.heap.size = N
  intro HX HB1 HJ HIF HCS
  go_loopw [4] (fun i wr => ∃ k : Nat, k ≤ ad.pn ∧ i = .int .i64 k ∧ Hid (Below V.heap.size V wr)) (fun i _ => ad.pn - (intOf i).toNat)
  case atStart => exact ⟨0, by omega, rfl, Below.refl _ _⟩
  case round =>
    obtain ⟨k, hk, rfl, HBW⟩ := hrel
    have k15 : wr.cell? ⟨N, 15, none⟩ = some (.slice ad.pa ad.pn ad.pc) := TBx.cell (HX.out _ HBW.out) 15 rfl
    by_cases hkn : k < ad.pn
    rotate_left
    · obtain rfl : k = ad.pn := by omega
      have hkn' : ¬ ((ad.pn : Int) < (ad.pn : Int)) := by omega
      go_wp2
      go_loopw [9] (fun i wr => ∃ j : Nat, j ≤ ad.cn ∧ i = .int .i64 j ∧ Hid (Below V.heap.size V wr)) (fun i _ => ad.cn - (intOf i).toNat)
      case atStart => exact ⟨0, by omega, rfl, HBW.out⟩
      case round =>
        clear HBW k15
        obtain ⟨j, hj, rfl, HBW⟩ := hrel
        have k17 : wr.cell? ⟨N, 17, none⟩ = some (.slice ad.ca ad.cn ad.cc) := TBx.cell (HX.out _ HBW.out) 17 rfl
        by_cases hjn : j < ad.cn
        rotate_left
        · obtain rfl : j = ad.cn := by omega
          have hjn' : ¬ ((ad.cn : Int) < (ad.cn : Int)) := by omega
          go_wp2
          go_ret
          exact ⟨rfl, HB1.out.trans (HBW.out.mono HB1.out.size)⟩
        have hjn' : (j : Int) < (ad.cn : Int) := by omega
        obtain ⟨b1, o1, hca, hbl1, p1⟩ := (HCS.out _ HBW.out).at j hjn
        simp only [chX] at p1
        have hch := HJF.out.ch j (by rw [HCL.out]; exact hjn)
        have hqu := HJF.out.qu j (by rw [HCL.out]; exact hjn)
        generalize t.cs.getD j ch0 = x at p1 hch hqu
        obtain ⟨c0, c1, c2, c3⟩ := ch_cells p1
        obtain ⟨x1, x2, x3, x4⟩ := x
        simp only at c0 c1 c2 c3 hch hqu
        rw [hca] at k17
        have HXR : Hid ((0 ≤ x2 ∧ x2 < (ad.pn : Int)) ∧ (0 ≤ x3 ∧ x3 < (ad.pn : Int)) ∧ x2 ∈ J x3) := hch
        have HQU : Hid (x1 = 1 → J x2 = J x3) := hqu
        have HRa0 : Hid ((wr.alloc (.cells #[.int .i64 x1, .int .i64 x2, .int .i64 x3, .int .i64 x4] 39)).heap[wr.heap.size]? = some (.cells #[.int .i64 x1, .int .i64 x2, .int .i64 x3, .int .i64 x4] 39 (0, 0))) := new_row wr _ _ _ rfl
        have HBa0 : Hid (Below V.heap.size V (wr.alloc (.cells #[.int .i64 x1, .int .i64 x2, .int .i64 x3, .int .i64 x4] 39))) := HBW.out.alloc HBW.out.size _
        clear p1 hbl1 hch hqu HBW hca
        go_wp2
        revert HRa0 HBa0
        generalize wr.alloc (.cells #[.int .i64 x1, .int .i64 x2, .int .i64 x3, .int .i64 x4] 39) = wa
        generalize wr.heap.size = M
        intro HR HBV
        clear c0 c1 c2 c3 k17
        have HCE : Hid ((∀ X, Below wa.heap.size wa X → X.cell? ⟨M, 0, none⟩ = some (.int .i64 x1)) ∧ (∀ X, Below wa.heap.size wa X → X.cell? ⟨M, 1, none⟩ = some (.int .i64 x2)) ∧ (∀ X, Below wa.heap.size wa X → X.cell? ⟨M, 2, none⟩ = some (.int .i64 x3))) := ⟨fun X hX => row_cell (row_below HR.out hX) _ _ rfl, fun X hX => row_cell (row_below HR.out hX) _ _ rfl, fun X hX => row_cell (row_below HR.out hX) _ _ rfl⟩
        have HXB : Hid (∀ X, Below wa.heap.size wa X → X.heap[N]? = some (.cells (tbA t ad) 33 (0, 0))) := fun X hX => HX.out X (HBV.out.trans (hX.mono HBV.out.size))
        have HJB : Hid (∀ (p : Int) X, (0 ≤ p ∧ p < (ad.pn : Int)) → Below wa.heap.size wa X → Calls Tryz.prog 6 #[tbV t ad, .int .i64 p] X (LPostI X (J p))) := fun p X hp hX => HJ.out p X hp (HBV.out.trans (hX.mono HBV.out.size))
        have HIB : Hid (∀ (q p : Int) X, (0 ≤ p ∧ p < (ad.pn : Int)) → q ∈ J p → Below wa.heap.size wa X → Calls Tryz.prog 8 #[tbV t ad, .int .i64 q, .int .i64 p] X fun e w' => e = .returned (.bool true) ∧ Below X.heap.size X w') := fun q p X hp hq hX => HIF.out q p X hp hq (HBV.out.trans (hX.mono HBV.out.size))
        by_cases hx1 : x1 = 1
        rotate_left
        · have hb1 : (x1 == 1) = false := by simpa using hx1
          have HK2 : Hid ((x1 == 1) = false) := hb1
          have HW0 : Hid (Below wa.heap.size wa wa) := Below.refl _ _
          clear hx1 hb1
          refine wp_region_inv (by kernel_rfl) (by kernel_rfl) (fun A ℓ a' w' => ∃ (x87 x88 x89 x90 x91 x92 x93 x94 x95 x96 x97 x98 x99 x100 x101 x102 x103 x104 x105 x106 x107 x108 x109 x110 : Value), a' = ((((((((((((((((((((((((A.put (some 87) x87).put (some 88) x88).put (some 89) x89).put (some 90) x90).put (some 91) x91).put (some 92) x92).put (some 93) x93).put (some 94) x94).put (some 95) x95).put (some 96) x96).put (some 97) x97).put (some 98) x98).put (some 99) x99).put (some 100) x100).put (some 101) x101).put (some 102) x102).put (some 103) x103).put (some 104) x104).put (some 105) x105).put (some 106) x106).put (some 107) x107).put (some 108) x108).put (some 109) x109).put (some 110) x110) ∧ R26 wa (tbV t ad) (.pointer (some ⟨M, 0, none⟩)) (.pointer (some ⟨M, 1, none⟩)) (.pointer (some ⟨M, 2, none⟩)) (.int .i64 x1) (.int .i64 x2) (.int .i64 x3) w' (ℓ 0) (ℓ 1) (ℓ 2) (ℓ 3) (ℓ 4) (ℓ 5) (ℓ 6) (ℓ 7) (ℓ 8) (ℓ 9) (ℓ 10) (ℓ 11) (ℓ 12) (ℓ 13) (ℓ 14) (ℓ 15) (ℓ 16) (ℓ 17) (ℓ 18) (ℓ 19) (ℓ 20) (ℓ 21) (ℓ 22) (ℓ 23) x87 x88 x89 x90 x91 x92 x93 x94 x95 x96 x97 x98 x99 x100 x101 x102 x103 x104 x105 x106 x107 x108 x109 x110) ?_ ?_ ?_ ?_
          · exact ⟨u87, u88, u89, u90, u91, u92, u93, u94, u95, u96, u97, u98, u99, u100, u101, u102, u103, u104, u105, u106, u107, u108, u109, u110, (by simp only [Act.put, List.setIfInBounds_toArray, List.set_cons_zero, List.set_cons_succ]), ⟨HW0.out.drew, (fun g => by cases g), (fun g => by cases g), (fun g => by cases g), (fun g => by cases g), (fun g => by cases g), (fun g => by cases g), (fun g => by cases g), (fun g => by cases g), (fun g => by cases g), (fun g => by cases g), (fun g => by cases g), (fun g => by cases g), (fun g => by cases g), (fun g => by cases g), (fun g => by cases g), (fun g => by cases g), (fun g => by cases g), (fun g => by cases g), (fun g => by cases g), (fun g => by cases g), (fun g => by cases g), (fun g => by cases g), (fun g => by cases g), (fun g => by cases g)⟩⟩
          · intro ℓ a' w' hI hall
            obtain ⟨x87, x88, x89, x90, x91, x92, x93, x94, x95, x96, x97, x98, x99, x100, x101, x102, x103, x104, x105, x106, x107, x108, x109, x110, rfl, hr⟩ := hI
            have hall' : ∀ i, i < 24 → ℓ i = true := hall
            obtain rfl := hr.f0 (hall' 0 (by decide))
            obtain rfl := hr.f1 (hall' 1 (by decide))
            obtain rfl := hr.f2 (hall' 2 (by decide))
            obtain rfl := hr.f3 (hall' 3 (by decide))
            obtain rfl := hr.f4 (hall' 4 (by decide))
            obtain rfl := hr.f5 (hall' 5 (by decide))
            obtain rfl := hr.f6 (hall' 6 (by decide))
            obtain rfl := hr.f7 (hall' 7 (by decide))
            obtain rfl := hr.f8 (hall' 8 (by decide))
            obtain rfl := hr.f9 (hall' 9 (by decide))
            obtain rfl := hr.f10 (hall' 10 (by decide))
            obtain rfl := hr.f11 (hall' 11 (by decide))
            obtain rfl := hr.f12 (hall' 12 (by decide))
            obtain rfl := hr.f13 (hall' 13 (by decide))
            obtain rfl := hr.f14 (hall' 14 (by decide))
            obtain rfl := hr.f15 (hall' 15 (by decide))
            obtain rfl := hr.f16 (hall' 16 (by decide))
            obtain rfl := hr.f17 (hall' 17 (by decide))
            obtain rfl := hr.f18 (hall' 18 (by decide))
            obtain rfl := hr.f19 (hall' 19 (by decide))
            obtain rfl := hr.f20 (hall' 20 (by decide))
            obtain rfl := hr.f21 (hall' 21 (by decide))
            obtain rfl := hr.f22 (hall' 22 (by decide))
            obtain rfl := hr.f23 (hall' 23 (by decide))
            have gb : Hid (Below wa.heap.size wa w') := hr.gb
            clear hall hall' hr
            simp only [Act.put, List.setIfInBounds_toArray, List.set_cons_zero, List.set_cons_succ]
            have HBN : Hid (Below V.heap.size V w') := HBV.out.trans (gb.out.mono HBV.out.size)
            clear gb
            go_wp2
            go_roundw
            case rel => exact ⟨j + 1, by omega, by go_num, HBN.out⟩
            case measure => simp [intOf]; omega
          · intro ℓ a' w' i o hI ho hi hL hdep K hK
            obtain ⟨x87, x88, x89, x90, x91, x92, x93, x94, x95, x96, x97, x98, x99, x100, x101, x102, x103, x104, x105, x106, x107, x108, x109, x110, rfl, hr⟩ := hI
            have hi7 : i < 24 := hi
            have hcs : i = 0 ∨ i = 1 ∨ i = 2 ∨ i = 3 ∨ i = 4 ∨ i = 5 ∨ i = 6 ∨ i = 7 ∨ i = 8 ∨ i = 9 ∨ i = 10 ∨ i = 11 ∨ i = 12 ∨ i = 13 ∨ i = 14 ∨ i = 15 ∨ i = 16 ∨ i = 17 ∨ i = 18 ∨ i = 19 ∨ i = 20 ∨ i = 21 ∨ i = 22 ∨ i = 23 := by omega
            clear hi hi7
            rcases hcs with rfl | rfl | rfl | rfl | rfl | rfl | rfl | rfl | rfl | rfl | rfl | rfl | rfl | rfl | rfl | rfl | rfl | rfl | rfl | rfl | rfl | rfl | rfl | rfl
            · replace ho : some ({ dst := some 87, op := .load 33 (.tmp 3), type := 33, pos := "laws.go:412", after := #[], guard := none } : Oper) = some o := ho
              obtain rfl := Option.some.inj ho
              clear hdep ho
              revert hK
              intro hK
              rw [if_pos (by rfl)]
              try simp only [Act.put, List.setIfInBounds_toArray, List.set_cons_zero, List.set_cons_succ]
              refine wp_load_row (P := Tryz.prog) 33 (.tmp 3) rfl N rfl 33 (tbA t ad) (0, 0) _ (HXB.out _ hr.gb) Tryz.underlying33 rfl (by kernel_rfl) ?_
              exact hK.out _ _ (fun j => if j = 0 then true else ℓ j) ⟨tbV t ad, x88, x89, x90, x91, x92, x93, x94, x95, x96, x97, x98, x99, x100, x101, x102, x103, x104, x105, x106, x107, x108, x109, x110, (by simp only [Act.put, List.setIfInBounds_toArray, List.set_cons_zero, List.set_cons_succ]), ⟨hr.gb, (fun _ => rfl), hr.f1, hr.f2, hr.f3, hr.f4, hr.f5, hr.f6, hr.f7, hr.f8, hr.f9, hr.f10, hr.f11, hr.f12, hr.f13, hr.f14, hr.f15, hr.f16, hr.f17, hr.f18, hr.f19, hr.f20, hr.f21, hr.f22, hr.f23⟩⟩ (if_pos rfl) (fun j hj => if_neg hj)
            · obtain rfl := Option.some.inj ho
              clear hdep ho
              revert hK
              intro hK
              rw [if_pos (by rfl)]
              try simp only [Act.put, List.setIfInBounds_toArray, List.set_cons_zero, List.set_cons_succ]
              go_simp
              exact hK.out _ _ (fun j => if j = 1 then true else ℓ j) ⟨x87, .pointer (some ⟨M, 1, none⟩), x89, x90, x91, x92, x93, x94, x95, x96, x97, x98, x99, x100, x101, x102, x103, x104, x105, x106, x107, x108, x109, x110, (by simp only [Act.put, List.setIfInBounds_toArray, List.set_cons_zero, List.set_cons_succ]), ⟨hr.gb, hr.f0, (fun _ => rfl), hr.f2, hr.f3, hr.f4, hr.f5, hr.f6, hr.f7, hr.f8, hr.f9, hr.f10, hr.f11, hr.f12, hr.f13, hr.f14, hr.f15, hr.f16, hr.f17, hr.f18, hr.f19, hr.f20, hr.f21, hr.f22, hr.f23⟩⟩ (if_pos rfl) (fun j hj => if_neg hj)
            · obtain rfl := Option.some.inj ho
              have g1 : ℓ 1 = true := hdep { on := 1, ground := Ground.data } (by simp) rfl
              clear hdep ho
              revert hK
              obtain rfl := hr.f1 g1
              have hcx : w'.cell? ⟨M, 1, none⟩ = some (.int .i64 x2) := HCE.out.2.1 _ hr.gb
              intro hK
              rw [if_pos (by rfl)]
              try simp only [Act.put, List.setIfInBounds_toArray, List.set_cons_zero, List.set_cons_succ]
              go_simp
              exact hK.out _ _ (fun j => if j = 2 then true else ℓ j) ⟨x87, .pointer (some ⟨M, 1, none⟩), .int .i64 x2, x90, x91, x92, x93, x94, x95, x96, x97, x98, x99, x100, x101, x102, x103, x104, x105, x106, x107, x108, x109, x110, (by simp only [Act.put, List.setIfInBounds_toArray, List.set_cons_zero, List.set_cons_succ]), ⟨hr.gb, hr.f0, (fun _ => rfl), (fun _ => rfl), hr.f3, hr.f4, hr.f5, hr.f6, hr.f7, hr.f8, hr.f9, hr.f10, hr.f11, hr.f12, hr.f13, hr.f14, hr.f15, hr.f16, hr.f17, hr.f18, hr.f19, hr.f20, hr.f21, hr.f22, hr.f23⟩⟩ (if_pos rfl) (fun j hj => if_neg hj)
            · obtain rfl := Option.some.inj ho
              clear hdep ho
              revert hK
              intro hK
              rw [if_pos (by rfl)]
              try simp only [Act.put, List.setIfInBounds_toArray, List.set_cons_zero, List.set_cons_succ]
              go_simp
              exact hK.out _ _ (fun j => if j = 3 then true else ℓ j) ⟨x87, x88, x89, .pointer (some ⟨M, 2, none⟩), x91, x92, x93, x94, x95, x96, x97, x98, x99, x100, x101, x102, x103, x104, x105, x106, x107, x108, x109, x110, (by simp only [Act.put, List.setIfInBounds_toArray, List.set_cons_zero, List.set_cons_succ]), ⟨hr.gb, hr.f0, hr.f1, hr.f2, (fun _ => rfl), hr.f4, hr.f5, hr.f6, hr.f7, hr.f8, hr.f9, hr.f10, hr.f11, hr.f12, hr.f13, hr.f14, hr.f15, hr.f16, hr.f17, hr.f18, hr.f19, hr.f20, hr.f21, hr.f22, hr.f23⟩⟩ (if_pos rfl) (fun j hj => if_neg hj)
            · obtain rfl := Option.some.inj ho
              have g3 : ℓ 3 = true := hdep { on := 3, ground := Ground.data } (by simp) rfl
              clear hdep ho
              revert hK
              obtain rfl := hr.f3 g3
              have hcx : w'.cell? ⟨M, 2, none⟩ = some (.int .i64 x3) := HCE.out.2.2 _ hr.gb
              intro hK
              rw [if_pos (by rfl)]
              try simp only [Act.put, List.setIfInBounds_toArray, List.set_cons_zero, List.set_cons_succ]
              go_simp
              exact hK.out _ _ (fun j => if j = 4 then true else ℓ j) ⟨x87, x88, x89, .pointer (some ⟨M, 2, none⟩), .int .i64 x3, x92, x93, x94, x95, x96, x97, x98, x99, x100, x101, x102, x103, x104, x105, x106, x107, x108, x109, x110, (by simp only [Act.put, List.setIfInBounds_toArray, List.set_cons_zero, List.set_cons_succ]), ⟨hr.gb, hr.f0, hr.f1, hr.f2, (fun _ => rfl), (fun _ => rfl), hr.f5, hr.f6, hr.f7, hr.f8, hr.f9, hr.f10, hr.f11, hr.f12, hr.f13, hr.f14, hr.f15, hr.f16, hr.f17, hr.f18, hr.f19, hr.f20, hr.f21, hr.f22, hr.f23⟩⟩ (if_pos rfl) (fun j hj => if_neg hj)
            · obtain rfl := Option.some.inj ho
              have g0 : ℓ 0 = true := hdep { on := 0, ground := Ground.data } (by simp) rfl
              have g2 : ℓ 2 = true := hdep { on := 2, ground := Ground.data } (by simp) rfl
              have g4 : ℓ 4 = true := hdep { on := 4, ground := Ground.data } (by simp) rfl
              clear hdep ho
              revert hK
              obtain rfl := hr.f0 g0
              obtain rfl := hr.f2 g2
              obtain rfl := hr.f4 g4
              intro hK
              rw [if_pos (by rfl)]
              try simp only [Act.put, List.setIfInBounds_toArray, List.set_cons_zero, List.set_cons_succ]
              go_simp
              refine Calls.mono (HIB.out x2 x3 _ HXR.out.2.1 HXR.out.2.2 hr.gb) ?_
              rintro e w9 ⟨rfl, hb9⟩
              have hr9 := hr.below hb9
              exact hK.out _ _ (fun j => if j = 5 then true else ℓ j) ⟨tbV t ad, x88, .int .i64 x2, x90, .int .i64 x3, .bool true, x93, x94, x95, x96, x97, x98, x99, x100, x101, x102, x103, x104, x105, x106, x107, x108, x109, x110, (by simp only [Act.put, List.setIfInBounds_toArray, List.set_cons_zero, List.set_cons_succ]), ⟨hr9.gb, (fun _ => rfl), hr9.f1, (fun _ => rfl), hr9.f3, (fun _ => rfl), (fun _ => rfl), hr9.f6, hr9.f7, hr9.f8, hr9.f9, hr9.f10, hr9.f11, hr9.f12, hr9.f13, hr9.f14, hr9.f15, hr9.f16, hr9.f17, hr9.f18, hr9.f19, hr9.f20, hr9.f21, hr9.f22, hr9.f23⟩⟩ (if_pos rfl) (fun j hj => if_neg hj)
            · obtain rfl := Option.some.inj ho
              have g5 : ℓ 5 = true := hdep { on := 5, ground := Ground.data } (by simp) rfl
              clear hdep ho
              revert hK
              obtain rfl := hr.f5 g5
              intro hK
              rw [if_pos (by rfl)]
              try simp only [Act.put, List.setIfInBounds_toArray, List.set_cons_zero, List.set_cons_succ]
              go_simp
              exact hK.out _ _ (fun j => if j = 6 then true else ℓ j) ⟨x87, x88, x89, x90, x91, .bool true, .bool false, x94, x95, x96, x97, x98, x99, x100, x101, x102, x103, x104, x105, x106, x107, x108, x109, x110, (by simp only [Act.put, List.setIfInBounds_toArray, List.set_cons_zero, List.set_cons_succ]), ⟨hr.gb, hr.f0, hr.f1, hr.f2, hr.f3, hr.f4, (fun _ => rfl), (fun _ => rfl), hr.f7, hr.f8, hr.f9, hr.f10, hr.f11, hr.f12, hr.f13, hr.f14, hr.f15, hr.f16, hr.f17, hr.f18, hr.f19, hr.f20, hr.f21, hr.f22, hr.f23⟩⟩ (if_pos rfl) (fun j hj => if_neg hj)
            · obtain rfl := Option.some.inj ho
              have g6 : ℓ 6 = true := hdep { on := 6, ground := Ground.data } (by simp) rfl
              clear hdep ho
              revert hK
              obtain rfl := hr.f6 g6
              intro hK
              rw [if_pos (by rfl)]
              try simp only [Act.put, List.setIfInBounds_toArray, List.set_cons_zero, List.set_cons_succ]
              go_simp
              exact hK.out _ _ (fun j => if j = 7 then true else ℓ j) ⟨x87, x88, x89, x90, x91, x92, .bool false, .bool false, x95, x96, x97, x98, x99, x100, x101, x102, x103, x104, x105, x106, x107, x108, x109, x110, (by simp only [Act.put, List.setIfInBounds_toArray, List.set_cons_zero, List.set_cons_succ]), ⟨hr.gb, hr.f0, hr.f1, hr.f2, hr.f3, hr.f4, hr.f5, (fun _ => rfl), (fun _ => rfl), hr.f8, hr.f9, hr.f10, hr.f11, hr.f12, hr.f13, hr.f14, hr.f15, hr.f16, hr.f17, hr.f18, hr.f19, hr.f20, hr.f21, hr.f22, hr.f23⟩⟩ (if_pos rfl) (fun j hj => if_neg hj)
            · obtain rfl := Option.some.inj ho
              have g7 : ℓ 7 = true := hdep { on := 7, ground := Ground.guard } (by simp) rfl
              clear hdep ho
              revert hK
              obtain rfl := hr.f7 g7
              intro hK
              try simp only [Act.put, List.setIfInBounds_toArray, List.set_cons_zero, List.set_cons_succ]
              rw [if_pos (by rfl)]
              try simp only [Act.put, List.setIfInBounds_toArray, List.set_cons_zero, List.set_cons_succ]
              go_simp
              exact hK.out _ _ (fun j => if j = 8 then true else ℓ j) ⟨x87, x88, x89, x90, x91, x92, x93, .bool false, .pointer (some ⟨M, 0, none⟩), x96, x97, x98, x99, x100, x101, x102, x103, x104, x105, x106, x107, x108, x109, x110, (by simp only [Act.put, List.setIfInBounds_toArray, List.set_cons_zero, List.set_cons_succ]), ⟨hr.gb, hr.f0, hr.f1, hr.f2, hr.f3, hr.f4, hr.f5, hr.f6, (fun _ => rfl), (fun _ => rfl), hr.f9, hr.f10, hr.f11, hr.f12, hr.f13, hr.f14, hr.f15, hr.f16, hr.f17, hr.f18, hr.f19, hr.f20, hr.f21, hr.f22, hr.f23⟩⟩ (if_pos rfl) (fun j hj => if_neg hj)
            · obtain rfl := Option.some.inj ho
              have g8 : ℓ 8 = true := hdep { on := 8, ground := Ground.data } (by simp) rfl
              have g7 : ℓ 7 = true := hdep { on := 7, ground := Ground.guard } (by simp) rfl
              clear hdep ho
              revert hK
              obtain rfl := hr.f7 g7
              obtain rfl := hr.f8 g8
              have hcx : w'.cell? ⟨M, 0, none⟩ = some (.int .i64 x1) := HCE.out.1 _ hr.gb
              intro hK
              try simp only [Act.put, List.setIfInBounds_toArray, List.set_cons_zero, List.set_cons_succ]
              rw [if_pos (by rfl)]
              try simp only [Act.put, List.setIfInBounds_toArray, List.set_cons_zero, List.set_cons_succ]
              go_simp
              exact hK.out _ _ (fun j => if j = 9 then true else ℓ j) ⟨x87, x88, x89, x90, x91, x92, x93, .bool false, .pointer (some ⟨M, 0, none⟩), .int .i64 x1, x97, x98, x99, x100, x101, x102, x103, x104, x105, x106, x107, x108, x109, x110, (by simp only [Act.put, List.setIfInBounds_toArray, List.set_cons_zero, List.set_cons_succ]), ⟨hr.gb, hr.f0, hr.f1, hr.f2, hr.f3, hr.f4, hr.f5, hr.f6, (fun _ => rfl), (fun _ => rfl), (fun _ => rfl), hr.f10, hr.f11, hr.f12, hr.f13, hr.f14, hr.f15, hr.f16, hr.f17, hr.f18, hr.f19, hr.f20, hr.f21, hr.f22, hr.f23⟩⟩ (if_pos rfl) (fun j hj => if_neg hj)
            · obtain rfl := Option.some.inj ho
              have g9 : ℓ 9 = true := hdep { on := 9, ground := Ground.data } (by simp) rfl
              have g7 : ℓ 7 = true := hdep { on := 7, ground := Ground.guard } (by simp) rfl
              clear hdep ho
              revert hK
              obtain rfl := hr.f7 g7
              obtain rfl := hr.f9 g9
              have hb1 := HK2.out
              intro hK
              try simp only [Act.put, List.setIfInBounds_toArray, List.set_cons_zero, List.set_cons_succ]
              rw [if_pos (by rfl)]
              try simp only [Act.put, List.setIfInBounds_toArray, List.set_cons_zero, List.set_cons_succ]
              go_simp
              exact hK.out _ _ (fun j => if j = 10 then true else ℓ j) ⟨x87, x88, x89, x90, x91, x92, x93, .bool false, x95, .int .i64 x1, .bool false, x98, x99, x100, x101, x102, x103, x104, x105, x106, x107, x108, x109, x110, (by simp only [Act.put, List.setIfInBounds_toArray, List.set_cons_zero, List.set_cons_succ]), ⟨hr.gb, hr.f0, hr.f1, hr.f2, hr.f3, hr.f4, hr.f5, hr.f6, (fun _ => rfl), hr.f8, (fun _ => rfl), (fun _ => rfl), hr.f11, hr.f12, hr.f13, hr.f14, hr.f15, hr.f16, hr.f17, hr.f18, hr.f19, hr.f20, hr.f21, hr.f22, hr.f23⟩⟩ (if_pos rfl) (fun j hj => if_neg hj)
            · obtain rfl := Option.some.inj ho
              have g10 : ℓ 10 = true := hdep { on := 10, ground := Ground.data } (by simp) rfl
              have g7 : ℓ 7 = true := hdep { on := 7, ground := Ground.guard } (by simp) rfl
              clear hdep ho
              revert hK
              obtain rfl := hr.f7 g7
              obtain rfl := hr.f10 g10
              intro hK
              try simp only [Act.put, List.setIfInBounds_toArray, List.set_cons_zero, List.set_cons_succ]
              rw [if_pos (by rfl)]
              try simp only [Act.put, List.setIfInBounds_toArray, List.set_cons_zero, List.set_cons_succ]
              go_simp
              exact hK.out _ _ (fun j => if j = 11 then true else ℓ j) ⟨x87, x88, x89, x90, x91, x92, x93, .bool false, x95, x96, .bool false, .bool false, x99, x100, x101, x102, x103, x104, x105, x106, x107, x108, x109, x110, (by simp only [Act.put, List.setIfInBounds_toArray, List.set_cons_zero, List.set_cons_succ]), ⟨hr.gb, hr.f0, hr.f1, hr.f2, hr.f3, hr.f4, hr.f5, hr.f6, (fun _ => rfl), hr.f8, hr.f9, (fun _ => rfl), (fun _ => rfl), hr.f12, hr.f13, hr.f14, hr.f15, hr.f16, hr.f17, hr.f18, hr.f19, hr.f20, hr.f21, hr.f22, hr.f23⟩⟩ (if_pos rfl) (fun j hj => if_neg hj)
            · obtain rfl := Option.some.inj ho
              have g11 : ℓ 11 = true := hdep { on := 11, ground := Ground.guard } (by simp) rfl
              clear hdep ho
              revert hK
              obtain rfl := hr.f11 g11
              intro hK
              try simp only [Act.put, List.setIfInBounds_toArray, List.set_cons_zero, List.set_cons_succ]
              rw [if_neg (by exact fun h => Bool.false_ne_true h)]
              try simp only [List.getElem_toArray, List.getElem_cons_zero, List.getElem_cons_succ, List.set_cons_zero, List.set_cons_succ]
              exact hK.out _ _ (fun j => if j = 12 then true else ℓ j) ⟨x87, x88, x89, x90, x91, x92, x93, x94, x95, x96, x97, .bool false, undef, x100, x101, x102, x103, x104, x105, x106, x107, x108, x109, x110, (by simp only [Act.put, List.setIfInBounds_toArray, List.set_cons_zero, List.set_cons_succ]), ⟨hr.gb, hr.f0, hr.f1, hr.f2, hr.f3, hr.f4, hr.f5, hr.f6, hr.f7, hr.f8, hr.f9, hr.f10, (fun _ => rfl), (fun _ => rfl), hr.f13, hr.f14, hr.f15, hr.f16, hr.f17, hr.f18, hr.f19, hr.f20, hr.f21, hr.f22, hr.f23⟩⟩ (if_pos rfl) (fun j hj => if_neg hj)
            · obtain rfl := Option.some.inj ho
              have g11 : ℓ 11 = true := hdep { on := 11, ground := Ground.guard } (by simp) rfl
              clear hdep ho
              revert hK
              obtain rfl := hr.f11 g11
              intro hK
              try simp only [Act.put, List.setIfInBounds_toArray, List.set_cons_zero, List.set_cons_succ]
              rw [if_neg (by exact fun h => Bool.false_ne_true h)]
              try simp only [List.getElem_toArray, List.getElem_cons_zero, List.getElem_cons_succ, List.set_cons_zero, List.set_cons_succ]
              exact hK.out _ _ (fun j => if j = 13 then true else ℓ j) ⟨x87, x88, x89, x90, x91, x92, x93, x94, x95, x96, x97, .bool false, x99, undef, x101, x102, x103, x104, x105, x106, x107, x108, x109, x110, (by simp only [Act.put, List.setIfInBounds_toArray, List.set_cons_zero, List.set_cons_succ]), ⟨hr.gb, hr.f0, hr.f1, hr.f2, hr.f3, hr.f4, hr.f5, hr.f6, hr.f7, hr.f8, hr.f9, hr.f10, (fun _ => rfl), hr.f12, (fun _ => rfl), hr.f14, hr.f15, hr.f16, hr.f17, hr.f18, hr.f19, hr.f20, hr.f21, hr.f22, hr.f23⟩⟩ (if_pos rfl) (fun j hj => if_neg hj)
            · obtain rfl := Option.some.inj ho
              have g11 : ℓ 11 = true := hdep { on := 11, ground := Ground.guard } (by simp) rfl
              clear hdep ho
              revert hK
              obtain rfl := hr.f11 g11
              intro hK
              try simp only [Act.put, List.setIfInBounds_toArray, List.set_cons_zero, List.set_cons_succ]
              rw [if_neg (by exact fun h => Bool.false_ne_true h)]
              try simp only [List.getElem_toArray, List.getElem_cons_zero, List.getElem_cons_succ, List.set_cons_zero, List.set_cons_succ]
              exact hK.out _ _ (fun j => if j = 14 then true else ℓ j) ⟨x87, x88, x89, x90, x91, x92, x93, x94, x95, x96, x97, .bool false, x99, x100, undef, x102, x103, x104, x105, x106, x107, x108, x109, x110, (by simp only [Act.put, List.setIfInBounds_toArray, List.set_cons_zero, List.set_cons_succ]), ⟨hr.gb, hr.f0, hr.f1, hr.f2, hr.f3, hr.f4, hr.f5, hr.f6, hr.f7, hr.f8, hr.f9, hr.f10, (fun _ => rfl), hr.f12, hr.f13, (fun _ => rfl), hr.f15, hr.f16, hr.f17, hr.f18, hr.f19, hr.f20, hr.f21, hr.f22, hr.f23⟩⟩ (if_pos rfl) (fun j hj => if_neg hj)
            · obtain rfl := Option.some.inj ho
              have g11 : ℓ 11 = true := hdep { on := 11, ground := Ground.guard } (by simp) rfl
              clear hdep ho
              revert hK
              obtain rfl := hr.f11 g11
              intro hK
              try simp only [Act.put, List.setIfInBounds_toArray, List.set_cons_zero, List.set_cons_succ]
              rw [if_neg (by exact fun h => Bool.false_ne_true h)]
              try simp only [List.getElem_toArray, List.getElem_cons_zero, List.getElem_cons_succ, List.set_cons_zero, List.set_cons_succ]
              exact hK.out _ _ (fun j => if j = 15 then true else ℓ j) ⟨x87, x88, x89, x90, x91, x92, x93, x94, x95, x96, x97, .bool false, x99, x100, x101, undef, x103, x104, x105, x106, x107, x108, x109, x110, (by simp only [Act.put, List.setIfInBounds_toArray, List.set_cons_zero, List.set_cons_succ]), ⟨hr.gb, hr.f0, hr.f1, hr.f2, hr.f3, hr.f4, hr.f5, hr.f6, hr.f7, hr.f8, hr.f9, hr.f10, (fun _ => rfl), hr.f12, hr.f13, hr.f14, (fun _ => rfl), hr.f16, hr.f17, hr.f18, hr.f19, hr.f20, hr.f21, hr.f22, hr.f23⟩⟩ (if_pos rfl) (fun j hj => if_neg hj)
            · obtain rfl := Option.some.inj ho
              have g11 : ℓ 11 = true := hdep { on := 11, ground := Ground.guard } (by simp) rfl
              clear hdep ho
              revert hK
              obtain rfl := hr.f11 g11
              intro hK
              try simp only [Act.put, List.setIfInBounds_toArray, List.set_cons_zero, List.set_cons_succ]
              rw [if_neg (by exact fun h => Bool.false_ne_true h)]
              try simp only [List.getElem_toArray, List.getElem_cons_zero, List.getElem_cons_succ, List.set_cons_zero, List.set_cons_succ]
              exact hK.out _ _ (fun j => if j = 16 then true else ℓ j) ⟨x87, x88, x89, x90, x91, x92, x93, x94, x95, x96, x97, .bool false, x99, x100, x101, x102, undef, x104, x105, x106, x107, x108, x109, x110, (by simp only [Act.put, List.setIfInBounds_toArray, List.set_cons_zero, List.set_cons_succ]), ⟨hr.gb, hr.f0, hr.f1, hr.f2, hr.f3, hr.f4, hr.f5, hr.f6, hr.f7, hr.f8, hr.f9, hr.f10, (fun _ => rfl), hr.f12, hr.f13, hr.f14, hr.f15, (fun _ => rfl), hr.f17, hr.f18, hr.f19, hr.f20, hr.f21, hr.f22, hr.f23⟩⟩ (if_pos rfl) (fun j hj => if_neg hj)
            · obtain rfl := Option.some.inj ho
              have g11 : ℓ 11 = true := hdep { on := 11, ground := Ground.guard } (by simp) rfl
              clear hdep ho
              revert hK
              obtain rfl := hr.f11 g11
              intro hK
              try simp only [Act.put, List.setIfInBounds_toArray, List.set_cons_zero, List.set_cons_succ]
              rw [if_neg (by exact fun h => Bool.false_ne_true h)]
              try simp only [List.getElem_toArray, List.getElem_cons_zero, List.getElem_cons_succ, List.set_cons_zero, List.set_cons_succ]
              exact hK.out _ _ (fun j => if j = 17 then true else ℓ j) ⟨x87, x88, x89, x90, x91, x92, x93, x94, x95, x96, x97, .bool false, x99, x100, x101, x102, x103, undef, x105, x106, x107, x108, x109, x110, (by simp only [Act.put, List.setIfInBounds_toArray, List.set_cons_zero, List.set_cons_succ]), ⟨hr.gb, hr.f0, hr.f1, hr.f2, hr.f3, hr.f4, hr.f5, hr.f6, hr.f7, hr.f8, hr.f9, hr.f10, (fun _ => rfl), hr.f12, hr.f13, hr.f14, hr.f15, hr.f16, (fun _ => rfl), hr.f18, hr.f19, hr.f20, hr.f21, hr.f22, hr.f23⟩⟩ (if_pos rfl) (fun j hj => if_neg hj)
            · obtain rfl := Option.some.inj ho
              have g11 : ℓ 11 = true := hdep { on := 11, ground := Ground.guard } (by simp) rfl
              clear hdep ho
              revert hK
              obtain rfl := hr.f11 g11
              intro hK
              try simp only [Act.put, List.setIfInBounds_toArray, List.set_cons_zero, List.set_cons_succ]
              rw [if_neg (by exact fun h => Bool.false_ne_true h)]
              try simp only [List.getElem_toArray, List.getElem_cons_zero, List.getElem_cons_succ, List.set_cons_zero, List.set_cons_succ]
              exact hK.out _ _ (fun j => if j = 18 then true else ℓ j) ⟨x87, x88, x89, x90, x91, x92, x93, x94, x95, x96, x97, .bool false, x99, x100, x101, x102, x103, x104, undef, x106, x107, x108, x109, x110, (by simp only [Act.put, List.setIfInBounds_toArray, List.set_cons_zero, List.set_cons_succ]), ⟨hr.gb, hr.f0, hr.f1, hr.f2, hr.f3, hr.f4, hr.f5, hr.f6, hr.f7, hr.f8, hr.f9, hr.f10, (fun _ => rfl), hr.f12, hr.f13, hr.f14, hr.f15, hr.f16, hr.f17, (fun _ => rfl), hr.f19, hr.f20, hr.f21, hr.f22, hr.f23⟩⟩ (if_pos rfl) (fun j hj => if_neg hj)
            · obtain rfl := Option.some.inj ho
              have g11 : ℓ 11 = true := hdep { on := 11, ground := Ground.guard } (by simp) rfl
              clear hdep ho
              revert hK
              obtain rfl := hr.f11 g11
              intro hK
              try simp only [Act.put, List.setIfInBounds_toArray, List.set_cons_zero, List.set_cons_succ]
              rw [if_neg (by exact fun h => Bool.false_ne_true h)]
              try simp only [List.getElem_toArray, List.getElem_cons_zero, List.getElem_cons_succ, List.set_cons_zero, List.set_cons_succ]
              exact hK.out _ _ (fun j => if j = 19 then true else ℓ j) ⟨x87, x88, x89, x90, x91, x92, x93, x94, x95, x96, x97, .bool false, x99, x100, x101, x102, x103, x104, x105, undef, x107, x108, x109, x110, (by simp only [Act.put, List.setIfInBounds_toArray, List.set_cons_zero, List.set_cons_succ]), ⟨hr.gb, hr.f0, hr.f1, hr.f2, hr.f3, hr.f4, hr.f5, hr.f6, hr.f7, hr.f8, hr.f9, hr.f10, (fun _ => rfl), hr.f12, hr.f13, hr.f14, hr.f15, hr.f16, hr.f17, hr.f18, (fun _ => rfl), hr.f20, hr.f21, hr.f22, hr.f23⟩⟩ (if_pos rfl) (fun j hj => if_neg hj)
            · obtain rfl := Option.some.inj ho
              have g11 : ℓ 11 = true := hdep { on := 11, ground := Ground.guard } (by simp) rfl
              clear hdep ho
              revert hK
              obtain rfl := hr.f11 g11
              intro hK
              try simp only [Act.put, List.setIfInBounds_toArray, List.set_cons_zero, List.set_cons_succ]
              rw [if_neg (by exact fun h => Bool.false_ne_true h)]
              try simp only [List.getElem_toArray, List.getElem_cons_zero, List.getElem_cons_succ, List.set_cons_zero, List.set_cons_succ]
              exact hK.out _ _ (fun j => if j = 20 then true else ℓ j) ⟨x87, x88, x89, x90, x91, x92, x93, x94, x95, x96, x97, .bool false, x99, x100, x101, x102, x103, x104, x105, x106, undef, x108, x109, x110, (by simp only [Act.put, List.setIfInBounds_toArray, List.set_cons_zero, List.set_cons_succ]), ⟨hr.gb, hr.f0, hr.f1, hr.f2, hr.f3, hr.f4, hr.f5, hr.f6, hr.f7, hr.f8, hr.f9, hr.f10, (fun _ => rfl), hr.f12, hr.f13, hr.f14, hr.f15, hr.f16, hr.f17, hr.f18, hr.f19, (fun _ => rfl), hr.f21, hr.f22, hr.f23⟩⟩ (if_pos rfl) (fun j hj => if_neg hj)
            · obtain rfl := Option.some.inj ho
              have g11 : ℓ 11 = true := hdep { on := 11, ground := Ground.guard } (by simp) rfl
              clear hdep ho
              revert hK
              obtain rfl := hr.f11 g11
              intro hK
              try simp only [Act.put, List.setIfInBounds_toArray, List.set_cons_zero, List.set_cons_succ]
              rw [if_neg (by exact fun h => Bool.false_ne_true h)]
              try simp only [List.getElem_toArray, List.getElem_cons_zero, List.getElem_cons_succ, List.set_cons_zero, List.set_cons_succ]
              exact hK.out _ _ (fun j => if j = 21 then true else ℓ j) ⟨x87, x88, x89, x90, x91, x92, x93, x94, x95, x96, x97, .bool false, x99, x100, x101, x102, x103, x104, x105, x106, x107, undef, x109, x110, (by simp only [Act.put, List.setIfInBounds_toArray, List.set_cons_zero, List.set_cons_succ]), ⟨hr.gb, hr.f0, hr.f1, hr.f2, hr.f3, hr.f4, hr.f5, hr.f6, hr.f7, hr.f8, hr.f9, hr.f10, (fun _ => rfl), hr.f12, hr.f13, hr.f14, hr.f15, hr.f16, hr.f17, hr.f18, hr.f19, hr.f20, (fun _ => rfl), hr.f22, hr.f23⟩⟩ (if_pos rfl) (fun j hj => if_neg hj)
            · obtain rfl := Option.some.inj ho
              have g11 : ℓ 11 = true := hdep { on := 11, ground := Ground.data } (by simp) rfl
              have g7 : ℓ 7 = true := hdep { on := 7, ground := Ground.guard } (by simp) rfl
              clear hdep ho
              revert hK
              obtain rfl := hr.f7 g7
              obtain rfl := hr.f11 g11
              intro hK
              try simp only [Act.put, List.setIfInBounds_toArray, List.set_cons_zero, List.set_cons_succ]
              rw [if_pos (by rfl)]
              try simp only [Act.put, List.setIfInBounds_toArray, List.set_cons_zero, List.set_cons_succ]
              go_simp
              exact hK.out _ _ (fun j => if j = 22 then true else ℓ j) ⟨x87, x88, x89, x90, x91, x92, x93, .bool false, x95, x96, x97, .bool false, x99, x100, x101, x102, x103, x104, x105, x106, x107, x108, .bool false, x110, (by simp only [Act.put, List.setIfInBounds_toArray, List.set_cons_zero, List.set_cons_succ]), ⟨hr.gb, hr.f0, hr.f1, hr.f2, hr.f3, hr.f4, hr.f5, hr.f6, (fun _ => rfl), hr.f8, hr.f9, hr.f10, (fun _ => rfl), hr.f12, hr.f13, hr.f14, hr.f15, hr.f16, hr.f17, hr.f18, hr.f19, hr.f20, hr.f21, (fun _ => rfl), hr.f23⟩⟩ (if_pos rfl) (fun j hj => if_neg hj)
            · obtain rfl := Option.some.inj ho
              have g7 : ℓ 7 = true := hdep { on := 7, ground := Ground.data } (by simp) rfl
              have g22 : ℓ 22 = true := hdep { on := 22, ground := Ground.data } (by simp) rfl
              clear hdep ho
              revert hK
              obtain rfl := hr.f7 g7
              obtain rfl := hr.f22 g22
              intro hK
              rw [if_pos (by rfl)]
              try simp only [Act.put, List.setIfInBounds_toArray, List.set_cons_zero, List.set_cons_succ]
              go_simp
              exact hK.out _ _ (fun j => if j = 23 then true else ℓ j) ⟨x87, x88, x89, x90, x91, x92, x93, .bool false, x95, x96, x97, x98, x99, x100, x101, x102, x103, x104, x105, x106, x107, x108, .bool false, .bool false, (by simp only [Act.put, List.setIfInBounds_toArray, List.set_cons_zero, List.set_cons_succ]), ⟨hr.gb, hr.f0, hr.f1, hr.f2, hr.f3, hr.f4, hr.f5, hr.f6, (fun _ => rfl), hr.f8, hr.f9, hr.f10, hr.f11, hr.f12, hr.f13, hr.f14, hr.f15, hr.f16, hr.f17, hr.f18, hr.f19, hr.f20, hr.f21, (fun _ => rfl), (fun _ => rfl)⟩⟩ (if_pos rfl) (fun j hj => if_neg hj)
          · rintro a' w' ℓ ℓ' hℓ hI
            rw [← show ℓ = ℓ' from funext hℓ]
            exact hI
        have HK1 : Hid ((x1 == 1) = true) := by show _ = _; simp [hx1]
        have HSM : Hid (∀ (X : World) (A B : Option Addr) (c c' : Nat), Seg .i64 X A (J x2) → Seg .i64 X B (J x3) → Calls Tryz.prog 9 #[.slice A (J x2).length c, .slice B (J x3).length c'] X fun e w' => e = .returned (.bool true) ∧ Below X.heap.size X w') := fun X A B c c' hA hB => by
          have e := HQU.out hx1
          rw [← e] at hB ⊢
          exact same_w A B c c' _ X hA hB (by have := HJF.out.len x2; omega)
        have HW0 : Hid (Below wa.heap.size wa wa) := Below.refl _ _
        clear hx1
        refine wp_region_inv (by kernel_rfl) (by kernel_rfl) (fun A ℓ a' w' => ∃ (x87 x88 x89 x90 x91 x92 x93 x94 x95 x96 x97 x98 x99 x100 x101 x102 x103 x104 x105 x106 x107 x108 x109 x110 : Value), a' = ((((((((((((((((((((((((A.put (some 87) x87).put (some 88) x88).put (some 89) x89).put (some 90) x90).put (some 91) x91).put (some 92) x92).put (some 93) x93).put (some 94) x94).put (some 95) x95).put (some 96) x96).put (some 97) x97).put (some 98) x98).put (some 99) x99).put (some 100) x100).put (some 101) x101).put (some 102) x102).put (some 103) x103).put (some 104) x104).put (some 105) x105).put (some 106) x106).put (some 107) x107).put (some 108) x108).put (some 109) x109).put (some 110) x110) ∧ R25 wa (tbV t ad) (.pointer (some ⟨M, 0, none⟩)) (.pointer (some ⟨M, 1, none⟩)) (.pointer (some ⟨M, 2, none⟩)) (.int .i64 x1) (.int .i64 x2) (.int .i64 x3) (J x2) (J x3) w' (ℓ 0) (ℓ 1) (ℓ 2) (ℓ 3) (ℓ 4) (ℓ 5) (ℓ 6) (ℓ 7) (ℓ 8) (ℓ 9) (ℓ 10) (ℓ 11) (ℓ 12) (ℓ 13) (ℓ 14) (ℓ 15) (ℓ 16) (ℓ 17) (ℓ 18) (ℓ 19) (ℓ 20) (ℓ 21) (ℓ 22) (ℓ 23) x87 x88 x89 x90 x91 x92 x93 x94 x95 x96 x97 x98 x99 x100 x101 x102 x103 x104 x105 x106 x107 x108 x109 x110) ?_ ?_ ?_ ?_
        · exact ⟨u87, u88, u89, u90, u91, u92, u93, u94, u95, u96, u97, u98, u99, u100, u101, u102, u103, u104, u105, u106, u107, u108, u109, u110, (by simp only [Act.put, List.setIfInBounds_toArray, List.set_cons_zero, List.set_cons_succ]), ⟨HW0.out.drew, (fun g => by cases g), (fun g => by cases g), (fun g => by cases g), (fun g => by cases g), (fun g => by cases g), (fun g => by cases g), (fun g => by cases g), (fun g => by cases g), (fun g => by cases g), (fun g => by cases g), (fun g => by cases g), (fun g => by cases g), (fun g => by cases g), (fun g => by cases g), (fun g => by cases g), (fun g => by cases g), (fun g => by cases g), (fun g => by cases g), (fun g => by cases g), (fun g => by cases g), (fun g => by cases g), (fun g => by cases g), (fun g => by cases g), (fun g => by cases g)⟩⟩
        · intro ℓ a' w' hI hall
          obtain ⟨x87, x88, x89, x90, x91, x92, x93, x94, x95, x96, x97, x98, x99, x100, x101, x102, x103, x104, x105, x106, x107, x108, x109, x110, rfl, hr⟩ := hI
          have hall' : ∀ i, i < 24 → ℓ i = true := hall
          obtain rfl := hr.f0 (hall' 0 (by decide))
          obtain rfl := hr.f1 (hall' 1 (by decide))
          obtain rfl := hr.f2 (hall' 2 (by decide))
          obtain rfl := hr.f3 (hall' 3 (by decide))
          obtain rfl := hr.f4 (hall' 4 (by decide))
          obtain rfl := hr.f5 (hall' 5 (by decide))
          obtain rfl := hr.f6 (hall' 6 (by decide))
          obtain rfl := hr.f7 (hall' 7 (by decide))
          obtain rfl := hr.f8 (hall' 8 (by decide))
          obtain rfl := hr.f9 (hall' 9 (by decide))
          obtain rfl := hr.f10 (hall' 10 (by decide))
          obtain rfl := hr.f11 (hall' 11 (by decide))
          obtain rfl := hr.f12 (hall' 12 (by decide))
          obtain rfl := hr.f13 (hall' 13 (by decide))
          obtain rfl := hr.f14 (hall' 14 (by decide))
          obtain ⟨A15, c15, rfl, hs15⟩ := hr.f15 (hall' 15 (by decide))
          obtain rfl := hr.f16 (hall' 16 (by decide))
          obtain rfl := hr.f17 (hall' 17 (by decide))
          obtain rfl := hr.f18 (hall' 18 (by decide))
          obtain ⟨A19, c19, rfl, hs19⟩ := hr.f19 (hall' 19 (by decide))
          obtain rfl := hr.f20 (hall' 20 (by decide))
          obtain rfl := hr.f21 (hall' 21 (by decide))
          obtain rfl := hr.f22 (hall' 22 (by decide))
          obtain rfl := hr.f23 (hall' 23 (by decide))
          have gb : Hid (Below wa.heap.size wa w') := hr.gb
          clear hall hall' hr
          simp only [Act.put, List.setIfInBounds_toArray, List.set_cons_zero, List.set_cons_succ]
          have HBN : Hid (Below V.heap.size V w') := HBV.out.trans (gb.out.mono HBV.out.size)
          clear hs15 hs19 gb
          go_wp2
          go_roundw
          case rel => exact ⟨j + 1, by omega, by go_num, HBN.out⟩
          case measure => simp [intOf]; omega
        · intro ℓ a' w' i o hI ho hi hL hdep K hK
          obtain ⟨x87, x88, x89, x90, x91, x92, x93, x94, x95, x96, x97, x98, x99, x100, x101, x102, x103, x104, x105, x106, x107, x108, x109, x110, rfl, hr⟩ := hI
          have hi7 : i < 24 := hi
          have hcs : i = 0 ∨ i = 1 ∨ i = 2 ∨ i = 3 ∨ i = 4 ∨ i = 5 ∨ i = 6 ∨ i = 7 ∨ i = 8 ∨ i = 9 ∨ i = 10 ∨ i = 11 ∨ i = 12 ∨ i = 13 ∨ i = 14 ∨ i = 15 ∨ i = 16 ∨ i = 17 ∨ i = 18 ∨ i = 19 ∨ i = 20 ∨ i = 21 ∨ i = 22 ∨ i = 23 := by omega
          clear hi hi7
          rcases hcs with rfl | rfl | rfl | rfl | rfl | rfl | rfl | rfl | rfl | rfl | rfl | rfl | rfl | rfl | rfl | rfl | rfl | rfl | rfl | rfl | rfl | rfl | rfl | rfl
          · replace ho : some ({ dst := some 87, op := .load 33 (.tmp 3), type := 33, pos := "laws.go:412", after := #[], guard := none } : Oper) = some o := ho
            obtain rfl := Option.some.inj ho
            clear hdep ho
            revert hK
            intro hK
            rw [if_pos (by rfl)]
            try simp only [Act.put, List.setIfInBounds_toArray, List.set_cons_zero, List.set_cons_succ]
            refine wp_load_row (P := Tryz.prog) 33 (.tmp 3) rfl N rfl 33 (tbA t ad) (0, 0) _ (HXB.out _ hr.gb) Tryz.underlying33 rfl (by kernel_rfl) ?_
            exact hK.out _ _ (fun j => if j = 0 then true else ℓ j) ⟨tbV t ad, x88, x89, x90, x91, x92, x93, x94, x95, x96, x97, x98, x99, x100, x101, x102, x103, x104, x105, x106, x107, x108, x109, x110, (by simp only [Act.put, List.setIfInBounds_toArray, List.set_cons_zero, List.set_cons_succ]), ⟨hr.gb, (fun _ => rfl), hr.f1, hr.f2, hr.f3, hr.f4, hr.f5, hr.f6, hr.f7, hr.f8, hr.f9, hr.f10, hr.f11, hr.f12, hr.f13, hr.f14, hr.f15, hr.f16, hr.f17, hr.f18, hr.f19, hr.f20, hr.f21, hr.f22, hr.f23⟩⟩ (if_pos rfl) (fun j hj => if_neg hj)
          · obtain rfl := Option.some.inj ho
            clear hdep ho
            revert hK
            intro hK
            rw [if_pos (by rfl)]
            try simp only [Act.put, List.setIfInBounds_toArray, List.set_cons_zero, List.set_cons_succ]
            go_simp
            exact hK.out _ _ (fun j => if j = 1 then true else ℓ j) ⟨x87, .pointer (some ⟨M, 1, none⟩), x89, x90, x91, x92, x93, x94, x95, x96, x97, x98, x99, x100, x101, x102, x103, x104, x105, x106, x107, x108, x109, x110, (by simp only [Act.put, List.setIfInBounds_toArray, List.set_cons_zero, List.set_cons_succ]), ⟨hr.gb, hr.f0, (fun _ => rfl), hr.f2, hr.f3, hr.f4, hr.f5, hr.f6, hr.f7, hr.f8, hr.f9, hr.f10, hr.f11, hr.f12, hr.f13, hr.f14, hr.f15, hr.f16, hr.f17, hr.f18, hr.f19, hr.f20, hr.f21, hr.f22, hr.f23⟩⟩ (if_pos rfl) (fun j hj => if_neg hj)
          · obtain rfl := Option.some.inj ho
            have g1 : ℓ 1 = true := hdep { on := 1, ground := Ground.data } (by simp) rfl
            clear hdep ho
            revert hK
            obtain rfl := hr.f1 g1
            have hcx : w'.cell? ⟨M, 1, none⟩ = some (.int .i64 x2) := HCE.out.2.1 _ hr.gb
            intro hK
            rw [if_pos (by rfl)]
            try simp only [Act.put, List.setIfInBounds_toArray, List.set_cons_zero, List.set_cons_succ]
            go_simp
            exact hK.out _ _ (fun j => if j = 2 then true else ℓ j) ⟨x87, .pointer (some ⟨M, 1, none⟩), .int .i64 x2, x90, x91, x92, x93, x94, x95, x96, x97, x98, x99, x100, x101, x102, x103, x104, x105, x106, x107, x108, x109, x110, (by simp only [Act.put, List.setIfInBounds_toArray, List.set_cons_zero, List.set_cons_succ]), ⟨hr.gb, hr.f0, (fun _ => rfl), (fun _ => rfl), hr.f3, hr.f4, hr.f5, hr.f6, hr.f7, hr.f8, hr.f9, hr.f10, hr.f11, hr.f12, hr.f13, hr.f14, hr.f15, hr.f16, hr.f17, hr.f18, hr.f19, hr.f20, hr.f21, hr.f22, hr.f23⟩⟩ (if_pos rfl) (fun j hj => if_neg hj)
          · obtain rfl := Option.some.inj ho
            clear hdep ho
            revert hK
            intro hK
            rw [if_pos (by rfl)]
            try simp only [Act.put, List.setIfInBounds_toArray, List.set_cons_zero, List.set_cons_succ]
            go_simp
            exact hK.out _ _ (fun j => if j = 3 then true else ℓ j) ⟨x87, x88, x89, .pointer (some ⟨M, 2, none⟩), x91, x92, x93, x94, x95, x96, x97, x98, x99, x100, x101, x102, x103, x104, x105, x106, x107, x108, x109, x110, (by simp only [Act.put, List.setIfInBounds_toArray, List.set_cons_zero, List.set_cons_succ]), ⟨hr.gb, hr.f0, hr.f1, hr.f2, (fun _ => rfl), hr.f4, hr.f5, hr.f6, hr.f7, hr.f8, hr.f9, hr.f10, hr.f11, hr.f12, hr.f13, hr.f14, hr.f15, hr.f16, hr.f17, hr.f18, hr.f19, hr.f20, hr.f21, hr.f22, hr.f23⟩⟩ (if_pos rfl) (fun j hj => if_neg hj)
          · obtain rfl := Option.some.inj ho
            have g3 : ℓ 3 = true := hdep { on := 3, ground := Ground.data } (by simp) rfl
            clear hdep ho
            revert hK
            obtain rfl := hr.f3 g3
            have hcx : w'.cell? ⟨M, 2, none⟩ = some (.int .i64 x3) := HCE.out.2.2 _ hr.gb
            intro hK
            rw [if_pos (by rfl)]
            try simp only [Act.put, List.setIfInBounds_toArray, List.set_cons_zero, List.set_cons_succ]
            go_simp
            exact hK.out _ _ (fun j => if j = 4 then true else ℓ j) ⟨x87, x88, x89, .pointer (some ⟨M, 2, none⟩), .int .i64 x3, x92, x93, x94, x95, x96, x97, x98, x99, x100, x101, x102, x103, x104, x105, x106, x107, x108, x109, x110, (by simp only [Act.put, List.setIfInBounds_toArray, List.set_cons_zero, List.set_cons_succ]), ⟨hr.gb, hr.f0, hr.f1, hr.f2, (fun _ => rfl), (fun _ => rfl), hr.f5, hr.f6, hr.f7, hr.f8, hr.f9, hr.f10, hr.f11, hr.f12, hr.f13, hr.f14, hr.f15, hr.f16, hr.f17, hr.f18, hr.f19, hr.f20, hr.f21, hr.f22, hr.f23⟩⟩ (if_pos rfl) (fun j hj => if_neg hj)
          · obtain rfl := Option.some.inj ho
            have g0 : ℓ 0 = true := hdep { on := 0, ground := Ground.data } (by simp) rfl
            have g2 : ℓ 2 = true := hdep { on := 2, ground := Ground.data } (by simp) rfl
            have g4 : ℓ 4 = true := hdep { on := 4, ground := Ground.data } (by simp) rfl
            clear hdep ho
            revert hK
            obtain rfl := hr.f0 g0
            obtain rfl := hr.f2 g2
            obtain rfl := hr.f4 g4
            intro hK
            rw [if_pos (by rfl)]
            try simp only [Act.put, List.setIfInBounds_toArray, List.set_cons_zero, List.set_cons_succ]
            go_simp
            refine Calls.mono (HIB.out x2 x3 _ HXR.out.2.1 HXR.out.2.2 hr.gb) ?_
            rintro e w9 ⟨rfl, hb9⟩
            have hr9 := hr.below hb9
            exact hK.out _ _ (fun j => if j = 5 then true else ℓ j) ⟨tbV t ad, x88, .int .i64 x2, x90, .int .i64 x3, .bool true, x93, x94, x95, x96, x97, x98, x99, x100, x101, x102, x103, x104, x105, x106, x107, x108, x109, x110, (by simp only [Act.put, List.setIfInBounds_toArray, List.set_cons_zero, List.set_cons_succ]), ⟨hr9.gb, (fun _ => rfl), hr9.f1, (fun _ => rfl), hr9.f3, (fun _ => rfl), (fun _ => rfl), hr9.f6, hr9.f7, hr9.f8, hr9.f9, hr9.f10, hr9.f11, hr9.f12, hr9.f13, hr9.f14, hr9.f15, hr9.f16, hr9.f17, hr9.f18, hr9.f19, hr9.f20, hr9.f21, hr9.f22, hr9.f23⟩⟩ (if_pos rfl) (fun j hj => if_neg hj)
          · obtain rfl := Option.some.inj ho
            have g5 : ℓ 5 = true := hdep { on := 5, ground := Ground.data } (by simp) rfl
            clear hdep ho
            revert hK
            obtain rfl := hr.f5 g5
            intro hK
            rw [if_pos (by rfl)]
            try simp only [Act.put, List.setIfInBounds_toArray, List.set_cons_zero, List.set_cons_succ]
            go_simp
            exact hK.out _ _ (fun j => if j = 6 then true else ℓ j) ⟨x87, x88, x89, x90, x91, .bool true, .bool false, x94, x95, x96, x97, x98, x99, x100, x101, x102, x103, x104, x105, x106, x107, x108, x109, x110, (by simp only [Act.put, List.setIfInBounds_toArray, List.set_cons_zero, List.set_cons_succ]), ⟨hr.gb, hr.f0, hr.f1, hr.f2, hr.f3, hr.f4, (fun _ => rfl), (fun _ => rfl), hr.f7, hr.f8, hr.f9, hr.f10, hr.f11, hr.f12, hr.f13, hr.f14, hr.f15, hr.f16, hr.f17, hr.f18, hr.f19, hr.f20, hr.f21, hr.f22, hr.f23⟩⟩ (if_pos rfl) (fun j hj => if_neg hj)
          · obtain rfl := Option.some.inj ho
            have g6 : ℓ 6 = true := hdep { on := 6, ground := Ground.data } (by simp) rfl
            clear hdep ho
            revert hK
            obtain rfl := hr.f6 g6
            intro hK
            rw [if_pos (by rfl)]
            try simp only [Act.put, List.setIfInBounds_toArray, List.set_cons_zero, List.set_cons_succ]
            go_simp
            exact hK.out _ _ (fun j => if j = 7 then true else ℓ j) ⟨x87, x88, x89, x90, x91, x92, .bool false, .bool false, x95, x96, x97, x98, x99, x100, x101, x102, x103, x104, x105, x106, x107, x108, x109, x110, (by simp only [Act.put, List.setIfInBounds_toArray, List.set_cons_zero, List.set_cons_succ]), ⟨hr.gb, hr.f0, hr.f1, hr.f2, hr.f3, hr.f4, hr.f5, (fun _ => rfl), (fun _ => rfl), hr.f8, hr.f9, hr.f10, hr.f11, hr.f12, hr.f13, hr.f14, hr.f15, hr.f16, hr.f17, hr.f18, hr.f19, hr.f20, hr.f21, hr.f22, hr.f23⟩⟩ (if_pos rfl) (fun j hj => if_neg hj)
          · obtain rfl := Option.some.inj ho
            have g7 : ℓ 7 = true := hdep { on := 7, ground := Ground.guard } (by simp) rfl
            clear hdep ho
            revert hK
            obtain rfl := hr.f7 g7
            intro hK
            try simp only [Act.put, List.setIfInBounds_toArray, List.set_cons_zero, List.set_cons_succ]
            rw [if_pos (by rfl)]
            try simp only [Act.put, List.setIfInBounds_toArray, List.set_cons_zero, List.set_cons_succ]
            go_simp
            exact hK.out _ _ (fun j => if j = 8 then true else ℓ j) ⟨x87, x88, x89, x90, x91, x92, x93, .bool false, .pointer (some ⟨M, 0, none⟩), x96, x97, x98, x99, x100, x101, x102, x103, x104, x105, x106, x107, x108, x109, x110, (by simp only [Act.put, List.setIfInBounds_toArray, List.set_cons_zero, List.set_cons_succ]), ⟨hr.gb, hr.f0, hr.f1, hr.f2, hr.f3, hr.f4, hr.f5, hr.f6, (fun _ => rfl), (fun _ => rfl), hr.f9, hr.f10, hr.f11, hr.f12, hr.f13, hr.f14, hr.f15, hr.f16, hr.f17, hr.f18, hr.f19, hr.f20, hr.f21, hr.f22, hr.f23⟩⟩ (if_pos rfl) (fun j hj => if_neg hj)
          · obtain rfl := Option.some.inj ho
            have g8 : ℓ 8 = true := hdep { on := 8, ground := Ground.data } (by simp) rfl
            have g7 : ℓ 7 = true := hdep { on := 7, ground := Ground.guard } (by simp) rfl
            clear hdep ho
            revert hK
            obtain rfl := hr.f7 g7
            obtain rfl := hr.f8 g8
            have hcx : w'.cell? ⟨M, 0, none⟩ = some (.int .i64 x1) := HCE.out.1 _ hr.gb
            intro hK
            try simp only [Act.put, List.setIfInBounds_toArray, List.set_cons_zero, List.set_cons_succ]
            rw [if_pos (by rfl)]
            try simp only [Act.put, List.setIfInBounds_toArray, List.set_cons_zero, List.set_cons_succ]
            go_simp
            exact hK.out _ _ (fun j => if j = 9 then true else ℓ j) ⟨x87, x88, x89, x90, x91, x92, x93, .bool false, .pointer (some ⟨M, 0, none⟩), .int .i64 x1, x97, x98, x99, x100, x101, x102, x103, x104, x105, x106, x107, x108, x109, x110, (by simp only [Act.put, List.setIfInBounds_toArray, List.set_cons_zero, List.set_cons_succ]), ⟨hr.gb, hr.f0, hr.f1, hr.f2, hr.f3, hr.f4, hr.f5, hr.f6, (fun _ => rfl), (fun _ => rfl), (fun _ => rfl), hr.f10, hr.f11, hr.f12, hr.f13, hr.f14, hr.f15, hr.f16, hr.f17, hr.f18, hr.f19, hr.f20, hr.f21, hr.f22, hr.f23⟩⟩ (if_pos rfl) (fun j hj => if_neg hj)
          · obtain rfl := Option.some.inj ho
            have g9 : ℓ 9 = true := hdep { on := 9, ground := Ground.data } (by simp) rfl
            have g7 : ℓ 7 = true := hdep { on := 7, ground := Ground.guard } (by simp) rfl
            clear hdep ho
            revert hK
            obtain rfl := hr.f7 g7
            obtain rfl := hr.f9 g9
            have hb1 := HK1.out
            intro hK
            try simp only [Act.put, List.setIfInBounds_toArray, List.set_cons_zero, List.set_cons_succ]
            rw [if_pos (by rfl)]
            try simp only [Act.put, List.setIfInBounds_toArray, List.set_cons_zero, List.set_cons_succ]
            go_simp
            exact hK.out _ _ (fun j => if j = 10 then true else ℓ j) ⟨x87, x88, x89, x90, x91, x92, x93, .bool false, x95, .int .i64 x1, .bool true, x98, x99, x100, x101, x102, x103, x104, x105, x106, x107, x108, x109, x110, (by simp only [Act.put, List.setIfInBounds_toArray, List.set_cons_zero, List.set_cons_succ]), ⟨hr.gb, hr.f0, hr.f1, hr.f2, hr.f3, hr.f4, hr.f5, hr.f6, (fun _ => rfl), hr.f8, (fun _ => rfl), (fun _ => rfl), hr.f11, hr.f12, hr.f13, hr.f14, hr.f15, hr.f16, hr.f17, hr.f18, hr.f19, hr.f20, hr.f21, hr.f22, hr.f23⟩⟩ (if_pos rfl) (fun j hj => if_neg hj)
          · obtain rfl := Option.some.inj ho
            have g10 : ℓ 10 = true := hdep { on := 10, ground := Ground.data } (by simp) rfl
            have g7 : ℓ 7 = true := hdep { on := 7, ground := Ground.guard } (by simp) rfl
            clear hdep ho
            revert hK
            obtain rfl := hr.f7 g7
            obtain rfl := hr.f10 g10
            intro hK
            try simp only [Act.put, List.setIfInBounds_toArray, List.set_cons_zero, List.set_cons_succ]
            rw [if_pos (by rfl)]
            try simp only [Act.put, List.setIfInBounds_toArray, List.set_cons_zero, List.set_cons_succ]
            go_simp
            exact hK.out _ _ (fun j => if j = 11 then true else ℓ j) ⟨x87, x88, x89, x90, x91, x92, x93, .bool false, x95, x96, .bool true, .bool true, x99, x100, x101, x102, x103, x104, x105, x106, x107, x108, x109, x110, (by simp only [Act.put, List.setIfInBounds_toArray, List.set_cons_zero, List.set_cons_succ]), ⟨hr.gb, hr.f0, hr.f1, hr.f2, hr.f3, hr.f4, hr.f5, hr.f6, (fun _ => rfl), hr.f8, hr.f9, (fun _ => rfl), (fun _ => rfl), hr.f12, hr.f13, hr.f14, hr.f15, hr.f16, hr.f17, hr.f18, hr.f19, hr.f20, hr.f21, hr.f22, hr.f23⟩⟩ (if_pos rfl) (fun j hj => if_neg hj)
          · replace ho : some ({ dst := some 99, op := .load 33 (.tmp 3), type := 33, pos := "laws.go:412", after := #[{ on := 11, ground := Ground.guard }], guard := some (11, true) } : Oper) = some o := ho
            obtain rfl := Option.some.inj ho
            have g11 : ℓ 11 = true := hdep { on := 11, ground := Ground.guard } (by simp) rfl
            clear hdep ho
            revert hK
            obtain rfl := hr.f11 g11
            intro hK
            try simp only [Act.put, List.setIfInBounds_toArray, List.set_cons_zero, List.set_cons_succ]
            rw [if_pos (by rfl)]
            try simp only [Act.put, List.setIfInBounds_toArray, List.set_cons_zero, List.set_cons_succ]
            refine wp_load_row (P := Tryz.prog) 33 (.tmp 3) rfl N rfl 33 (tbA t ad) (0, 0) _ (HXB.out _ hr.gb) Tryz.underlying33 rfl (by kernel_rfl) ?_
            exact hK.out _ _ (fun j => if j = 12 then true else ℓ j) ⟨x87, x88, x89, x90, x91, x92, x93, x94, x95, x96, x97, .bool true, tbV t ad, x100, x101, x102, x103, x104, x105, x106, x107, x108, x109, x110, (by simp only [Act.put, List.setIfInBounds_toArray, List.set_cons_zero, List.set_cons_succ]), ⟨hr.gb, hr.f0, hr.f1, hr.f2, hr.f3, hr.f4, hr.f5, hr.f6, hr.f7, hr.f8, hr.f9, hr.f10, (fun _ => rfl), (fun _ => rfl), hr.f13, hr.f14, hr.f15, hr.f16, hr.f17, hr.f18, hr.f19, hr.f20, hr.f21, hr.f22, hr.f23⟩⟩ (if_pos rfl) (fun j hj => if_neg hj)
          · obtain rfl := Option.some.inj ho
            have g11 : ℓ 11 = true := hdep { on := 11, ground := Ground.guard } (by simp) rfl
            clear hdep ho
            revert hK
            obtain rfl := hr.f11 g11
            intro hK
            try simp only [Act.put, List.setIfInBounds_toArray, List.set_cons_zero, List.set_cons_succ]
            rw [if_pos (by rfl)]
            try simp only [Act.put, List.setIfInBounds_toArray, List.set_cons_zero, List.set_cons_succ]
            go_simp
            exact hK.out _ _ (fun j => if j = 13 then true else ℓ j) ⟨x87, x88, x89, x90, x91, x92, x93, x94, x95, x96, x97, .bool true, x99, .pointer (some ⟨M, 1, none⟩), x101, x102, x103, x104, x105, x106, x107, x108, x109, x110, (by simp only [Act.put, List.setIfInBounds_toArray, List.set_cons_zero, List.set_cons_succ]), ⟨hr.gb, hr.f0, hr.f1, hr.f2, hr.f3, hr.f4, hr.f5, hr.f6, hr.f7, hr.f8, hr.f9, hr.f10, (fun _ => rfl), hr.f12, (fun _ => rfl), hr.f14, hr.f15, hr.f16, hr.f17, hr.f18, hr.f19, hr.f20, hr.f21, hr.f22, hr.f23⟩⟩ (if_pos rfl) (fun j hj => if_neg hj)
          · obtain rfl := Option.some.inj ho
            have g13 : ℓ 13 = true := hdep { on := 13, ground := Ground.data } (by simp) rfl
            have g11 : ℓ 11 = true := hdep { on := 11, ground := Ground.guard } (by simp) rfl
            clear hdep ho
            revert hK
            obtain rfl := hr.f11 g11
            obtain rfl := hr.f13 g13
            have hcx : w'.cell? ⟨M, 1, none⟩ = some (.int .i64 x2) := HCE.out.2.1 _ hr.gb
            intro hK
            try simp only [Act.put, List.setIfInBounds_toArray, List.set_cons_zero, List.set_cons_succ]
            rw [if_pos (by rfl)]
            try simp only [Act.put, List.setIfInBounds_toArray, List.set_cons_zero, List.set_cons_succ]
            go_simp
            exact hK.out _ _ (fun j => if j = 14 then true else ℓ j) ⟨x87, x88, x89, x90, x91, x92, x93, x94, x95, x96, x97, .bool true, x99, .pointer (some ⟨M, 1, none⟩), .int .i64 x2, x102, x103, x104, x105, x106, x107, x108, x109, x110, (by simp only [Act.put, List.setIfInBounds_toArray, List.set_cons_zero, List.set_cons_succ]), ⟨hr.gb, hr.f0, hr.f1, hr.f2, hr.f3, hr.f4, hr.f5, hr.f6, hr.f7, hr.f8, hr.f9, hr.f10, (fun _ => rfl), hr.f12, (fun _ => rfl), (fun _ => rfl), hr.f15, hr.f16, hr.f17, hr.f18, hr.f19, hr.f20, hr.f21, hr.f22, hr.f23⟩⟩ (if_pos rfl) (fun j hj => if_neg hj)
          · obtain rfl := Option.some.inj ho
            have g12 : ℓ 12 = true := hdep { on := 12, ground := Ground.data } (by simp) rfl
            have g14 : ℓ 14 = true := hdep { on := 14, ground := Ground.data } (by simp) rfl
            have g11 : ℓ 11 = true := hdep { on := 11, ground := Ground.guard } (by simp) rfl
            clear hdep ho
            revert hK
            obtain rfl := hr.f11 g11
            obtain rfl := hr.f12 g12
            obtain rfl := hr.f14 g14
            intro hK
            try simp only [Act.put, List.setIfInBounds_toArray, List.set_cons_zero, List.set_cons_succ]
            rw [if_pos (by rfl)]
            try simp only [Act.put, List.setIfInBounds_toArray, List.set_cons_zero, List.set_cons_succ]
            go_simp
            refine Calls.mono (HJB.out x2 _ HXR.out.1 hr.gb) ?_
            rintro e w9 ⟨AN, cN, rfl, hb9, hoi⟩
            have hr9 := hr.below hb9
            exact hK.out _ _ (fun j => if j = 15 then true else ℓ j) ⟨x87, x88, x89, x90, x91, x92, x93, x94, x95, x96, x97, .bool true, tbV t ad, x100, .int .i64 x2, .slice AN (J x2).length cN, x103, x104, x105, x106, x107, x108, x109, x110, (by simp only [Act.put, List.setIfInBounds_toArray, List.set_cons_zero, List.set_cons_succ]), ⟨hr9.gb, hr9.f0, hr9.f1, hr9.f2, hr9.f3, hr9.f4, hr9.f5, hr9.f6, hr9.f7, hr9.f8, hr9.f9, hr9.f10, (fun _ => rfl), (fun _ => rfl), hr9.f13, (fun _ => rfl), (fun _ => ⟨AN, cN, rfl, hoi.seg⟩), hr9.f16, hr9.f17, hr9.f18, hr9.f19, hr9.f20, hr9.f21, hr9.f22, hr9.f23⟩⟩ (if_pos rfl) (fun j hj => if_neg hj)
          · replace ho : some ({ dst := some 103, op := .load 33 (.tmp 3), type := 33, pos := "laws.go:412", after := #[{ on := 11, ground := Ground.guard }], guard := some (11, true) } : Oper) = some o := ho
            obtain rfl := Option.some.inj ho
            have g11 : ℓ 11 = true := hdep { on := 11, ground := Ground.guard } (by simp) rfl
            clear hdep ho
            revert hK
            obtain rfl := hr.f11 g11
            intro hK
            try simp only [Act.put, List.setIfInBounds_toArray, List.set_cons_zero, List.set_cons_succ]
            rw [if_pos (by rfl)]
            try simp only [Act.put, List.setIfInBounds_toArray, List.set_cons_zero, List.set_cons_succ]
            refine wp_load_row (P := Tryz.prog) 33 (.tmp 3) rfl N rfl 33 (tbA t ad) (0, 0) _ (HXB.out _ hr.gb) Tryz.underlying33 rfl (by kernel_rfl) ?_
            exact hK.out _ _ (fun j => if j = 16 then true else ℓ j) ⟨x87, x88, x89, x90, x91, x92, x93, x94, x95, x96, x97, .bool true, x99, x100, x101, x102, tbV t ad, x104, x105, x106, x107, x108, x109, x110, (by simp only [Act.put, List.setIfInBounds_toArray, List.set_cons_zero, List.set_cons_succ]), ⟨hr.gb, hr.f0, hr.f1, hr.f2, hr.f3, hr.f4, hr.f5, hr.f6, hr.f7, hr.f8, hr.f9, hr.f10, (fun _ => rfl), hr.f12, hr.f13, hr.f14, hr.f15, (fun _ => rfl), hr.f17, hr.f18, hr.f19, hr.f20, hr.f21, hr.f22, hr.f23⟩⟩ (if_pos rfl) (fun j hj => if_neg hj)
          · obtain rfl := Option.some.inj ho
            have g11 : ℓ 11 = true := hdep { on := 11, ground := Ground.guard } (by simp) rfl
            clear hdep ho
            revert hK
            obtain rfl := hr.f11 g11
            intro hK
            try simp only [Act.put, List.setIfInBounds_toArray, List.set_cons_zero, List.set_cons_succ]
            rw [if_pos (by rfl)]
            try simp only [Act.put, List.setIfInBounds_toArray, List.set_cons_zero, List.set_cons_succ]
            go_simp
            exact hK.out _ _ (fun j => if j = 17 then true else ℓ j) ⟨x87, x88, x89, x90, x91, x92, x93, x94, x95, x96, x97, .bool true, x99, x100, x101, x102, x103, .pointer (some ⟨M, 2, none⟩), x105, x106, x107, x108, x109, x110, (by simp only [Act.put, List.setIfInBounds_toArray, List.set_cons_zero, List.set_cons_succ]), ⟨hr.gb, hr.f0, hr.f1, hr.f2, hr.f3, hr.f4, hr.f5, hr.f6, hr.f7, hr.f8, hr.f9, hr.f10, (fun _ => rfl), hr.f12, hr.f13, hr.f14, hr.f15, hr.f16, (fun _ => rfl), hr.f18, hr.f19, hr.f20, hr.f21, hr.f22, hr.f23⟩⟩ (if_pos rfl) (fun j hj => if_neg hj)
          · obtain rfl := Option.some.inj ho
            have g17 : ℓ 17 = true := hdep { on := 17, ground := Ground.data } (by simp) rfl
            have g11 : ℓ 11 = true := hdep { on := 11, ground := Ground.guard } (by simp) rfl
            clear hdep ho
            revert hK
            obtain rfl := hr.f11 g11
            obtain rfl := hr.f17 g17
            have hcx : w'.cell? ⟨M, 2, none⟩ = some (.int .i64 x3) := HCE.out.2.2 _ hr.gb
            intro hK
            try simp only [Act.put, List.setIfInBounds_toArray, List.set_cons_zero, List.set_cons_succ]
            rw [if_pos (by rfl)]
            try simp only [Act.put, List.setIfInBounds_toArray, List.set_cons_zero, List.set_cons_succ]
            go_simp
            exact hK.out _ _ (fun j => if j = 18 then true else ℓ j) ⟨x87, x88, x89, x90, x91, x92, x93, x94, x95, x96, x97, .bool true, x99, x100, x101, x102, x103, .pointer (some ⟨M, 2, none⟩), .int .i64 x3, x106, x107, x108, x109, x110, (by simp only [Act.put, List.setIfInBounds_toArray, List.set_cons_zero, List.set_cons_succ]), ⟨hr.gb, hr.f0, hr.f1, hr.f2, hr.f3, hr.f4, hr.f5, hr.f6, hr.f7, hr.f8, hr.f9, hr.f10, (fun _ => rfl), hr.f12, hr.f13, hr.f14, hr.f15, hr.f16, (fun _ => rfl), (fun _ => rfl), hr.f19, hr.f20, hr.f21, hr.f22, hr.f23⟩⟩ (if_pos rfl) (fun j hj => if_neg hj)
          · obtain rfl := Option.some.inj ho
            have g16 : ℓ 16 = true := hdep { on := 16, ground := Ground.data } (by simp) rfl
            have g18 : ℓ 18 = true := hdep { on := 18, ground := Ground.data } (by simp) rfl
            have g11 : ℓ 11 = true := hdep { on := 11, ground := Ground.guard } (by simp) rfl
            clear hdep ho
            revert hK
            obtain rfl := hr.f11 g11
            obtain rfl := hr.f16 g16
            obtain rfl := hr.f18 g18
            intro hK
            try simp only [Act.put, List.setIfInBounds_toArray, List.set_cons_zero, List.set_cons_succ]
            rw [if_pos (by rfl)]
            try simp only [Act.put, List.setIfInBounds_toArray, List.set_cons_zero, List.set_cons_succ]
            go_simp
            refine Calls.mono (HJB.out x3 _ HXR.out.2.1 hr.gb) ?_
            rintro e w9 ⟨AN, cN, rfl, hb9, hoi⟩
            have hr9 := hr.below hb9
            exact hK.out _ _ (fun j => if j = 19 then true else ℓ j) ⟨x87, x88, x89, x90, x91, x92, x93, x94, x95, x96, x97, .bool true, x99, x100, x101, x102, tbV t ad, x104, .int .i64 x3, .slice AN (J x3).length cN, x107, x108, x109, x110, (by simp only [Act.put, List.setIfInBounds_toArray, List.set_cons_zero, List.set_cons_succ]), ⟨hr9.gb, hr9.f0, hr9.f1, hr9.f2, hr9.f3, hr9.f4, hr9.f5, hr9.f6, hr9.f7, hr9.f8, hr9.f9, hr9.f10, (fun _ => rfl), hr9.f12, hr9.f13, hr9.f14, hr9.f15, (fun _ => rfl), hr9.f17, (fun _ => rfl), (fun _ => ⟨AN, cN, rfl, hoi.seg⟩), hr9.f20, hr9.f21, hr9.f22, hr9.f23⟩⟩ (if_pos rfl) (fun j hj => if_neg hj)
          · obtain rfl := Option.some.inj ho
            have g15 : ℓ 15 = true := hdep { on := 15, ground := Ground.data } (by simp) rfl
            have g19 : ℓ 19 = true := hdep { on := 19, ground := Ground.data } (by simp) rfl
            have g11 : ℓ 11 = true := hdep { on := 11, ground := Ground.guard } (by simp) rfl
            clear hdep ho
            revert hK
            obtain rfl := hr.f11 g11
            obtain ⟨A15, c15, rfl, hs15⟩ := hr.f15 g15
            obtain ⟨A19, c19, rfl, hs19⟩ := hr.f19 g19
            intro hK
            try simp only [Act.put, List.setIfInBounds_toArray, List.set_cons_zero, List.set_cons_succ]
            rw [if_pos (by rfl)]
            try simp only [Act.put, List.setIfInBounds_toArray, List.set_cons_zero, List.set_cons_succ]
            go_simp
            refine Calls.mono (HSM.out _ _ _ _ _ hs15 hs19) ?_
            rintro e w9 ⟨rfl, hb9⟩
            have hr9 := hr.below hb9
            exact hK.out _ _ (fun j => if j = 20 then true else ℓ j) ⟨x87, x88, x89, x90, x91, x92, x93, x94, x95, x96, x97, .bool true, x99, x100, x101, .slice A15 (J x2).length c15, x103, x104, x105, .slice A19 (J x3).length c19, .bool true, x108, x109, x110, (by simp only [Act.put, List.setIfInBounds_toArray, List.set_cons_zero, List.set_cons_succ]), ⟨hr9.gb, hr9.f0, hr9.f1, hr9.f2, hr9.f3, hr9.f4, hr9.f5, hr9.f6, hr9.f7, hr9.f8, hr9.f9, hr9.f10, (fun _ => rfl), hr9.f12, hr9.f13, hr9.f14, (fun _ => ⟨A15, c15, rfl, hs15.below hb9⟩), hr9.f16, hr9.f17, hr9.f18, (fun _ => ⟨A19, c19, rfl, hs19.below hb9⟩), (fun _ => rfl), hr9.f21, hr9.f22, hr9.f23⟩⟩ (if_pos rfl) (fun j hj => if_neg hj)
          · obtain rfl := Option.some.inj ho
            have g20 : ℓ 20 = true := hdep { on := 20, ground := Ground.data } (by simp) rfl
            have g11 : ℓ 11 = true := hdep { on := 11, ground := Ground.guard } (by simp) rfl
            clear hdep ho
            revert hK
            obtain rfl := hr.f11 g11
            obtain rfl := hr.f20 g20
            intro hK
            try simp only [Act.put, List.setIfInBounds_toArray, List.set_cons_zero, List.set_cons_succ]
            rw [if_pos (by rfl)]
            try simp only [Act.put, List.setIfInBounds_toArray, List.set_cons_zero, List.set_cons_succ]
            go_simp
            exact hK.out _ _ (fun j => if j = 21 then true else ℓ j) ⟨x87, x88, x89, x90, x91, x92, x93, x94, x95, x96, x97, .bool true, x99, x100, x101, x102, x103, x104, x105, x106, .bool true, .bool false, x109, x110, (by simp only [Act.put, List.setIfInBounds_toArray, List.set_cons_zero, List.set_cons_succ]), ⟨hr.gb, hr.f0, hr.f1, hr.f2, hr.f3, hr.f4, hr.f5, hr.f6, hr.f7, hr.f8, hr.f9, hr.f10, (fun _ => rfl), hr.f12, hr.f13, hr.f14, hr.f15, hr.f16, hr.f17, hr.f18, hr.f19, (fun _ => rfl), (fun _ => rfl), hr.f22, hr.f23⟩⟩ (if_pos rfl) (fun j hj => if_neg hj)
          · obtain rfl := Option.some.inj ho
            have g11 : ℓ 11 = true := hdep { on := 11, ground := Ground.data } (by simp) rfl
            have g21 : ℓ 21 = true := hdep { on := 21, ground := Ground.data } (by simp) rfl
            have g7 : ℓ 7 = true := hdep { on := 7, ground := Ground.guard } (by simp) rfl
            clear hdep ho
            revert hK
            obtain rfl := hr.f7 g7
            obtain rfl := hr.f11 g11
            obtain rfl := hr.f21 g21
            intro hK
            try simp only [Act.put, List.setIfInBounds_toArray, List.set_cons_zero, List.set_cons_succ]
            rw [if_pos (by rfl)]
            try simp only [Act.put, List.setIfInBounds_toArray, List.set_cons_zero, List.set_cons_succ]
            go_simp
            exact hK.out _ _ (fun j => if j = 22 then true else ℓ j) ⟨x87, x88, x89, x90, x91, x92, x93, .bool false, x95, x96, x97, .bool true, x99, x100, x101, x102, x103, x104, x105, x106, x107, .bool false, .bool false, x110, (by simp only [Act.put, List.setIfInBounds_toArray, List.set_cons_zero, List.set_cons_succ]), ⟨hr.gb, hr.f0, hr.f1, hr.f2, hr.f3, hr.f4, hr.f5, hr.f6, (fun _ => rfl), hr.f8, hr.f9, hr.f10, (fun _ => rfl), hr.f12, hr.f13, hr.f14, hr.f15, hr.f16, hr.f17, hr.f18, hr.f19, hr.f20, (fun _ => rfl), (fun _ => rfl), hr.f23⟩⟩ (if_pos rfl) (fun j hj => if_neg hj)
          · obtain rfl := Option.some.inj ho
            have g7 : ℓ 7 = true := hdep { on := 7, ground := Ground.data } (by simp) rfl
            have g22 : ℓ 22 = true := hdep { on := 22, ground := Ground.data } (by simp) rfl
            clear hdep ho
            revert hK
            obtain rfl := hr.f7 g7
            obtain rfl := hr.f22 g22
            intro hK
            rw [if_pos (by rfl)]
            try simp only [Act.put, List.setIfInBounds_toArray, List.set_cons_zero, List.set_cons_succ]
            go_simp
            exact hK.out _ _ (fun j => if j = 23 then true else ℓ j) ⟨x87, x88, x89, x90, x91, x92, x93, .bool false, x95, x96, x97, x98, x99, x100, x101, x102, x103, x104, x105, x106, x107, x108, .bool false, .bool false, (by simp only [Act.put, List.setIfInBounds_toArray, List.set_cons_zero, List.set_cons_succ]), ⟨hr.gb, hr.f0, hr.f1, hr.f2, hr.f3, hr.f4, hr.f5, hr.f6, (fun _ => rfl), hr.f8, hr.f9, hr.f10, hr.f11, hr.f12, hr.f13, hr.f14, hr.f15, hr.f16, hr.f17, hr.f18, hr.f19, hr.f20, hr.f21, (fun _ => rfl), (fun _ => rfl)⟩⟩ (if_pos rfl) (fun j hj => if_neg hj)
        · rintro a' w' ℓ ℓ' hℓ hI
          rw [← show ℓ = ℓ' from funext hℓ]
          exact hI
    have hkn' : (k : Int) < (ad.pn : Int) := by omega
    have hkp : 0 ≤ (k : Int) ∧ (k : Int) < (ad.pn : Int) := ⟨by omega, hkn'⟩
    have HXW : Hid (wr.heap[N]? = some (.cells (tbA t ad) 33 (0, 0))) := HX.out _ HBW.out
    go_wp2_with (first | (refine wpList_load_row rfl 33 (.tmp 3) rfl N rfl 33 (tbA t ad) (0, 0) _ HXW.out Tryz.underlying33 rfl (by kernel_rfl) ?_) | fail)
    refine Calls.mono (HJ.out (k : Int) _ hkp HBW.out) ?_
    rintro e w2 ⟨A, c1, rfl, hb2, hoi⟩
    have HB2 : Hid (Below V.heap.size V w2) := HBW.out.trans (hb2.mono HBW.out.size)
    have HS2 : Hid (Seg .i64 w2 A (J (k : Int))) := hoi.seg
    have HME : Hid ((k : Int) ∈ J (k : Int)) := HJF.out.me _ hkp
    have hjl := HJF.out.len (k : Int)
    have hj0 : 0 < (J (k : Int)).length := List.length_pos_of_mem HME.out
    obtain ⟨b1, o1, rfl, _⟩ := hoi hj0
    have HHS : Hid (∀ X (y : Int), Seg .i64 X (some ⟨b1, o1, none⟩) (J (k : Int)) → y ∈ J (k : Int) → Calls Tryz.prog 7 #[.slice (some ⟨b1, o1, none⟩) (J (k : Int)).length c1, .int .i64 y] X fun e w' => e = .returned (.bool true) ∧ w' = X) := fun X y hX hy => has_w _ c1 _ y true X hX (by omega) (decide_eq_true hy)
    clear hb2 hoi HBW k15 HXW
    go_wp2_with fail
    refine Calls.mono (HHS.out _ _ HS2.out HME.out) ?_
    rintro e w3 ⟨rfl, hw3⟩
    subst hw3
    have HXW : Hid (w3.heap[N]? = some (.cells (tbA t ad) 33 (0, 0))) := HX.out _ HB2.out
    go_wp2_with (first | (refine wpList_load_rowG rfl 33 (.tmp 3) rfl N rfl 33 (tbA t ad) (0, 0) _ HXW.out Tryz.underlying33 rfl (by kernel_rfl) ?_) | fail)
    refine Calls.mono (HIF.out _ _ _ hkp HME.out HB2.out) ?_
    rintro e w4 ⟨rfl, hb4⟩
    have HB4 : Hid (Below V.heap.size V w4) := HB2.out.trans (hb4.mono HB2.out.size)
    have HS4 : Hid (Seg .i64 w4 (some ⟨b1, o1, none⟩) (J (k : Int))) := HS2.out.below hb4
    clear hb4 HB2 HS2 HXW
    have HZR : Hid (∀ x ∈ J (k : Int), (0 ≤ x ∧ x < (ad.pn : Int)) ∧ ∀ y ∈ J x, y ∈ J (k : Int)) := fun x hx => ⟨HJF.out.rng _ hkp x hx, HJF.out.tr _ hkp x hx⟩
    have HAS : Hid (∀ i, i + 1 < (J (k : Int)).length → (J (k : Int)).getD i 0 < (J (k : Int)).getD (i + 1) 0) := HJF.out.asc _
    clear HME hkp
    generalize J (k : Int) = zs at HHS HS4 HZR HAS hjl hj0
    go_wp2
    go_loopw [6] (fun i wr => ∃ j : Nat, j ≤ zs.length ∧ i = .int .i64 j ∧ Hid (Below V.heap.size V wr) ∧ Hid (Seg .i64 wr (some ⟨b1, o1, none⟩) zs)) (fun i _ => zs.length - (intOf i).toNat)
    case atStart => exact ⟨0, by omega, rfl, HB4.out, HS4.out⟩
    case round =>
      clear HB4 HS4
      obtain ⟨i, hi, rfl, HBW, HSW⟩ := hrel
      by_cases hin : i < zs.length
      rotate_left
      · obtain rfl : i = zs.length := by omega
        have hin' : ¬ ((zs.length : Int) < (zs.length : Int)) := by omega
        go_wp2
        go_roundw
        case rel => exact ⟨k + 1, by omega, by go_num, HBW.out⟩
        case measure => simp [intOf]; omega
      have hin' : (i : Int) < (zs.length : Int) := by omega
      obtain ⟨b1', o1', ee, hbl, hcell⟩ := HSW.out.at i hin
      cases ee
      obtain ⟨x, HXE⟩ : ∃ x, Hid (zs.getD i 0 = x) := ⟨_, rfl⟩
      rw [HXE.out] at hcell
      have HXM : Hid (x ∈ zs) := by
        have : zs.getD i 0 = zs[i] := by simp [List.getD, hin]
        show _ ∈ _
        rw [← HXE.out, this]; exact List.getElem_mem hin
      have HXR : Hid (0 ≤ x ∧ x < (ad.pn : Int)) := (HZR.out x HXM.out).1
      have HTR : Hid (∀ y ∈ J x, y ∈ zs) := (HZR.out x HXM.out).2
      have HCW : Hid (wr.cell? ⟨b1, o1 + i, none⟩ = some (.int .i64 x)) := hcell
      by_cases hi0 : i = 0
      · have hd0 : decide ((0 : Int) < (i : Int)) = false := decide_eq_false (by omega)
        have hd1 : decide (0 < i) = false := decide_eq_false (by omega)
        clear hbl hcell hi0
        go_wp2
        have hgr := gr_some wr
        refine region_alike (by kernel_rfl) (by kernel_rfl) ?_
        repeat (go_big_quiet_step (fail))
        refine wpQuiet_nil ?_
        intro _ hw'
        obtain ⟨X1, rfl⟩ := hw'
        have hb3 := X1.h
        generalize X1.w = W1 at hb3 ⊢
        have HBV : Hid (Below V.heap.size V W1) := HBW.out.trans (hb3.mono HBW.out.size)
        have HSB : Hid (Seg .i64 W1 (some ⟨b1, o1, none⟩) zs) := HSW.out.below hb3
        have HW0 : Hid (Below W1.heap.size W1 W1) := Below.refl _ _
        have HCE : Hid (∀ X, Below W1.heap.size W1 X → X.cell? ⟨b1, o1 + i, none⟩ = some (.int .i64 x)) := fun X hX => kept_cell hX (kept_cell hb3 HCW.out)
        have HXB : Hid (∀ X, Below W1.heap.size W1 X → X.heap[N]? = some (.cells (tbA t ad) 33 (0, 0))) := fun X hX => HX.out X (HBV.out.trans (hX.mono HBV.out.size))
        have HJB : Hid (∀ (p : Int) X, (0 ≤ p ∧ p < (ad.pn : Int)) → Below W1.heap.size W1 X → Calls Tryz.prog 6 #[tbV t ad, .int .i64 p] X (LPostI X (J p))) := fun p X hp hX => HJ.out p X hp (HBV.out.trans (hX.mono HBV.out.size))
        clear hb3 HBW HSW HCW hgr
        go_wp2
        refine wp_region_inv (by kernel_rfl) (by kernel_rfl) (fun A ℓ a' w' => ∃ (x56 x57 x58 x59 x60 x61 x7 : Value), a' = (((((((A.put (some 56) x56).put (some 57) x57).put (some 58) x58).put (some 59) x59).put (some 60) x60).put (some 61) x61).put (some 7) x7) ∧ R15 W1 (tbV t ad) (.slice (some ⟨b1, o1, none⟩) zs.length c1) (.int .i64 (i : Int)) (.pointer (some ⟨b1, o1 + i, none⟩)) (.int .i64 x) (J x) w' (ℓ 0) (ℓ 1) (ℓ 2) (ℓ 3) (ℓ 4) (ℓ 5) (ℓ 6) x56 x57 x58 x59 x60 x61 x7) ?_ ?_ ?_ ?_
        · exact ⟨u56, u57, u58, u59, u60, u61, u7, (by simp only [Act.put, List.setIfInBounds_toArray, List.set_cons_zero, List.set_cons_succ]), ⟨HW0.out.drew, (fun g => by cases g), (fun g => by cases g), (fun g => by cases g), (fun g => by cases g), (fun g => by cases g), (fun g => by cases g), (fun g => by cases g)⟩⟩
        · intro ℓ a' w' hI hall
          obtain ⟨x56, x57, x58, x59, x60, x61, x7, rfl, hr⟩ := hI
          have hall' : ∀ i, i < 7 → ℓ i = true := hall
          obtain rfl := hr.f0 (hall' 0 (by decide))
          obtain rfl := hr.f1 (hall' 1 (by decide))
          obtain rfl := hr.f2 (hall' 2 (by decide))
          obtain rfl := hr.f3 (hall' 3 (by decide))
          obtain rfl := hr.f4 (hall' 4 (by decide))
          obtain ⟨A5, c5, rfl, hs5⟩ := hr.f5 (hall' 5 (by decide))
          obtain ⟨A6, c6, rfl, hs6⟩ := hr.f6 (hall' 6 (by decide))
          have gb : Hid (Below W1.heap.size W1 w') := hr.gb
          clear hall hall' hr
          simp only [Act.put, List.setIfInBounds_toArray, List.set_cons_zero, List.set_cons_succ]
          have HS7 : Hid (Seg .i64 w' A6 (J x)) := hs6
          have HSW2 : Hid (Seg .i64 w' (some ⟨b1, o1, none⟩) zs) := HSB.out.below gb.out
          replace gb : Hid (Below V.heap.size V w') := HBV.out.trans (gb.out.mono HBV.out.size)
          clear HBV HSB HXB HJB HW0
          have hxl := HJF.out.len x
          clear hs5 hs6 HCE
          go_wp2
          go_loopw [8] (fun i wr => ∃ j : Nat, j ≤ (J x).length ∧ i = .int .i64 j ∧ Hid (Below V.heap.size V wr) ∧ Hid (Seg .i64 wr (some ⟨b1, o1, none⟩) zs) ∧ Hid (Seg .i64 wr A6 (J x))) (fun i _ => (J x).length - (intOf i).toNat)
          case atStart => exact ⟨0, by omega, rfl, gb.out, HSW2.out, HS7.out⟩
          case round =>
            clear gb HSW2 HS7
            obtain ⟨j, hj, rfl, HBW, HSW, HSX⟩ := hrel
            by_cases hjn : j < (J x).length
            rotate_left
            · obtain rfl : j = (J x).length := by omega
              have hjn' : ¬ (((J x).length : Int) < ((J x).length : Int)) := by omega
              go_wp2
              go_roundw
              case rel => exact ⟨i + 1, by omega, by go_num, HBW.out, HSW.out⟩
              case measure => simp [intOf]; omega
            have hjn' : (j : Int) < ((J x).length : Int) := by omega
            obtain ⟨b3, o3, hA6, hb3, hc3⟩ := HSX.out.at j hjn
            have HYM : Hid ((J x).getD j 0 ∈ zs) := HTR.out _ (by
              have : (J x).getD j 0 = (J x)[j] := by simp [List.getD, hjn]
              rw [this]; exact List.getElem_mem hjn)
            obtain ⟨y, HYY⟩ : ∃ y, Hid ((J x).getD j 0 = y) := ⟨_, rfl⟩
            rw [HYY.out] at hc3 HYM
            rw [hA6]
            have HA6 : Hid (A6 = some ⟨b3, o3, none⟩) := hA6
            clear hA6 hb3
            go_wp2_with fail
            refine Calls.mono (HHS.out _ _ HSW.out HYM.out) ?_
            rintro e w5 ⟨rfl, hw5⟩
            subst hw5
            go_wp2
            go_roundw
            case rel => exact ⟨j + 1, by omega, by go_num, HBW.out, HSW.out, (by show Seg _ _ _ _; rw [← HA6.out]; exact HSX.out)⟩
            case measure => simp [intOf]; omega
        · intro ℓ a' w' i o hI ho hi hL hdep K hK
          obtain ⟨x56, x57, x58, x59, x60, x61, x7, rfl, hr⟩ := hI
          have hi7 : i < 7 := hi
          have hcs : i = 0 ∨ i = 1 ∨ i = 2 ∨ i = 3 ∨ i = 4 ∨ i = 5 ∨ i = 6 := by omega
          clear hi hi7
          rcases hcs with rfl | rfl | rfl | rfl | rfl | rfl | rfl
          · replace ho : some ({ dst := some 56, op := .load 33 (.tmp 3), type := 33, pos := "laws.go:402", after := #[], guard := none } : Oper) = some o := ho
            obtain rfl := Option.some.inj ho
            clear hdep ho
            revert hK
            intro hK
            rw [if_pos (by rfl)]
            try simp only [Act.put, List.setIfInBounds_toArray, List.set_cons_zero, List.set_cons_succ]
            refine wp_load_row (P := Tryz.prog) 33 (.tmp 3) rfl N rfl 33 (tbA t ad) (0, 0) _ (HXB.out _ hr.gb) Tryz.underlying33 rfl (by kernel_rfl) ?_
            exact hK.out _ _ (fun j => if j = 0 then true else ℓ j) ⟨tbV t ad, x57, x58, x59, x60, x61, x7, (by simp only [Act.put, List.setIfInBounds_toArray, List.set_cons_zero, List.set_cons_succ]), ⟨hr.gb, (fun _ => rfl), hr.f1, hr.f2, hr.f3, hr.f4, hr.f5, hr.f6⟩⟩ (if_pos rfl) (fun j hj => if_neg hj)
          · obtain rfl := Option.some.inj ho
            clear hdep ho
            revert hK
            intro hK
            rw [if_pos (by rfl)]
            try simp only [Act.put, List.setIfInBounds_toArray, List.set_cons_zero, List.set_cons_succ]
            go_simp
            exact hK.out _ _ (fun j => if j = 1 then true else ℓ j) ⟨x56, .slice (some ⟨b1, o1, none⟩) zs.length c1, x58, x59, x60, x61, x7, (by simp only [Act.put, List.setIfInBounds_toArray, List.set_cons_zero, List.set_cons_succ]), ⟨hr.gb, hr.f0, (fun _ => rfl), hr.f2, hr.f3, hr.f4, hr.f5, hr.f6⟩⟩ (if_pos rfl) (fun j hj => if_neg hj)
          · obtain rfl := Option.some.inj ho
            clear hdep ho
            revert hK
            intro hK
            rw [if_pos (by rfl)]
            try simp only [Act.put, List.setIfInBounds_toArray, List.set_cons_zero, List.set_cons_succ]
            go_simp
            exact hK.out _ _ (fun j => if j = 2 then true else ℓ j) ⟨x56, x57, .int .i64 (i : Int), x59, x60, x61, x7, (by simp only [Act.put, List.setIfInBounds_toArray, List.set_cons_zero, List.set_cons_succ]), ⟨hr.gb, hr.f0, hr.f1, (fun _ => rfl), hr.f3, hr.f4, hr.f5, hr.f6⟩⟩ (if_pos rfl) (fun j hj => if_neg hj)
          · obtain rfl := Option.some.inj ho
            have g1 : ℓ 1 = true := hdep { on := 1, ground := Ground.data } (by simp) rfl
            have g2 : ℓ 2 = true := hdep { on := 2, ground := Ground.data } (by simp) rfl
            clear hdep ho
            revert hK
            obtain rfl := hr.f1 g1
            obtain rfl := hr.f2 g2
            intro hK
            rw [if_pos (by rfl)]
            try simp only [Act.put, List.setIfInBounds_toArray, List.set_cons_zero, List.set_cons_succ]
            go_simp
            exact hK.out _ _ (fun j => if j = 3 then true else ℓ j) ⟨x56, .slice (some ⟨b1, o1, none⟩) zs.length c1, .int .i64 (i : Int), .pointer (some ⟨b1, o1 + i, none⟩), x60, x61, x7, (by simp only [Act.put, List.setIfInBounds_toArray, List.set_cons_zero, List.set_cons_succ]), ⟨hr.gb, hr.f0, (fun _ => rfl), (fun _ => rfl), (fun _ => rfl), hr.f4, hr.f5, hr.f6⟩⟩ (if_pos rfl) (fun j hj => if_neg hj)
          · obtain rfl := Option.some.inj ho
            have g3 : ℓ 3 = true := hdep { on := 3, ground := Ground.data } (by simp) rfl
            clear hdep ho
            revert hK
            obtain rfl := hr.f3 g3
            have hcx : w'.cell? ⟨b1, o1 + i, none⟩ = some (.int .i64 x) := HCE.out _ hr.gb
            intro hK
            rw [if_pos (by rfl)]
            try simp only [Act.put, List.setIfInBounds_toArray, List.set_cons_zero, List.set_cons_succ]
            go_simp
            exact hK.out _ _ (fun j => if j = 4 then true else ℓ j) ⟨x56, x57, x58, .pointer (some ⟨b1, o1 + i, none⟩), .int .i64 x, x61, x7, (by simp only [Act.put, List.setIfInBounds_toArray, List.set_cons_zero, List.set_cons_succ]), ⟨hr.gb, hr.f0, hr.f1, hr.f2, (fun _ => rfl), (fun _ => rfl), hr.f5, hr.f6⟩⟩ (if_pos rfl) (fun j hj => if_neg hj)
          · obtain rfl := Option.some.inj ho
            have g0 : ℓ 0 = true := hdep { on := 0, ground := Ground.data } (by simp) rfl
            have g4 : ℓ 4 = true := hdep { on := 4, ground := Ground.data } (by simp) rfl
            clear hdep ho
            revert hK
            obtain rfl := hr.f0 g0
            obtain rfl := hr.f4 g4
            intro hK
            rw [if_pos (by rfl)]
            try simp only [Act.put, List.setIfInBounds_toArray, List.set_cons_zero, List.set_cons_succ]
            go_simp
            refine Calls.mono (HJB.out x _ HXR.out hr.gb) ?_
            rintro e w9 ⟨AN, cN, rfl, hb9, hoi⟩
            have hr9 := hr.below hb9
            exact hK.out _ _ (fun j => if j = 5 then true else ℓ j) ⟨tbV t ad, x57, x58, x59, .int .i64 x, .slice AN (J x).length cN, x7, (by simp only [Act.put, List.setIfInBounds_toArray, List.set_cons_zero, List.set_cons_succ]), ⟨hr9.gb, (fun _ => rfl), hr9.f1, hr9.f2, hr9.f3, (fun _ => rfl), (fun _ => ⟨AN, cN, rfl, hoi.seg⟩), hr9.f6⟩⟩ (if_pos rfl) (fun j hj => if_neg hj)
          · obtain rfl := Option.some.inj ho
            have g5 : ℓ 5 = true := hdep { on := 5, ground := Ground.data } (by simp) rfl
            clear hdep ho
            revert hK
            obtain ⟨A5, c5, rfl, hs5⟩ := hr.f5 g5
            intro hK
            rw [if_pos (by rfl)]
            try simp only [Act.put, List.setIfInBounds_toArray, List.set_cons_zero, List.set_cons_succ]
            go_simp
            exact hK.out _ _ (fun j => if j = 6 then true else ℓ j) ⟨x56, x57, x58, x59, x60, .slice A5 (J x).length c5, .slice A5 (J x).length c5, (by simp only [Act.put, List.setIfInBounds_toArray, List.set_cons_zero, List.set_cons_succ]), ⟨hr.gb, hr.f0, hr.f1, hr.f2, hr.f3, hr.f4, (fun _ => ⟨A5, c5, rfl, hs5⟩), (fun _ => ⟨A5, c5, rfl, hs5⟩)⟩⟩ (if_pos rfl) (fun j hj => if_neg hj)
        · rintro a' w' ℓ ℓ' hℓ hI
          rw [← show ℓ = ℓ' from funext hℓ]
          exact hI
      have hd0 : decide ((0 : Int) < (i : Int)) = true := decide_eq_true (by omega)
      have hd1 : decide (0 < i) = true := decide_eq_true (by omega)
      obtain ⟨i', hi'⟩ : ∃ i' : Nat, i = i' + 1 := ⟨i - 1, by omega⟩
      have hwm : IntKind.i64.wrap ((i : Int) - 1) = (i' : Int) := by rw [IntKind.wrap_i64]; omega
      have hin2 : (i' : Int) < (zs.length : Int) := by omega
      obtain ⟨b2', o2', ee, hbl2, hcell2⟩ := HSW.out.at i' (by omega)
      cases ee
      obtain ⟨x', HXE2⟩ : ∃ x, Hid (zs.getD i' 0 = x) := ⟨_, rfl⟩
      rw [HXE2.out] at hcell2
      have hlt2 : x' < x := by
        have := HAS.out i' (by omega)
        rw [HXE2.out, ← hi', HXE.out] at this
        exact this
      have hd3 : decide (x ≤ x') = false := decide_eq_false (by omega)
      replace hcell := fun X => gr_cell hcell X
      replace hcell2 := fun X => gr_cell hcell2 X
      have HI' : Hid (i = i' + 1) := hi'
      clear hbl hbl2 hi' hi0
      go_wp2
      have hgr := gr_some wr
      refine region_alike (by kernel_rfl) (by kernel_rfl) ?_
      repeat (go_big_quiet_step (fail))
      refine wpQuiet_nil ?_
      intro _ hw'
      obtain ⟨X1, rfl⟩ := hw'
      have hb3 := X1.h
      generalize X1.w = W1 at hb3 ⊢
      have HBV : Hid (Below V.heap.size V W1) := HBW.out.trans (hb3.mono HBW.out.size)
      have HSB : Hid (Seg .i64 W1 (some ⟨b1, o1, none⟩) zs) := HSW.out.below hb3
      have HW0 : Hid (Below W1.heap.size W1 W1) := Below.refl _ _
      have HCE : Hid (∀ X, Below W1.heap.size W1 X → X.cell? ⟨b1, o1 + i, none⟩ = some (.int .i64 x)) := fun X hX => kept_cell hX (kept_cell hb3 HCW.out)
      have HXB : Hid (∀ X, Below W1.heap.size W1 X → X.heap[N]? = some (.cells (tbA t ad) 33 (0, 0))) := fun X hX => HX.out X (HBV.out.trans (hX.mono HBV.out.size))
      have HJB : Hid (∀ (p : Int) X, (0 ≤ p ∧ p < (ad.pn : Int)) → Below W1.heap.size W1 X → Calls Tryz.prog 6 #[tbV t ad, .int .i64 p] X (LPostI X (J p))) := fun p X hp hX => HJ.out p X hp (HBV.out.trans (hX.mono HBV.out.size))
      clear hb3 HBW HSW HCW hgr hcell hcell2
      go_wp2
      refine wp_region_inv (by kernel_rfl) (by kernel_rfl) (fun A ℓ a' w' => ∃ (x56 x57 x58 x59 x60 x61 x7 : Value), a' = (((((((A.put (some 56) x56).put (some 57) x57).put (some 58) x58).put (some 59) x59).put (some 60) x60).put (some 61) x61).put (some 7) x7) ∧ R15 W1 (tbV t ad) (.slice (some ⟨b1, o1, none⟩) zs.length c1) (.int .i64 (i : Int)) (.pointer (some ⟨b1, o1 + i, none⟩)) (.int .i64 x) (J x) w' (ℓ 0) (ℓ 1) (ℓ 2) (ℓ 3) (ℓ 4) (ℓ 5) (ℓ 6) x56 x57 x58 x59 x60 x61 x7) ?_ ?_ ?_ ?_
      · exact ⟨u56, u57, u58, u59, u60, u61, u7, (by simp only [Act.put, List.setIfInBounds_toArray, List.set_cons_zero, List.set_cons_succ]), ⟨HW0.out.drew, (fun g => by cases g), (fun g => by cases g), (fun g => by cases g), (fun g => by cases g), (fun g => by cases g), (fun g => by cases g), (fun g => by cases g)⟩⟩
      · intro ℓ a' w' hI hall
        obtain ⟨x56, x57, x58, x59, x60, x61, x7, rfl, hr⟩ := hI
        have hall' : ∀ i, i < 7 → ℓ i = true := hall
        obtain rfl := hr.f0 (hall' 0 (by decide))
        obtain rfl := hr.f1 (hall' 1 (by decide))
        obtain rfl := hr.f2 (hall' 2 (by decide))
        obtain rfl := hr.f3 (hall' 3 (by decide))
        obtain rfl := hr.f4 (hall' 4 (by decide))
        obtain ⟨A5, c5, rfl, hs5⟩ := hr.f5 (hall' 5 (by decide))
        obtain ⟨A6, c6, rfl, hs6⟩ := hr.f6 (hall' 6 (by decide))
        have gb : Hid (Below W1.heap.size W1 w') := hr.gb
        clear hall hall' hr
        simp only [Act.put, List.setIfInBounds_toArray, List.set_cons_zero, List.set_cons_succ]
        have HS7 : Hid (Seg .i64 w' A6 (J x)) := hs6
        have HSW2 : Hid (Seg .i64 w' (some ⟨b1, o1, none⟩) zs) := HSB.out.below gb.out
        replace gb : Hid (Below V.heap.size V w') := HBV.out.trans (gb.out.mono HBV.out.size)
        clear HBV HSB HXB HJB HW0
        have hxl := HJF.out.len x
        clear hs5 hs6 HCE
        go_wp2
        go_loopw [8] (fun i wr => ∃ j : Nat, j ≤ (J x).length ∧ i = .int .i64 j ∧ Hid (Below V.heap.size V wr) ∧ Hid (Seg .i64 wr (some ⟨b1, o1, none⟩) zs) ∧ Hid (Seg .i64 wr A6 (J x))) (fun i _ => (J x).length - (intOf i).toNat)
        case atStart => exact ⟨0, by omega, rfl, gb.out, HSW2.out, HS7.out⟩
        case round =>
          clear gb HSW2 HS7
          obtain ⟨j, hj, rfl, HBW, HSW, HSX⟩ := hrel
          by_cases hjn : j < (J x).length
          rotate_left
          · obtain rfl : j = (J x).length := by omega
            have hjn' : ¬ (((J x).length : Int) < ((J x).length : Int)) := by omega
            go_wp2
            go_roundw
            case rel => exact ⟨i + 1, by omega, by go_num, HBW.out, HSW.out⟩
            case measure => simp [intOf]; omega
          have hjn' : (j : Int) < ((J x).length : Int) := by omega
          obtain ⟨b3, o3, hA6, hb3, hc3⟩ := HSX.out.at j hjn
          have HYM : Hid ((J x).getD j 0 ∈ zs) := HTR.out _ (by
            have : (J x).getD j 0 = (J x)[j] := by simp [List.getD, hjn]
            rw [this]; exact List.getElem_mem hjn)
          obtain ⟨y, HYY⟩ : ∃ y, Hid ((J x).getD j 0 = y) := ⟨_, rfl⟩
          rw [HYY.out] at hc3 HYM
          rw [hA6]
          have HA6 : Hid (A6 = some ⟨b3, o3, none⟩) := hA6
          clear hA6 hb3
          go_wp2_with fail
          refine Calls.mono (HHS.out _ _ HSW.out HYM.out) ?_
          rintro e w5 ⟨rfl, hw5⟩
          subst hw5
          go_wp2
          go_roundw
          case rel => exact ⟨j + 1, by omega, by go_num, HBW.out, HSW.out, (by show Seg _ _ _ _; rw [← HA6.out]; exact HSX.out)⟩
          case measure => simp [intOf]; omega
      · intro ℓ a' w' i o hI ho hi hL hdep K hK
        obtain ⟨x56, x57, x58, x59, x60, x61, x7, rfl, hr⟩ := hI
        have hi7 : i < 7 := hi
        have hcs : i = 0 ∨ i = 1 ∨ i = 2 ∨ i = 3 ∨ i = 4 ∨ i = 5 ∨ i = 6 := by omega
        clear hi hi7
        rcases hcs with rfl | rfl | rfl | rfl | rfl | rfl | rfl
        · replace ho : some ({ dst := some 56, op := .load 33 (.tmp 3), type := 33, pos := "laws.go:402", after := #[], guard := none } : Oper) = some o := ho
          obtain rfl := Option.some.inj ho
          clear hdep ho
          revert hK
          intro hK
          rw [if_pos (by rfl)]
          try simp only [Act.put, List.setIfInBounds_toArray, List.set_cons_zero, List.set_cons_succ]
          refine wp_load_row (P := Tryz.prog) 33 (.tmp 3) rfl N rfl 33 (tbA t ad) (0, 0) _ (HXB.out _ hr.gb) Tryz.underlying33 rfl (by kernel_rfl) ?_
          exact hK.out _ _ (fun j => if j = 0 then true else ℓ j) ⟨tbV t ad, x57, x58, x59, x60, x61, x7, (by simp only [Act.put, List.setIfInBounds_toArray, List.set_cons_zero, List.set_cons_succ]), ⟨hr.gb, (fun _ => rfl), hr.f1, hr.f2, hr.f3, hr.f4, hr.f5, hr.f6⟩⟩ (if_pos rfl) (fun j hj => if_neg hj)
        · obtain rfl := Option.some.inj ho
          clear hdep ho
          revert hK
          intro hK
          rw [if_pos (by rfl)]
          try simp only [Act.put, List.setIfInBounds_toArray, List.set_cons_zero, List.set_cons_succ]
          go_simp
          exact hK.out _ _ (fun j => if j = 1 then true else ℓ j) ⟨x56, .slice (some ⟨b1, o1, none⟩) zs.length c1, x58, x59, x60, x61, x7, (by simp only [Act.put, List.setIfInBounds_toArray, List.set_cons_zero, List.set_cons_succ]), ⟨hr.gb, hr.f0, (fun _ => rfl), hr.f2, hr.f3, hr.f4, hr.f5, hr.f6⟩⟩ (if_pos rfl) (fun j hj => if_neg hj)
        · obtain rfl := Option.some.inj ho
          clear hdep ho
          revert hK
          intro hK
          rw [if_pos (by rfl)]
          try simp only [Act.put, List.setIfInBounds_toArray, List.set_cons_zero, List.set_cons_succ]
          go_simp
          exact hK.out _ _ (fun j => if j = 2 then true else ℓ j) ⟨x56, x57, .int .i64 (i : Int), x59, x60, x61, x7, (by simp only [Act.put, List.setIfInBounds_toArray, List.set_cons_zero, List.set_cons_succ]), ⟨hr.gb, hr.f0, hr.f1, (fun _ => rfl), hr.f3, hr.f4, hr.f5, hr.f6⟩⟩ (if_pos rfl) (fun j hj => if_neg hj)
        · obtain rfl := Option.some.inj ho
          have g1 : ℓ 1 = true := hdep { on := 1, ground := Ground.data } (by simp) rfl
          have g2 : ℓ 2 = true := hdep { on := 2, ground := Ground.data } (by simp) rfl
          clear hdep ho
          revert hK
          obtain rfl := hr.f1 g1
          obtain rfl := hr.f2 g2
          intro hK
          rw [if_pos (by rfl)]
          try simp only [Act.put, List.setIfInBounds_toArray, List.set_cons_zero, List.set_cons_succ]
          go_simp
          exact hK.out _ _ (fun j => if j = 3 then true else ℓ j) ⟨x56, .slice (some ⟨b1, o1, none⟩) zs.length c1, .int .i64 (i : Int), .pointer (some ⟨b1, o1 + i, none⟩), x60, x61, x7, (by simp only [Act.put, List.setIfInBounds_toArray, List.set_cons_zero, List.set_cons_succ]), ⟨hr.gb, hr.f0, (fun _ => rfl), (fun _ => rfl), (fun _ => rfl), hr.f4, hr.f5, hr.f6⟩⟩ (if_pos rfl) (fun j hj => if_neg hj)
        · obtain rfl := Option.some.inj ho
          have g3 : ℓ 3 = true := hdep { on := 3, ground := Ground.data } (by simp) rfl
          clear hdep ho
          revert hK
          obtain rfl := hr.f3 g3
          have hcx : w'.cell? ⟨b1, o1 + i, none⟩ = some (.int .i64 x) := HCE.out _ hr.gb
          intro hK
          rw [if_pos (by rfl)]
          try simp only [Act.put, List.setIfInBounds_toArray, List.set_cons_zero, List.set_cons_succ]
          go_simp
          exact hK.out _ _ (fun j => if j = 4 then true else ℓ j) ⟨x56, x57, x58, .pointer (some ⟨b1, o1 + i, none⟩), .int .i64 x, x61, x7, (by simp only [Act.put, List.setIfInBounds_toArray, List.set_cons_zero, List.set_cons_succ]), ⟨hr.gb, hr.f0, hr.f1, hr.f2, (fun _ => rfl), (fun _ => rfl), hr.f5, hr.f6⟩⟩ (if_pos rfl) (fun j hj => if_neg hj)
        · obtain rfl := Option.some.inj ho
          have g0 : ℓ 0 = true := hdep { on := 0, ground := Ground.data } (by simp) rfl
          have g4 : ℓ 4 = true := hdep { on := 4, ground := Ground.data } (by simp) rfl
          clear hdep ho
          revert hK
          obtain rfl := hr.f0 g0
          obtain rfl := hr.f4 g4
          intro hK
          rw [if_pos (by rfl)]
          try simp only [Act.put, List.setIfInBounds_toArray, List.set_cons_zero, List.set_cons_succ]
          go_simp
          refine Calls.mono (HJB.out x _ HXR.out hr.gb) ?_
          rintro e w9 ⟨AN, cN, rfl, hb9, hoi⟩
          have hr9 := hr.below hb9
          exact hK.out _ _ (fun j => if j = 5 then true else ℓ j) ⟨tbV t ad, x57, x58, x59, .int .i64 x, .slice AN (J x).length cN, x7, (by simp only [Act.put, List.setIfInBounds_toArray, List.set_cons_zero, List.set_cons_succ]), ⟨hr9.gb, (fun _ => rfl), hr9.f1, hr9.f2, hr9.f3, (fun _ => rfl), (fun _ => ⟨AN, cN, rfl, hoi.seg⟩), hr9.f6⟩⟩ (if_pos rfl) (fun j hj => if_neg hj)
        · obtain rfl := Option.some.inj ho
          have g5 : ℓ 5 = true := hdep { on := 5, ground := Ground.data } (by simp) rfl
          clear hdep ho
          revert hK
          obtain ⟨A5, c5, rfl, hs5⟩ := hr.f5 g5
          intro hK
          rw [if_pos (by rfl)]
          try simp only [Act.put, List.setIfInBounds_toArray, List.set_cons_zero, List.set_cons_succ]
          go_simp
          exact hK.out _ _ (fun j => if j = 6 then true else ℓ j) ⟨x56, x57, x58, x59, x60, .slice A5 (J x).length c5, .slice A5 (J x).length c5, (by simp only [Act.put, List.setIfInBounds_toArray, List.set_cons_zero, List.set_cons_succ]), ⟨hr.gb, hr.f0, hr.f1, hr.f2, hr.f3, hr.f4, (fun _ => ⟨A5, c5, rfl, hs5⟩), (fun _ => ⟨A5, c5, rfl, hs5⟩)⟩⟩ (if_pos rfl) (fun j hj => if_neg hj)
      · rintro a' w' ℓ ℓ' hℓ hI
        rw [← show ℓ = ℓ' from funext hℓ]
        exact hI
end Go.Proofs.YtfejlmoambidaaaGreatDoor
