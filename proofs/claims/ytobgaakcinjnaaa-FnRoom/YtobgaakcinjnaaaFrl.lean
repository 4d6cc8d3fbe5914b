
/-
  The law FnRoom, walked. Conditions: the bytes are at most 1048576.
-/
import Derived.Test.YtobgaakcinjnaaaProg
import Derived.Test.YtobgaakcinjnaaaFrm
import Derived.Test.YtobgaakcinjnaaaVat
import Derived.Test.YtobgaakcinjnaaaChq
import Derived.Test.YtobgaakcinjnaaaChz
import Derived.Test.YtobgaakcinjnaaaChn
namespace Go.Proofs.Ytobgaakcinjnaaa
open Go.ChangeShapes Go.WideShapes Go.ChangeAt Go.RowKit Go.Deep
set_option linter.unusedVariables false

/-- What lies in memory while the law is walked. -/
structure LB (w W : World) (A : Nat) (k f t d h : Int) (g1 n1 c1 g2 n2 c2 : Nat) (xs ys : List Int) : Prop where
  bel : Below w.heap.size w W
  k3 : Bk W A (crow k f t d)
  k4 : Bk W (A + 1) (orow h (some ⟨g1, 0, none⟩) n1 c1)
  k5 : Bk W (A + 1 + 1) (irow (some ⟨g2, 0, none⟩) n2 c2)
  s1 : Seg .u32 W (some ⟨g1, 0, none⟩) xs
  s2 : Seg .u32 W (some ⟨g2, 0, none⟩) ys
theorem LB.below {w W X : World} {A : Nat} {k f t d h : Int} {g1 n1 c1 g2 n2 c2 : Nat} {xs ys : List Int} (hD : LB w W A k f t d h g1 n1 c1 g2 n2 c2 xs ys) (hb : Below W.heap.size W X) : LB w X A k f t d h g1 n1 c1 g2 n2 c2 xs ys :=
  ⟨hD.bel.trans (hb.mono hD.bel.size), hD.k3.below hb, hD.k4.below hb, hD.k5.below hb, hD.s1.below hb, hD.s2.below hb⟩
theorem last_of (xs : List Int) (x : Int) : (xs ++ [x]).getD xs.length 0 = x := by simp [List.getD]
theorem last_of2 (ys xs : List Int) (x : Int) : (ys ++ (xs ++ [x])).getD (ys.length + xs.length) 0 = x := by
  rw [← List.append_assoc]
  have := last_of (ys ++ xs) x
  rwa [List.length_append] at this
theorem ee {a b : Int} (h : a = b) : (a == b) = true := by simp [h]
theorem nn {a b : Int} (h : a = b) : (a != b) = false := by simp [h]
theorem ee0 {a b : Int} (h : a ≠ b) : (a == b) = false := by simpa using h
set_option maxRecDepth 20000 in
set_option maxHeartbeats 8000000 in
theorem room_law (a : Option Addr) (n cap : Nat) (zs : List Int) (w : World) (hl : zs.length = n) (hs : Seg .u8 w a zs) (hb : ∀ z ∈ zs, (Lit.int .u8 z).wf = true) (hn : n ≤ 1048576) :
    Calls Try.prog 3 #[.slice a n cap] w fun e w' => e = .returned (.bool true) ∧ Below w.heap.size w w' := by
  have HD : Hid (Calls Try.prog 5 #[.slice a n cap] w (DBP w)) := draw_border w a zs cap n hs hb hl hn
  have HG : Hid (Calls Try.prog 4 #[.slice a n cap] w fun e w' => e = .returned (.bool false) ∧ w' = w) := big_no a n cap w hn
  have HW : Hid (∀ X, Below w.heap.size w X → Calls Try.prog 6 #[.slice a n cap, .int .i64 3] X fun e w' => ∃ x : Int, e = .returned (.int .u32 x) ∧ 0 ≤ x ∧ x ≤ 4294967295 ∧ w' = X) := fun X hX => word_any a cap n zs 3 X hn hl (by omega) (hs.below hX) hb
  clear hs hb hl
  go_enter Try.func3, Try.ntmps3
  go_wp2_with fail
  refine Calls.mono HG.out ?_
  rintro u w0 ⟨rfl, rfl⟩
  clear HG
  go_wp2_with fail
  refine Calls.mono HD.out ?_
  rintro e w1 ⟨k, f, t, d, h, g1, n1, c1, g2, n2, c2, xs, ys, rfl, hb1, hx, hy, hn1, hn2, hh, hd, hs1, hs2⟩
  have HB2 : Hid (LB w0 (((w1.alloc (.cells (crow k f t d) 25)).alloc (.cells (orow h (some ⟨g1, 0, none⟩) n1 c1) 28)).alloc (.cells (irow (some ⟨g2, 0, none⟩) n2 c2) 30)) w1.heap.size k f t d h g1 n1 c1 g2 n2 c2 xs ys) := by
    have ha : Below w1.heap.size w1 (((w1.alloc (.cells (crow k f t d) 25)).alloc (.cells (orow h (some ⟨g1, 0, none⟩) n1 c1) 28)).alloc (.cells (irow (some ⟨g2, 0, none⟩) n2 c2) 30)) := (((Below.refl _ _).alloc (Nat.le_refl _) _).alloc (by simp) _).alloc (by simp; omega) _
    exact ⟨hb1.trans (ha.mono hb1.size), ((Bk.new _ _ _ _ rfl).alloc _).alloc _, (Bk.new _ _ _ _ (by simp)).alloc _, Bk.new _ _ _ _ (by simp), hs1.below ha, hs2.below ha⟩
  have HX : Hid (xs.length = n1) := hx
  have HY : Hid (ys.length = n2) := hy
  clear HD hb1 hs1 hs2 hx hy
  go_wp2_with fail
  revert HB2
  generalize (((w1.alloc (.cells (crow k f t d) 25)).alloc (.cells (orow h (some ⟨g1, 0, none⟩) n1 c1) 28)).alloc (.cells (irow (some ⟨g2, 0, none⟩) n2 c2) 30)) = w2
  generalize w1.heap.size = A
  intro HB2
  refine Calls.mono (HW.out _ HB2.out.bel) ?_
  rintro e w3 ⟨x, rfl, hx0, hx1, hw3⟩
  subst hw3
  have HB3 := HB2
  clear HB2 HW
  obtain ⟨r, HR⟩ : ∃ r, Hid (roomF k f t d h (n1 : Int) = r) := ⟨_, rfl⟩
  have hrr : (r != r) = false := by simp
  have m30 := HB3.out.k3.cell 0 _ rfl
  have m31 := HB3.out.k3.cell 1 _ rfl
  have m32 := HB3.out.k3.cell 2 _ rfl
  have m33 := HB3.out.k3.cell 3 _ rfl
  have m40 := HB3.out.k4.cell 0 _ rfl
  have m41 := HB3.out.k4.cell 1 _ rfl
  go_wp2_with fail
  clear m30 m31 m32 m33 m40 m41
  refine Calls.mono (spec_room k f t d h _ n1 c1 r _ HR (by omega)) ?_
  rintro e w4 ⟨rfl, hb⟩
  have HB4 : Hid (LB w0 w4 A k f t d h g1 n1 c1 g2 n2 c2 xs ys) := HB3.out.below hb
  clear hb HB3
  have m30 := HB4.out.k3.cell 0 _ rfl
  have m31 := HB4.out.k3.cell 1 _ rfl
  have m32 := HB4.out.k3.cell 2 _ rfl
  have m33 := HB4.out.k3.cell 3 _ rfl
  have m40 := HB4.out.k4.cell 0 _ rfl
  have m41 := HB4.out.k4.cell 1 _ rfl
  go_wp2_with fail
  clear m30 m31 m32 m33 m40 m41
  refine Calls.mono (impl_room k f t d h _ n1 c1 r _ HR (by omega)) ?_
  rintro e w5 ⟨rfl, hb⟩
  have HB5 : Hid (LB w0 w5 A k f t d h g1 n1 c1 g2 n2 c2 xs ys) := HB4.out.below hb
  clear hb HB4
  obtain ⟨q, HQ⟩ : ∃ q, Hid (outOk k f t d h (n1 : Int) = q) := ⟨_, rfl⟩
  cases q
  · have HSN : Hid (sndF k f t d h (n1 : Int) xs x = (0, [], 3)) := by
      show _ = _
      unfold sndF
      rw [if_neg (by rw [HQ.out]; exact Bool.false_ne_true)]
    have HLN : Hid (([] : List Int).length = 0) := by show _ = _; first | exact HX.out | (simp; done)
    have m30 := HB5.out.k3.cell 0 _ rfl
    have m31 := HB5.out.k3.cell 1 _ rfl
    have m32 := HB5.out.k3.cell 2 _ rfl
    have m33 := HB5.out.k3.cell 3 _ rfl
    have m40 := HB5.out.k4.cell 0 _ rfl
    have m41 := HB5.out.k4.cell 1 _ rfl
    go_wp2_with fail
    clear m30 m31 m32 m33 m40 m41
    refine Calls.mono (impl_send k f t d h x _ n1 c1 xs 0 [] 3 _ HB5.out.s1 HX.out (by omega) HSN) ?_
    rintro e w6 ⟨a8, c8, rfl, hb, ho8⟩
    rw [HLN.out]
    have hal : Below w6.heap.size w6 (w6.alloc (.cells (orow 0 a8 0 c8) 28)) := (Below.refl _ _).alloc (Nat.le_refl _) _
    have HB6 : Hid (LB w0 (w6.alloc (.cells (orow 0 a8 0 c8) 28)) A k f t d h g1 n1 c1 g2 n2 c2 xs ys) := (HB5.out.below hb).below hal
    have K8 : Hid (Bk (w6.alloc (.cells (orow 0 a8 0 c8) 28)) w6.heap.size (orow 0 a8 0 c8)) := Bk.new _ _ _ _ rfl
    have S8 : Hid (Seg .u32 (w6.alloc (.cells (orow 0 a8 0 c8) 28)) a8 []) := (OE.seg ho8).below hal
    clear hb hal ho8 HB5 HSN
    have m30 := HB6.out.k3.cell 0 _ rfl
    have m31 := HB6.out.k3.cell 1 _ rfl
    have m32 := HB6.out.k3.cell 2 _ rfl
    have m33 := HB6.out.k3.cell 3 _ rfl
    have m40 := HB6.out.k4.cell 0 _ rfl
    have m41 := HB6.out.k4.cell 1 _ rfl
    go_wp2_with fail
    clear m30 m31 m32 m33 m40 m41
    revert HB6 K8 S8
    generalize (w6.alloc (.cells (orow 0 a8 0 c8) 28)) = w7
    generalize w6.heap.size = B8
    intro HB6 K8 S8
    refine Calls.mono (spec_outok k f t d h _ n1 c1 false _ HQ (by omega)) ?_
    rintro e w8 ⟨rfl, hb⟩
    have HB8 : Hid (LB w0 w8 A k f t d h g1 n1 c1 g2 n2 c2 xs ys) := HB6.out.below hb
    have K88 : Hid (Bk w8 B8 (orow 0 a8 0 c8)) := K8.out.below hb
    have S88 : Hid (Seg .u32 w8 a8 []) := S8.out.below hb
    clear hb HB6 K8 S8
    go_wp2
    go_ret
    exact ⟨rfl, HB8.out.bel⟩
  have hk := outOk_k HQ.out
  by_cases hk0 : k = 0
  · subst hk0
    clear hk
    have HSN : Hid (sndF 0 f t d h (n1 : Int) xs x = (0, [x], 0)) := by
      show _ = _
      unfold sndF
      rw [if_pos HQ.out, if_pos rfl]
    have HLN : Hid (([x] : List Int).length = 1) := by show _ = _; first | exact HX.out | (simp; done)
    have m30 := HB5.out.k3.cell 0 _ rfl
    have m31 := HB5.out.k3.cell 1 _ rfl
    have m32 := HB5.out.k3.cell 2 _ rfl
    have m33 := HB5.out.k3.cell 3 _ rfl
    have m40 := HB5.out.k4.cell 0 _ rfl
    have m41 := HB5.out.k4.cell 1 _ rfl
    go_wp2_with fail
    clear m30 m31 m32 m33 m40 m41
    refine Calls.mono (impl_send 0 f t d h x _ n1 c1 xs 0 [x] 0 _ HB5.out.s1 HX.out (by omega) HSN) ?_
    rintro e w6 ⟨a8, c8, rfl, hb, ho8⟩
    rw [HLN.out]
    have hal : Below w6.heap.size w6 (w6.alloc (.cells (orow 0 a8 1 c8) 28)) := (Below.refl _ _).alloc (Nat.le_refl _) _
    have HB6 : Hid (LB w0 (w6.alloc (.cells (orow 0 a8 1 c8) 28)) A 0 f t d h g1 n1 c1 g2 n2 c2 xs ys) := (HB5.out.below hb).below hal
    have K8 : Hid (Bk (w6.alloc (.cells (orow 0 a8 1 c8) 28)) w6.heap.size (orow 0 a8 1 c8)) := Bk.new _ _ _ _ rfl
    have S8 : Hid (Seg .u32 (w6.alloc (.cells (orow 0 a8 1 c8) 28)) a8 [x]) := (OE.seg ho8).below hal
    clear hb hal ho8 HB5 HSN
    have m30 := HB6.out.k3.cell 0 _ rfl
    have m31 := HB6.out.k3.cell 1 _ rfl
    have m32 := HB6.out.k3.cell 2 _ rfl
    have m33 := HB6.out.k3.cell 3 _ rfl
    have m40 := HB6.out.k4.cell 0 _ rfl
    have m41 := HB6.out.k4.cell 1 _ rfl
    go_wp2_with fail
    clear m30 m31 m32 m33 m40 m41
    revert HB6 K8 S8
    generalize (w6.alloc (.cells (orow 0 a8 1 c8) 28)) = w7
    generalize w6.heap.size = B8
    intro HB6 K8 S8
    refine Calls.mono (spec_outok 0 f t d h _ n1 c1 true _ HQ (by omega)) ?_
    rintro e w8 ⟨rfl, hb⟩
    have HB8 : Hid (LB w0 w8 A 0 f t d h g1 n1 c1 g2 n2 c2 xs ys) := HB6.out.below hb
    have K88 : Hid (Bk w8 B8 (orow 0 a8 1 c8)) := K8.out.below hb
    have S88 : Hid (Seg .u32 w8 a8 [x]) := S8.out.below hb
    clear hb HB6 K8 S8
    obtain ⟨b8, o8, rfl, _, hc8⟩ := S88.out (by simp)
    have e8 : w8.cell? ⟨b8, o8 + 0, none⟩ = some (.int .u32 x) := hc8 0 (by simp)
    have e8' : w8.cell? ⟨b8, o8, none⟩ = some (.int .u32 x) := hc8 0 (by simp)
    have e80 := K88.out.cell 0 _ rfl
    have e81 := K88.out.cell 1 _ rfl
    have m30 := HB8.out.k3.cell 0 _ rfl
    have hxx : (x == x) = true := by simp
    clear hc8
    go_wp2
    go_ret
    exact ⟨rfl, HB8.out.bel⟩
  have hk1 : k = 1 := by omega
  subst hk1
  have HDD : Hid (1 ≤ d ∧ d ≤ 8 ∧ 0 ≤ h ∧ h ≤ d) := by show _ ∧ _; omega
  clear hk hk0
  have HRD : Hid (d - h - (n1 : Int) = r) := by
    have := HR.out
    unfold roomF at this
    rw [if_pos HQ.out, if_neg (by omega)] at this
    exact this
  have HOL : Hid (chOk 1 f t d = true ∧ h + (n1 : Int) ≤ d) := by
    have := HQ.out
    unfold outOk at this
    rw [if_neg (by omega)] at this
    simp only [Bool.and_eq_true, decide_eq_true_eq] at this
    exact ⟨this.1, this.2.2⟩
  by_cases hr0 : r = 0
  · subst hr0
    have HSN : Hid (sndF 1 f t d h (n1 : Int) xs x = (h, xs, 2)) := by
      show _ = _
      unfold sndF
      rw [if_pos HQ.out, if_neg (by omega), if_pos (by have := HRD.out; omega)]
    have HLN : Hid ((xs : List Int).length = n1) := by show _ = _; first | exact HX.out | (simp; done)
    have m30 := HB5.out.k3.cell 0 _ rfl
    have m31 := HB5.out.k3.cell 1 _ rfl
    have m32 := HB5.out.k3.cell 2 _ rfl
    have m33 := HB5.out.k3.cell 3 _ rfl
    have m40 := HB5.out.k4.cell 0 _ rfl
    have m41 := HB5.out.k4.cell 1 _ rfl
    go_wp2_with fail
    clear m30 m31 m32 m33 m40 m41
    refine Calls.mono (impl_send 1 f t d h x _ n1 c1 xs h xs 2 _ HB5.out.s1 HX.out (by omega) HSN) ?_
    rintro e w6 ⟨a8, c8, rfl, hb, ho8⟩
    rw [HLN.out]
    have hal : Below w6.heap.size w6 (w6.alloc (.cells (orow h a8 n1 c8) 28)) := (Below.refl _ _).alloc (Nat.le_refl _) _
    have HB6 : Hid (LB w0 (w6.alloc (.cells (orow h a8 n1 c8) 28)) A 1 f t d h g1 n1 c1 g2 n2 c2 xs ys) := (HB5.out.below hb).below hal
    have K8 : Hid (Bk (w6.alloc (.cells (orow h a8 n1 c8) 28)) w6.heap.size (orow h a8 n1 c8)) := Bk.new _ _ _ _ rfl
    have S8 : Hid (Seg .u32 (w6.alloc (.cells (orow h a8 n1 c8) 28)) a8 xs) := (OE.seg ho8).below hal
    clear hb hal ho8 HB5 HSN
    have m30 := HB6.out.k3.cell 0 _ rfl
    have m31 := HB6.out.k3.cell 1 _ rfl
    have m32 := HB6.out.k3.cell 2 _ rfl
    have m33 := HB6.out.k3.cell 3 _ rfl
    have m40 := HB6.out.k4.cell 0 _ rfl
    have m41 := HB6.out.k4.cell 1 _ rfl
    go_wp2_with fail
    clear m30 m31 m32 m33 m40 m41
    revert HB6 K8 S8
    generalize (w6.alloc (.cells (orow h a8 n1 c8) 28)) = w7
    generalize w6.heap.size = B8
    intro HB6 K8 S8
    refine Calls.mono (spec_outok 1 f t d h _ n1 c1 true _ HQ (by omega)) ?_
    rintro e w8 ⟨rfl, hb⟩
    have HB8 : Hid (LB w0 w8 A 1 f t d h g1 n1 c1 g2 n2 c2 xs ys) := HB6.out.below hb
    have K88 : Hid (Bk w8 B8 (orow h a8 n1 c8)) := K8.out.below hb
    have S88 : Hid (Seg .u32 w8 a8 xs) := S8.out.below hb
    clear hb HB6 K8 S8
    have e80 := K88.out.cell 0 _ rfl
    have e81 := K88.out.cell 1 _ rfl
    have m30 := HB8.out.k3.cell 0 _ rfl
    have m40 := HB8.out.k4.cell 0 _ rfl
    have m41 := HB8.out.k4.cell 1 _ rfl
    have hhx : (h == h) = true := by simp
    go_wp2_with fail
    refine Calls.mono (same_words _ _ _ _ n1 xs _ S88.out HB8.out.s1 HX.out (by omega)) ?_
    rintro e w9 ⟨rfl, hb⟩
    have HB9 : Hid (LB w0 w9 A 1 f t d h g1 n1 c1 g2 n2 c2 xs ys) := HB8.out.below hb
    clear hb HB8 K88 S88 e80 e81 m30 m40 m41
    go_wp2
    go_ret
    exact ⟨rfl, HB9.out.bel⟩
  have hr0' : (r == 0) = false := by simpa using hr0
  have HOK2 : Hid (∀ N : Nat, (N : Int) = (n1 : Int) + 1 → outOk 1 f t d h (N : Int) = true) := fun N hN => by
    unfold outOk
    rw [if_neg (by omega), HOL.out.1, inr_yes ⟨HDD.out.2.2.1, HDD.out.2.2.2⟩]
    have h1 := HRD.out
    have h2 := HOL.out.2
    simp
    omega
  obtain ⟨N, HN⟩ : ∃ N : Nat, Hid (n1 + 1 = N) := ⟨_, rfl⟩
  have HNN : Hid ((N : Int) = (n1 : Int) + 1) := by have := HN.out; show _ = _; omega
  have hNb : N ≤ 15 := by have := HN.out; omega
  replace HOK2 : Hid (outOk 1 f t d h (N : Int) = true) := HOK2.out N HNN.out
  have HSN : Hid (sndF 1 f t d h (n1 : Int) xs x = (h, (xs ++ [x]), 0)) := by
    show _ = _
    unfold sndF
    rw [if_pos HQ.out, if_neg (by omega), if_neg (by have := HRD.out; omega)]
  have HLN : Hid (((xs ++ [x]) : List Int).length = N) := by show _ = _; rw [List.length_append, HX.out]; exact HN.out
  have m30 := HB5.out.k3.cell 0 _ rfl
  have m31 := HB5.out.k3.cell 1 _ rfl
  have m32 := HB5.out.k3.cell 2 _ rfl
  have m33 := HB5.out.k3.cell 3 _ rfl
  have m40 := HB5.out.k4.cell 0 _ rfl
  have m41 := HB5.out.k4.cell 1 _ rfl
  go_wp2_with fail
  clear m30 m31 m32 m33 m40 m41
  refine Calls.mono (impl_send 1 f t d h x _ n1 c1 xs h (xs ++ [x]) 0 _ HB5.out.s1 HX.out (by omega) HSN) ?_
  rintro e w6 ⟨a8, c8, rfl, hb, ho8⟩
  rw [HLN.out]
  have hal : Below w6.heap.size w6 (w6.alloc (.cells (orow h a8 N c8) 28)) := (Below.refl _ _).alloc (Nat.le_refl _) _
  have HB6 : Hid (LB w0 (w6.alloc (.cells (orow h a8 N c8) 28)) A 1 f t d h g1 n1 c1 g2 n2 c2 xs ys) := (HB5.out.below hb).below hal
  have K8 : Hid (Bk (w6.alloc (.cells (orow h a8 N c8) 28)) w6.heap.size (orow h a8 N c8)) := Bk.new _ _ _ _ rfl
  have S8 : Hid (Seg .u32 (w6.alloc (.cells (orow h a8 N c8) 28)) a8 (xs ++ [x])) := (OE.seg ho8).below hal
  clear hb hal ho8 HB5 HSN
  have m30 := HB6.out.k3.cell 0 _ rfl
  have m31 := HB6.out.k3.cell 1 _ rfl
  have m32 := HB6.out.k3.cell 2 _ rfl
  have m33 := HB6.out.k3.cell 3 _ rfl
  have m40 := HB6.out.k4.cell 0 _ rfl
  have m41 := HB6.out.k4.cell 1 _ rfl
  go_wp2_with fail
  clear m30 m31 m32 m33 m40 m41
  revert HB6 K8 S8
  generalize (w6.alloc (.cells (orow h a8 N c8) 28)) = w7
  generalize w6.heap.size = B8
  intro HB6 K8 S8
  refine Calls.mono (spec_outok 1 f t d h _ n1 c1 true _ HQ (by omega)) ?_
  rintro e w8 ⟨rfl, hb⟩
  have HB8 : Hid (LB w0 w8 A 1 f t d h g1 n1 c1 g2 n2 c2 xs ys) := HB6.out.below hb
  have K88 : Hid (Bk w8 B8 (orow h a8 N c8)) := K8.out.below hb
  have S88 : Hid (Seg .u32 w8 a8 (xs ++ [x])) := S8.out.below hb
  clear hb HB6 K8 S8
  have HRM : Hid (roomF 1 f t d h (N : Int) = r - 1) := by
    show _ = _
    unfold roomF
    rw [if_pos HOK2.out, if_neg (by omega)]
    have h1 := HRD.out
    have h2 := HNN.out
    omega
  have e80 := K88.out.cell 0 _ rfl
  have e81 := K88.out.cell 1 _ rfl
  have m30 := HB8.out.k3.cell 0 _ rfl
  have m31 := HB8.out.k3.cell 1 _ rfl
  have m32 := HB8.out.k3.cell 2 _ rfl
  have m33 := HB8.out.k3.cell 3 _ rfl
  have m40 := HB8.out.k4.cell 0 _ rfl
  have m41 := HB8.out.k4.cell 1 _ rfl
  have hwr : IntKind.i64.wrap (r - 1) = r - 1 := by have h1 := HRD.out; rw [IntKind.wrap_i64]; omega
  have hr1 : (r - 1 != r - 1) = false := by simp
  go_wp2_with fail
  refine Calls.mono (impl_room 1 f t d h _ N c8 (r - 1) _ HRM (by omega)) ?_
  rintro e w9 ⟨rfl, hb⟩
  have HB9 : Hid (LB w0 w9 A 1 f t d h g1 n1 c1 g2 n2 c2 xs ys) := HB8.out.below hb
  have K89 : Hid (Bk w9 B8 (orow h a8 N c8)) := K88.out.below hb
  have S89 : Hid (Seg .u32 w9 a8 (xs ++ [x])) := S88.out.below hb
  clear m30 m31 m32 m33 m40 m41
  clear hb HB8 K88 S88 e80 e81 HRM
  have e80 := K89.out.cell 0 _ rfl
  have e81 := K89.out.cell 1 _ rfl
  have m30 := HB9.out.k3.cell 0 _ rfl
  have m31 := HB9.out.k3.cell 1 _ rfl
  have m32 := HB9.out.k3.cell 2 _ rfl
  have m33 := HB9.out.k3.cell 3 _ rfl
  have m40 := HB9.out.k4.cell 0 _ rfl
  have m41 := HB9.out.k4.cell 1 _ rfl
  go_wp2_with fail
  refine Calls.mono (impl_outok 1 f t d h _ N c8 true _ HOK2 (by omega)) ?_
  rintro e w10 ⟨rfl, hb⟩
  have HB10 : Hid (LB w0 w10 A 1 f t d h g1 n1 c1 g2 n2 c2 xs ys) := HB9.out.below hb
  have K810 : Hid (Bk w10 B8 (orow h a8 N c8)) := K89.out.below hb
  have S810 : Hid (Seg .u32 w10 a8 (xs ++ [x])) := S89.out.below hb
  clear m30 m31 m32 m33 m40 m41
  clear hb HB9 K89 S89 e80 e81
  obtain ⟨q2, HQ2⟩ : ∃ q, Hid (inOk 1 f t d (n2 : Int) = q) := ⟨_, rfl⟩
  have m30 := HB10.out.k3.cell 0 _ rfl
  have m31 := HB10.out.k3.cell 1 _ rfl
  have m32 := HB10.out.k3.cell 2 _ rfl
  have m33 := HB10.out.k3.cell 3 _ rfl
  have m50 := HB10.out.k5.cell 0 _ rfl
  go_wp2_with fail
  refine Calls.mono (spec_inok 1 f t d _ n2 c2 q2 _ HQ2) ?_
  rintro e w11 ⟨rfl, hb⟩
  have HB11 : Hid (LB w0 w11 A 1 f t d h g1 n1 c1 g2 n2 c2 xs ys) := HB10.out.below hb
  have K811 : Hid (Bk w11 B8 (orow h a8 N c8)) := K810.out.below hb
  have S811 : Hid (Seg .u32 w11 a8 (xs ++ [x])) := S810.out.below hb
  clear m30 m31 m32 m33 m50
  clear hb HB10 K810 S810
  cases q2
  · go_wp2
    go_ret
    exact ⟨rfl, HB11.out.bel⟩
  have m50 := HB11.out.k5.cell 0 _ rfl
  have m40 := HB11.out.k4.cell 0 _ rfl
  by_cases hgt : h < (n2 : Int)
  · go_wp2
    go_ret
    exact ⟨rfl, HB11.out.bel⟩
  obtain ⟨M, HM⟩ : ∃ M : Nat, Hid (n2 + N = M) := ⟨_, rfl⟩
  have HBR : Hid (borF 1 f t d h (N : Int) (n2 : Int) (xs ++ [x]) ys = ((M : Int), ys ++ (xs ++ [x]), xs ++ [x])) := by
    show _ = _
    have hbo : borOk 1 f t d h (N : Int) (n2 : Int) = true := by
      unfold borOk
      rw [HOK2.out, HQ2.out]
      simp
      omega
    unfold borF
    rw [if_pos hbo, if_neg (by omega)]
    have := HM.out
    rw [show (n2 : Int) + (N : Int) = (M : Int) by omega]
  have HLM : Hid ((ys ++ (xs ++ [x])).length = M) := by show _ = _; rw [List.length_append, HLN.out, HY.out]; exact HM.out
  have m30 := HB11.out.k3.cell 0 _ rfl
  have m31 := HB11.out.k3.cell 1 _ rfl
  have m32 := HB11.out.k3.cell 2 _ rfl
  have m33 := HB11.out.k3.cell 3 _ rfl
  have e80 := K811.out.cell 0 _ rfl
  have e81 := K811.out.cell 1 _ rfl
  go_wp2_with fail
  refine Calls.mono (impl_border 1 f t d h _ N c8 _ n2 c2 (xs ++ [x]) ys (M : Int) (ys ++ (xs ++ [x])) (xs ++ [x]) _ S811.out HLN.out (by omega) HB11.out.s2 HY.out (by omega) HBR) ?_
  rintro e w12 ⟨p1, d1, p2, d2, rfl, hb, l1, u1, l2, u2, ho1, ho2, _⟩
  rw [HLM.out, HLN.out]
  have HB12 : Hid (LB w0 w12 A 1 f t d h g1 n1 c1 g2 n2 c2 xs ys) := HB11.out.below hb
  have S1 : Hid (Seg .u32 w12 p1 (ys ++ (xs ++ [x]))) := OE.seg ho1
  have S2 : Hid (Seg .u32 w12 p2 (xs ++ [x])) := OE.seg ho2
  clear hb ho1 ho2 HB11 K811 S811 m30 m31 m32 m33 e80 e81 m40 m50 HBR
  obtain ⟨x1, y1, rfl, _, hc1⟩ := S1.out (by rw [HLM.out]; have := HM.out; have := HN.out; omega)
  obtain ⟨x2, y2, rfl, _, hc2⟩ := S2.out (by rw [HLN.out]; have := HN.out; omega)
  obtain ⟨M1, HM1⟩ : ∃ M1 : Nat, Hid (n2 + n1 = M1) := ⟨_, rfl⟩
  have HM2 : Hid ((M : Int) = (M1 : Int) + 1) := by have h1 := HM.out; have h2 := HM1.out; have h3 := HN.out; show _ = _; omega
  have d1' : w12.cell? ⟨x1, y1 + M1, none⟩ = some (.int .u32 x) := by
    have := hc1 M1 (by rw [HLM.out]; have := HM2.out; omega)
    rw [this, ← HM1.out, ← HY.out, ← HX.out, last_of2]
  have d2' : w12.cell? ⟨x2, y2 + n1, none⟩ = some (.int .u32 x) := by
    have := hc2 n1 (by rw [HLN.out]; have := HN.out; omega)
    rw [this, ← HX.out, last_of]
  clear hc1 hc2 S1 S2
  obtain ⟨Z, HZ⟩ : ∃ Z, Hid (Z = ((w12.alloc (.cells (orow (M : Int) none 0 0) 28)).alloc (.cells (irow (some ⟨x1, y1, none⟩) M d1) 30))) := ⟨_, rfl⟩
  have haz : Below w12.heap.size w12 Z := by rw [HZ.out]; exact ((Below.refl _ _).alloc (Nat.le_refl _) _).alloc (by simp) _
  have HB13 : Hid (LB w0 Z A 1 f t d h g1 n1 c1 g2 n2 c2 xs ys) := HB12.out.below haz
  have K10 : Hid (Bk Z w12.heap.size (orow (M : Int) none 0 0)) := by rw [HZ.out]; exact (Bk.new _ _ _ _ rfl).alloc _
  have K11 : Hid (Bk Z (w12.heap.size + 1) (irow (some ⟨x1, y1, none⟩) M d1)) := by rw [HZ.out]; exact Bk.new _ _ _ _ (by simp)
  have E1 := kept_cell haz d1'
  have E2 := kept_cell haz d2'
  have m40 := HB13.out.k4.cell 0 _ rfl
  have m41 := HB13.out.k4.cell 1 _ rfl
  have m50 := HB13.out.k5.cell 0 _ rfl
  have q0 := K10.out.cell 0 _ rfl
  have q1 := K10.out.cell 1 _ rfl
  have q2 := K11.out.cell 0 _ rfl
  rw [HZ.out] at E1 E2 m40 m41 m50 q0 q1 q2
  have hw1 : IntKind.i64.wrap ((n1 : Int) + 1) = (N : Int) := by have := HNN.out; rw [IntKind.wrap_i64]; omega
  have hw2 : IntKind.i64.wrap ((N : Int) - 1) = (n1 : Int) := by have := HNN.out; rw [IntKind.wrap_i64]; omega
  have hw3 : IntKind.i64.wrap ((n2 : Int) + (N : Int)) = (M : Int) := by have := HM.out; rw [IntKind.wrap_i64]; omega
  have hw4 : IntKind.i64.wrap ((M : Int) - 1) = (M1 : Int) := by have := HM2.out; have := HM1.out; rw [IntKind.wrap_i64]; omega
  have hlt1 : (n1 : Int) < (N : Int) := by have := HNN.out; omega
  have hlt2 : (M1 : Int) < (M : Int) := by have := HM2.out; omega
  have hNN : ((N : Int) == (N : Int)) = true := by simp
  have hMM : ((M : Int) == (M : Int)) = true := by simp
  have hxx : (x == x) = true := by simp
  have HFIN : Hid (Below w0.heap.size w0 ((w12.alloc (.cells (orow (M : Int) none 0 0) 28)).alloc (.cells (irow (some ⟨x1, y1, none⟩) M d1) 30))) := by have := HB13.out.bel; rw [HZ.out] at this; exact this
  clear haz HB12 HB13 K10 K11 HZ d1' d2'
  go_wp2
  go_ret
  exact ⟨rfl, HFIN.out⟩
end Go.Proofs.Ytobgaakcinjnaaa
