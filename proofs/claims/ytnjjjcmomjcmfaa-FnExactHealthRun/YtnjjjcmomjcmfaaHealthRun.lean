
/-
  At every policy and every list of faults HealthRun answers as its model, in memory of its own, and leaves its arguments as they were: the law FnExactHealthRun returns true and its arguments read as before. No conditions.
  Built over the program of the commit that COMMIT names.
-/
import Derived.Test.YtnjjjcmomjcmfaaRows
import Derived.WalkKit
import Derived.ProofKit
import Derived.OpenShut
import Derived.Below
import Derived.Test.YtnjjjcmomjcmfaaHrs
import Derived.Test.YtnjjjcmomjcmfaaHri
import Derived.Test.YtnjjjcmomjcmfaaHin
import Derived.Carry
import Derived.ShutString
namespace Go.Proofs.Ytnjjjcmomjcmfaa.fnExactHealthRun
open Go.ChangeShapes Go.WideShapes Go.ChangeAt Go.RowKit Go.Deep
set_option linter.unusedVariables false

theorem laidOut : laidOutB Try.prog = true := by kernel_rfl
theorem own : ownKnob Try.prog.godebug = none := by kernel_rfl

/-- At all arguments there is one answer that both runs give. -/
theorem run_alike (k m : Int) (zs : List Int) (n : Nat) (hl : zs.length = n) (hn : n ≤ 1048576) : ∃ (s : St) (ys : List Int) (y : Nat), ys.length = y ∧ y ≤ 1048576 ∧
    (∀ (X : World) a1, Seg .i64 X a1 zs → Calls Try.prog 20 #[pol k m, .slice a1 n n] X fun e w' => ∃ a' c', e = .returned (.tuple #[hltS s, .slice a' y c']) ∧ Below X.heap.size X w' ∧ OI w' X.heap.size w'.heap.size a' ys) ∧
    (∀ (X : World) a1, Seg .i64 X a1 zs → Calls Try.prog 22 #[pol k m, .slice a1 n n] X fun e w' => ∃ a' c', e = .returned (.tuple #[hltS s, .slice a' y c']) ∧ Below X.heap.size X w' ∧ OI w' X.heap.size w'.heap.size a' ys) := by
  by_cases h : RunP k m n
  · refine ⟨stI k m zs n, acts k m zs n, n, acts_len _ _ _ _, hn, fun X a1 hs => ?_, fun X a1 hs => ?_⟩
    · have := spec_run k m a1 n n zs X hs hl hn _ _ (fun _ => ⟨rfl, rfl⟩) (fun g => absurd h g)
      unfold HPost at this; rw [acts_len] at this; exact this
    · have := impl_run k m a1 n n zs X hs hl hn _ _ (fun _ => ⟨rfl, rfl⟩) (fun g => absurd h g)
      unfold HPost at this; rw [acts_len] at this; exact this
  · refine ⟨(0, 0, 0, false), [], 0, rfl, by omega, fun X a1 hs => ?_, fun X a1 hs => ?_⟩
    · exact spec_run k m a1 n n zs X hs hl hn (0, 0, 0, false) [] (fun g => absurd g h) (fun _ => ⟨rfl, rfl⟩)
    · exact impl_run k m a1 n n zs X hs hl hn (0, 0, 0, false) [] (fun g => absurd g h) (fun _ => ⟨rfl, rfl⟩)

/-! ### The walk -/
set_option maxRecDepth 20000 in
set_option maxHeartbeats 2000000 in
theorem walk (pk pm : Int) (a : Option Addr) (cap n : Nat) (zs : List Int) (w0 : polW pk pm) (w : World) (hs : Seg .i64 w a zs) (hl : zs.length = n) (hn : n ≤ 9223372036854775807) :
    Calls Try.prog 7 #[pol pk pm, .slice a n cap] w fun e w' => e = .returned (.bool true) ∧ Below w.heap.size w w' := by
  by_cases hbig : n ≤ 1048576
  rotate_left
  · have hgt : (1048576 : Int) < (n : Int) := by omega
    go_enter Try.func7, Try.ntmps7
    go_wp2
    go_ret
    exact ⟨rfl, (Below.refl _ _).alloc (Nat.le_refl _) _⟩
  obtain ⟨s, ys, y, hyl, hyb, hsp, him⟩ := run_alike pk pm zs n hl (by omega)
  obtain ⟨f1, r1, l1, b1⟩ := s
  have SP : Hid (∀ (X : World) a1, Seg .i64 X a1 zs → Calls Try.prog 20 #[pol pk pm, .slice a1 n n] X fun e w' => ∃ a' c', e = .returned (.tuple #[hlt f1 r1 l1 b1, .slice a' y c']) ∧ Below X.heap.size X w' ∧ OI w' X.heap.size w'.heap.size a' ys) := hsp
  have IM : Hid (∀ (X : World) a1, Seg .i64 X a1 zs → Calls Try.prog 22 #[pol pk pm, .slice a1 n n] X fun e w' => ∃ a' c', e = .returned (.tuple #[hlt f1 r1 l1 b1, .slice a' y c']) ∧ Below X.heap.size X w' ∧ OI w' X.heap.size w'.heap.size a' ys) := him
  have EY : Hid (∀ (X : World) a1 a2 c1 c2, Seg .i64 X a1 ys → Seg .i64 X a2 ys → Calls Try.prog 23 #[.slice a1 y c1, .slice a2 y c2] X fun e w' => e = .returned (.bool true) ∧ Below X.heap.size X w') := fun X a1 a2 c1 c2 h1 h2 => by have := eq_ints a1 a2 c1 c2 ys X h1 h2 (by omega); rw [hyl] at this; exact this
  have EN : Hid (∀ (X : World) a1 a2, Seg .i64 X a1 zs → Seg .i64 X a2 zs → Calls Try.prog 23 #[.slice a1 n n, .slice a2 n n] X fun e w' => e = .returned (.bool true) ∧ Below X.heap.size X w') := fun X a1 a2 h1 h2 => by have := eq_ints a1 a2 n n zs X h1 h2 (by omega); rw [hl] at this; exact this
  have TI : Hid (∀ X, Below w.heap.size w X → Calls Try.prog 21 #[.slice a n cap] X fun e w' => e = .returned (.slice (some ⟨X.heap.size, 0, none⟩) n n) ∧ Below X.heap.size X w' ∧ OI w' X.heap.size w'.heap.size (some ⟨X.heap.size, 0, none⟩) zs) := fun X hX => to_ints a cap n zs X (hs.below hX) hl hbig
  have HLN : Hid (zs.length = n) := hl
  have HYL : Hid (ys.length = y) := hyl
  clear hsp him hs hl hyl w0
  have HB : Hid (Below w.heap.size w (w.alloc (.cells (prow pk pm) 23))) := (Below.refl _ w).alloc (Nat.le_refl _) _
  have HP : Hid (Bk (w.alloc (.cells (prow pk pm) 23)) w.heap.size (prow pk pm)) := Bk.new w _ _ _ rfl
  have hng : ¬ ((1048576 : Int) < (n : Int)) := by omega
  go_enter Try.func7, Try.ntmps7
  go_wp2_with fail
  refine Calls.mono (to_policy pk pm _) ?_
  rintro u w1 ⟨rfl, hb1⟩
  replace HB : Hid (Below w.heap.size w _) := HB.out.trans (hb1.mono HB.out.size)
  replace HP : Hid (Bk _ _ _) := Bk.below HP.out hb1
  clear hb1
  have hz0 : w.heap.size < w1.heap.size := HP.out.lt
  go_wp2_with fail
  refine Calls.mono (TI.out _ HB.out) ?_
  rintro u w2 ⟨rfl, hb2, ho2⟩
  replace HB : Hid (Below w.heap.size w _) := HB.out.trans (hb2.mono HB.out.size)
  replace HP : Hid (Bk _ _ _) := Bk.below HP.out hb2
  have hz2 : w1.heap.size ≤ w2.heap.size := hb2.size
  clear hb2
  go_wp2_with fail
  refine Calls.mono (SP.out _ _ (OI.seg ho2)) ?_
  rintro u w3 ⟨a3, c3, rfl, hb3, ho3⟩
  clear ho2
  have hal : Below w3.heap.size w3 (w3.alloc (.cells (hrow f1 r1 l1 b1) 31)) := (Below.refl _ _).alloc (Nat.le_refl _) _
  have hb3' := hb3.trans (hal.mono hb3.size)
  have hz3 := hb3.size
  replace HB : Hid (Below w.heap.size w _) := HB.out.trans (hb3'.mono HB.out.size)
  replace HP : Hid (Bk _ _ _) := Bk.below HP.out hb3'
  have SA : Hid (OI (w3.alloc (.cells (hrow f1 r1 l1 b1) 31)) _ w3.heap.size a3 ys) := ho3.below hal
  have SV : Hid (Bk (w3.alloc (.cells (hrow f1 r1 l1 b1) 31)) w3.heap.size (hrow f1 r1 l1 b1)) := Bk.new w3 _ _ _ rfl
  clear hb3 hb3' hal ho3
  go_wp2_with fail
  refine Calls.mono (TI.out _ HB.out) ?_
  rintro u w4 ⟨rfl, hb4, ho4⟩
  replace HB : Hid (Below w.heap.size w _) := HB.out.trans (hb4.mono HB.out.size)
  replace HP : Hid (Bk _ _ _) := Bk.below HP.out hb4
  replace SA : Hid (OI _ _ _ _ _) := OI.below SA.out hb4
  replace SV : Hid (Bk _ _ _) := Bk.below SV.out hb4
  have hz4 : w3.heap.size + 1 ≤ w4.heap.size := by have := hb4.size; simp at this; omega
  simp only [World.size_alloc] at ho4
  have XA : Hid (OI w4 (w3.heap.size + 1) w4.heap.size (some ⟨w3.heap.size + 1, 0, none⟩) zs) := ho4
  clear hb4 ho4
  simp only [World.size_alloc]
  have p0 := HP.out.cell 0 _ rfl
  have p1 := HP.out.cell 1 _ rfl
  go_wp2_with fail
  refine Calls.mono (to_policy pk pm _) ?_
  rintro u w5 ⟨rfl, hb5⟩
  clear p0 p1
  replace HB : Hid (Below w.heap.size w _) := HB.out.trans (hb5.mono HB.out.size)
  replace HP : Hid (Bk _ _ _) := Bk.below HP.out hb5
  replace SA : Hid (OI _ _ _ _ _) := OI.below SA.out hb5
  replace SV : Hid (Bk _ _ _) := Bk.below SV.out hb5
  replace XA : Hid (OI _ _ _ _ _) := OI.below XA.out hb5
  have hz5 : w4.heap.size ≤ w5.heap.size := hb5.size
  clear hb5
  go_wp2_with fail
  refine Calls.mono (IM.out _ _ (OI.seg XA.out)) ?_
  rintro u w6 ⟨a6, c6, rfl, hb6, ho6⟩
  have hal : Below w6.heap.size w6 (w6.alloc (.cells (hrow f1 r1 l1 b1) 31)) := (Below.refl _ _).alloc (Nat.le_refl _) _
  have hb6' := hb6.trans (hal.mono hb6.size)
  have hz6 := hb6.size
  replace HB : Hid (Below w.heap.size w _) := HB.out.trans (hb6'.mono HB.out.size)
  replace HP : Hid (Bk _ _ _) := Bk.below HP.out hb6'
  replace SA : Hid (OI _ _ _ _ _) := OI.below SA.out hb6'
  replace SV : Hid (Bk _ _ _) := Bk.below SV.out hb6'
  replace XA : Hid (OI _ _ _ _ _) := OI.below XA.out hb6'
  have GA : Hid (OI (w6.alloc (.cells (hrow f1 r1 l1 b1) 31)) _ w6.heap.size a6 ys) := ho6.below hal
  have GV : Hid (Bk (w6.alloc (.cells (hrow f1 r1 l1 b1) 31)) w6.heap.size (hrow f1 r1 l1 b1)) := Bk.new w6 _ _ _ rfl
  clear hb6 hb6' hal ho6
  have g0 := GV.out.cell 0 _ rfl
  have g1 := GV.out.cell 1 _ rfl
  have g2 := GV.out.cell 2 _ rfl
  have g3 := GV.out.cell 3 _ rfl
  have s0 := SV.out.cell 0 _ rfl
  have s1 := SV.out.cell 1 _ rfl
  have s2 := SV.out.cell 2 _ rfl
  have s3 := SV.out.cell 3 _ rfl
  go_wp2_with fail
  refine Calls.mono (eq_health f1 r1 l1 b1 _) ?_
  rintro u w7 ⟨rfl, hb7⟩
  clear g0 g1 g2 g3
  clear s0 s1 s2 s3
  replace HB : Hid (Below w.heap.size w _) := HB.out.trans (hb7.mono HB.out.size)
  replace HP : Hid (Bk _ _ _) := Bk.below HP.out hb7
  replace SA : Hid (OI _ _ _ _ _) := OI.below SA.out hb7
  replace SV : Hid (Bk _ _ _) := Bk.below SV.out hb7
  replace XA : Hid (OI _ _ _ _ _) := OI.below XA.out hb7
  replace GA : Hid (OI _ _ _ _ _) := OI.below GA.out hb7
  replace GV : Hid (Bk _ _ _) := Bk.below GV.out hb7
  clear hb7
  go_wp2_with fail
  refine Calls.mono (EY.out _ a6 a3 c6 c3 (OI.seg GA.out) (OI.seg SA.out)) ?_
  rintro u w8 ⟨rfl, hb8⟩
  replace HB : Hid (Below w.heap.size w _) := HB.out.trans (hb8.mono HB.out.size)
  replace HP : Hid (Bk _ _ _) := Bk.below HP.out hb8
  replace SA : Hid (OI _ _ _ _ _) := OI.below SA.out hb8
  replace SV : Hid (Bk _ _ _) := Bk.below SV.out hb8
  replace XA : Hid (OI _ _ _ _ _) := OI.below XA.out hb8
  replace GA : Hid (OI _ _ _ _ _) := OI.below GA.out hb8
  replace GV : Hid (Bk _ _ _) := Bk.below GV.out hb8
  clear hb8
  go_wp2_with fail
  refine Calls.mono (TI.out _ HB.out) ?_
  rintro u w9 ⟨rfl, hb9, ho9⟩
  replace HB : Hid (Below w.heap.size w _) := HB.out.trans (hb9.mono HB.out.size)
  replace HP : Hid (Bk _ _ _) := Bk.below HP.out hb9
  replace SA : Hid (OI _ _ _ _ _) := OI.below SA.out hb9
  replace SV : Hid (Bk _ _ _) := Bk.below SV.out hb9
  replace XA : Hid (OI _ _ _ _ _) := OI.below XA.out hb9
  replace GA : Hid (OI _ _ _ _ _) := OI.below GA.out hb9
  replace GV : Hid (Bk _ _ _) := Bk.below GV.out hb9
  clear hb9
  go_wp2_with fail
  refine Calls.mono (EN.out _ _ _ (OI.seg XA.out) (OI.seg ho9)) ?_
  rintro u w10 ⟨rfl, hb10⟩
  replace HB : Hid (Below w.heap.size w _) := HB.out.trans (hb10.mono HB.out.size)
  replace HP : Hid (Bk _ _ _) := Bk.below HP.out hb10
  replace SA : Hid (OI _ _ _ _ _) := OI.below SA.out hb10
  replace SV : Hid (Bk _ _ _) := Bk.below SV.out hb10
  replace XA : Hid (OI _ _ _ _ _) := OI.below XA.out hb10
  replace GA : Hid (OI _ _ _ _ _) := OI.below GA.out hb10
  replace GV : Hid (Bk _ _ _) := Bk.below GV.out hb10
  clear hb10 ho9
  have hz10 : w6.heap.size < w10.heap.size := GV.out.lt
  go_wp2_with fail
  refine Calls.mono (mark_ints (w3.heap.size + 1) w4.heap.size n n 1 (some ⟨w3.heap.size + 1, 0, none⟩) zs _ XA.out HLN.out hbig (by omega)) ?_
  rintro u w11 ⟨rfl, hb11, ho11⟩
  clear XA
  replace HB : Hid (Below w.heap.size w _) := HB.out.trans (hb11.below (by omega) HB.out.size)
  replace HP : Hid (Bk _ _ _) := Bk.betw HP.out hb11 (.inl (by omega))
  replace SA : Hid (OI _ _ _ _ _) := OI.betw SA.out hb11 (.inl (by omega))
  replace SV : Hid (Bk _ _ _) := Bk.betw SV.out hb11 (.inl (by omega))
  replace GA : Hid (OI _ _ _ _ _) := OI.betw GA.out hb11 (.inr (by omega))
  replace GV : Hid (Bk _ _ _) := Bk.betw GV.out hb11 (.inr (by omega))
  have hz11 : w10.heap.size ≤ w11.heap.size := hb11.size
  clear hb11 ho11
  obtain ⟨K1, HK1⟩ : ∃ K, Hid (1 + n = K) := ⟨_, rfl⟩
  have hK1 : ¬ ((K1 : Int) < 0) := by omega
  rw [HK1.out]
  have g0 := GV.out.cell 0 _ rfl
  have g1 := GV.out.cell 1 _ rfl
  have g2 := GV.out.cell 2 _ rfl
  have g3 := GV.out.cell 3 _ rfl
  have s0 := SV.out.cell 0 _ rfl
  have s1 := SV.out.cell 1 _ rfl
  have s2 := SV.out.cell 2 _ rfl
  have s3 := SV.out.cell 3 _ rfl
  go_wp2_with fail
  refine Calls.mono (eq_health f1 r1 l1 b1 _) ?_
  rintro u w12 ⟨rfl, hb12⟩
  clear g0 g1 g2 g3
  clear s0 s1 s2 s3
  replace HB : Hid (Below w.heap.size w _) := HB.out.trans (hb12.mono HB.out.size)
  replace HP : Hid (Bk _ _ _) := Bk.below HP.out hb12
  replace SA : Hid (OI _ _ _ _ _) := OI.below SA.out hb12
  replace SV : Hid (Bk _ _ _) := Bk.below SV.out hb12
  replace GA : Hid (OI _ _ _ _ _) := OI.below GA.out hb12
  replace GV : Hid (Bk _ _ _) := Bk.below GV.out hb12
  clear hb12
  go_wp2_with fail
  refine Calls.mono (EY.out _ a6 a3 c6 c3 (OI.seg GA.out) (OI.seg SA.out)) ?_
  rintro u w13 ⟨rfl, hb13⟩
  replace HB : Hid (Below w.heap.size w _) := HB.out.trans (hb13.mono HB.out.size)
  replace HP : Hid (Bk _ _ _) := Bk.below HP.out hb13
  replace SA : Hid (OI _ _ _ _ _) := OI.below SA.out hb13
  replace SV : Hid (Bk _ _ _) := Bk.below SV.out hb13
  replace GA : Hid (OI _ _ _ _ _) := OI.below GA.out hb13
  replace GV : Hid (Bk _ _ _) := Bk.below GV.out hb13
  clear hb13
  have hz13 : w6.heap.size < w13.heap.size := GV.out.lt
  go_wp2_with fail
  refine Calls.mono (mark_ints w5.heap.size w6.heap.size c6 y 1 a6 ys _ GA.out HYL.out (by omega) (by omega)) ?_
  rintro u w14 ⟨rfl, hb14, ho14⟩
  clear GA
  replace HB : Hid (Below w.heap.size w _) := HB.out.trans (hb14.below (by omega) HB.out.size)
  replace HP : Hid (Bk _ _ _) := Bk.betw HP.out hb14 (.inl (by omega))
  replace SA : Hid (OI _ _ _ _ _) := OI.betw SA.out hb14 (.inl (by omega))
  replace SV : Hid (Bk _ _ _) := Bk.betw SV.out hb14 (.inl (by omega))
  replace GV : Hid (Bk _ _ _) := Bk.betw GV.out hb14 (.inr (by omega))
  have GM : Hid (OI w14 w5.heap.size w6.heap.size a6 (marks 1 y)) := ho14
  clear hb14 ho14
  obtain ⟨K2, HK2⟩ : ∃ K, Hid (1 + y = K) := ⟨_, rfl⟩
  have hK2 : ¬ ((K2 : Int) < 0) := by omega
  rw [HK2.out]
  go_wp2_with fail
  refine Calls.mono (held_ints a6 c6 y 1 _ (OI.seg GM.out) (by omega) (by omega)) ?_
  rintro u wh ⟨rfl, hh0⟩
  rw [hh0, HK2.out]
  clear hh0 wh
  have p0 := HP.out.cell 0 _ rfl
  have p1 := HP.out.cell 1 _ rfl
  go_wp2_with fail
  refine Calls.mono (to_policy pk pm _) ?_
  rintro u w15 ⟨rfl, hb15⟩
  clear p0 p1
  replace HB : Hid (Below w.heap.size w _) := HB.out.trans (hb15.mono HB.out.size)
  replace HP : Hid (Bk _ _ _) := Bk.below HP.out hb15
  replace SA : Hid (OI _ _ _ _ _) := OI.below SA.out hb15
  replace SV : Hid (Bk _ _ _) := Bk.below SV.out hb15
  replace GV : Hid (Bk _ _ _) := Bk.below GV.out hb15
  replace GM : Hid (OI _ _ _ _ _) := OI.below GM.out hb15
  clear hb15
  go_wp2_with fail
  refine Calls.mono (TI.out _ HB.out) ?_
  rintro u w16 ⟨rfl, hb16, ho16⟩
  replace HB : Hid (Below w.heap.size w _) := HB.out.trans (hb16.mono HB.out.size)
  replace HP : Hid (Bk _ _ _) := Bk.below HP.out hb16
  replace SA : Hid (OI _ _ _ _ _) := OI.below SA.out hb16
  replace SV : Hid (Bk _ _ _) := Bk.below SV.out hb16
  replace GV : Hid (Bk _ _ _) := Bk.below GV.out hb16
  replace GM : Hid (OI _ _ _ _ _) := OI.below GM.out hb16
  clear hb16
  go_wp2_with fail
  refine Calls.mono (IM.out _ _ (OI.seg ho16)) ?_
  rintro u w17 ⟨a17, c17, rfl, hb17, ho17⟩
  clear ho16
  have hal : Below w17.heap.size w17 (w17.alloc (.cells (hrow f1 r1 l1 b1) 31)) := (Below.refl _ _).alloc (Nat.le_refl _) _
  have hb17' := hb17.trans (hal.mono hb17.size)
  have hz17 := hb17.size
  replace HB : Hid (Below w.heap.size w _) := HB.out.trans (hb17'.mono HB.out.size)
  replace HP : Hid (Bk _ _ _) := Bk.below HP.out hb17'
  replace SA : Hid (OI _ _ _ _ _) := OI.below SA.out hb17'
  replace SV : Hid (Bk _ _ _) := Bk.below SV.out hb17'
  replace GV : Hid (Bk _ _ _) := Bk.below GV.out hb17'
  replace GM : Hid (OI _ _ _ _ _) := OI.below GM.out hb17'
  have YA : Hid (OI (w17.alloc (.cells (hrow f1 r1 l1 b1) 31)) _ w17.heap.size a17 ys) := ho17.below hal
  have YV : Hid (Bk (w17.alloc (.cells (hrow f1 r1 l1 b1) 31)) w17.heap.size (hrow f1 r1 l1 b1)) := Bk.new w17 _ _ _ rfl
  clear hb17 hb17' hal ho17
  have g0 := YV.out.cell 0 _ rfl
  have g1 := YV.out.cell 1 _ rfl
  have g2 := YV.out.cell 2 _ rfl
  have g3 := YV.out.cell 3 _ rfl
  have s0 := SV.out.cell 0 _ rfl
  have s1 := SV.out.cell 1 _ rfl
  have s2 := SV.out.cell 2 _ rfl
  have s3 := SV.out.cell 3 _ rfl
  go_wp2_with fail
  refine Calls.mono (eq_health f1 r1 l1 b1 _) ?_
  rintro u w18 ⟨rfl, hb18⟩
  clear g0 g1 g2 g3
  clear s0 s1 s2 s3
  replace HB : Hid (Below w.heap.size w _) := HB.out.trans (hb18.mono HB.out.size)
  replace HP : Hid (Bk _ _ _) := Bk.below HP.out hb18
  replace SA : Hid (OI _ _ _ _ _) := OI.below SA.out hb18
  replace SV : Hid (Bk _ _ _) := Bk.below SV.out hb18
  replace GV : Hid (Bk _ _ _) := Bk.below GV.out hb18
  replace GM : Hid (OI _ _ _ _ _) := OI.below GM.out hb18
  replace YA : Hid (OI _ _ _ _ _) := OI.below YA.out hb18
  replace YV : Hid (Bk _ _ _) := Bk.below YV.out hb18
  clear hb18
  go_wp2_with fail
  refine Calls.mono (EY.out _ a17 a3 c17 c3 (OI.seg YA.out) (OI.seg SA.out)) ?_
  rintro u w19 ⟨rfl, hb19⟩
  replace HB : Hid (Below w.heap.size w _) := HB.out.trans (hb19.mono HB.out.size)
  replace HP : Hid (Bk _ _ _) := Bk.below HP.out hb19
  replace SA : Hid (OI _ _ _ _ _) := OI.below SA.out hb19
  replace SV : Hid (Bk _ _ _) := Bk.below SV.out hb19
  replace GV : Hid (Bk _ _ _) := Bk.below GV.out hb19
  replace GM : Hid (OI _ _ _ _ _) := OI.below GM.out hb19
  replace YA : Hid (OI _ _ _ _ _) := OI.below YA.out hb19
  replace YV : Hid (Bk _ _ _) := Bk.below YV.out hb19
  clear hb19
  go_wp2_with fail
  refine Calls.mono (held_ints a6 c6 y 1 _ (OI.seg GM.out) (by omega) (by omega)) ?_
  rintro u wh ⟨rfl, hh0⟩
  rw [hh0, HK2.out]
  clear hh0 wh
  go_wp2
  go_ret
  exact ⟨rfl, HB.out⟩

/-! ### The row -/
set_option maxRecDepth 100000 in
theorem lifted (os : Os) (started : os.Started) (H : Type) (enc : TypeId × Value → H) :
    ReturnsInHanded {} Try.checked os 7 .any (Rows.fnExactHealthRunSpec.pre6 enc Try.prog Try.f7 Rows.fnExactHealthRunRow.domain false) (Rows.fnExactHealthRunSpec.post enc Try.prog Try.f7 false true false false) := by
  refine returnsInHanded_of_change (C := Try.checked) own started (by kernel_rfl) Try.func7
    (ChangeSpec.witness6 (enc := enc) (C := Try.checked) false ⟨#[], #[pol 0 0, .slice none 0 0], []⟩ 8 (by kernel_rfl) (by kernel_rfl) (by kernel_rfl) (by kernel_rfl)) ?_
  intro W base args ds gs before hval0 hW hcnd _
  have hval : ∀ (j : Nat) t v, Try.f7.params[j]? = some t → args[j]? = some v → Value.okWide Try.prog W .any base t v := hval0
  have hW' := hW
  obtain ⟨p, q, hA0, hV, rfl, hfz, hnd⟩ := hW
  have hA : DataW.TrodAll enc Try.prog W 0 (fun _ => true) true Try.f7.params.toList args.toList ds p := hA0
  rw [Try.params7] at hA hval
  obtain ⟨v0, vs0, d0, ds0, p0, q0, hargs, rfl, rfl, h0, r0⟩ := trodAll_cons hA
  obtain ⟨v1, vs1, d1, ds1, p1, q1, rfl, rfl, rfl, h1, r1⟩ := trodAll_cons r0
  obtain ⟨rfl, rfl, rfl⟩ := trodAll_nil r1
  obtain rfl : args = #[v0, v1] := by cases args; simp_all
  obtain ⟨rfl, rfl⟩ := trodVars_none hV
  obtain ⟨pk, pm, rfl, rfl, rfl, w0⟩ := pol_open (hval 0 23 v0 rfl rfl) h0
  have k1 := h1
  have lt1 : ∀ x ∈ p1, x.block < W.heap.size := by obtain ⟨m, hm⟩ := k1; exact DataW.trod_lt m _ _ _ hm
  obtain ⟨a, zs, c, rfl, hs1, hn1⟩ := ints_arg (hval 1 39 v1 rfl rfl) h1
  clear hA0 hval0
  simp only [List.append_nil] at hW'
  refine (walk pk pm a c zs.length zs w0 W hs1 rfl hn1).mono fun e W' ⟨he, bel⟩ => ?_
  subst he
  exact ⟨_, rfl, _, _, _, [], _, [], hW', (trodAll_cons_mk (shut_bool Try.underlying4 _) trodAll_mk0), (trodAll_cons_mk (pol_reads w0) (trodAll_cons_mk (Below.trod laidOut (by kernel_rfl) (of_decide_eq_true (by kernel_rfl)) k1 bel lt1) trodAll_mk0)), rfl, bel.frame _, fun h => by cases h⟩

theorem over : Rows.fnExactHealthRunRow.holds Try.pinned (OpenSpec.ofChange Rows.fnExactHealthRunSpec) :=
  OpenClaim.holds_of_wide 7 Try.f7 rfl rfl rfl rfl rfl rfl rfl ⟨rfl, rfl, rfl, rfl, rfl⟩ rfl rfl rfl rfl rfl (by kernel_rfl) Try.func7 (by kernel_rfl)
    (of_decide_eq_true (by kernel_rfl)) (by unfold Func.isWrapper; first | (rw [if_pos (by decide +kernel)]; kernel_rfl) | (rw [if_neg (by decide +kernel)]; exact ⟨rfl, rfl⟩))
    (fun os started H enc _ => lifted os started H enc)

end Go.Proofs.Ytnjjjcmomjcmfaa.fnExactHealthRun
namespace Go.Proofs.Ytnjjjcmomjcmfaa
theorem FnExactHealthRun_holds : Rows.FnExactHealthRunSaid := fnExactHealthRun.over
end Go.Proofs.Ytnjjjcmomjcmfaa
