
/-
  A table of pages, right or not: both sides. Conditions: its pages lie in memory and are at most 1048576.
-/
import Derived.Test.YtknipnenipdgiaaGreatDoorBas
import Derived.Test.YtknipnenipdgiaaGreatDoorProg
import Derived.Test.YtknipnenipdgiaaGreatDoorVha
import Derived.WalkKit
import Derived.Deep.QuietTactic
import Derived.Deep.RegionWith
import Derived.BigQuiet
import Derived.Handy
import Derived.Deep.RegionHeld3
import Derived.Deep.RegionHeldLaw
import Derived.Lib.SmallJoins
import Derived.Below
import Derived.ProofKit
import Derived.OpenShut

namespace Go.Proofs.YtknipnenipdgiaaGreatDoor
open Go.ChangeShapes Go.WideShapes Go.ChangeAt Go.RowKit Go.Deep Go.Joins
set_option linter.unusedVariables false
namespace Tq
abbrev tlb (s : Int) (v : Value) : Value := .agg #[.int .i64 s, v]
theorem told_no {P : Prop} {q : Bool} (hq : q = true ↔ P) (h : ¬ P) : false = q := by
  cases q
  · rfl
  · exact absurd (hq.1 rfl) h
theorem told_yes {P : Prop} {q : Bool} (hq : q = true ↔ P) (h : P) : true = q := (hq.2 h).symm
theorem size_any (x : Int) (w : World) : Calls Tryz.prog 209 #[.int .i64 x] w fun e w' => e = .returned (.bool (inr x 1 8)) ∧ w' = w := by
  by_cases h1 : 1 ≤ x
  · by_cases h2 : x ≤ 8
    · rw [inr_yes ⟨h1, h2⟩]
      go_enter Tryz.func209, Tryz.ntmps209
      go_wp2
      go_ret
      exact ⟨rfl, rfl⟩
    · rw [inr_no (fun g => h2 g.2)]
      go_enter Tryz.func209, Tryz.ntmps209
      go_wp2
      go_ret
      exact ⟨rfl, rfl⟩
  · rw [inr_no (fun g => h1 g.1)]
    go_enter Tryz.func209, Tryz.ntmps209
    go_wp2
    go_ret
    exact ⟨rfl, rfl⟩
def pgGood (zs : List Int) (i : Nat) : Prop := (0 ≤ zs.getD i 0 ∧ zs.getD i 0 ≤ 1023) ∧ ∀ k, k < i → zs.getD k 0 ≠ zs.getD i 0
def TlbOkP (s : Int) (zs : List Int) : Prop := inr s 1 8 = true ∧ (zs.length : Int) ≤ s ∧ ∀ i, i < zs.length → pgGood zs i
set_option maxHeartbeats 2000000 in
theorem spec_tok (s : Int) (a : Option Addr) (cap n : Nat) (zs : List Int) (w : World) (hs : Seg .i64 w a zs) (hl : zs.length = n) (hn : n ≤ 1048576) (q : Bool) (hq : q = true ↔ TlbOkP s zs) :
    Calls Tryz.prog 45 #[tlb s (.slice a n cap)] w fun e w' => e = .returned (.bool q) ∧ Below w.heap.size w w' := by
  have HQ : Hid _ := hq
  have HL : Hid _ := hl
  have hb0 : Below w.heap.size w (w.alloc (.cells #[.int .i64 s, .slice a n cap] 68)) := (Below.refl _ w).alloc (Nat.le_refl _) _
  have HS : Hid (Seg .i64 _ a zs) := hs.below hb0
  have B0 := Bk.new w #[.int .i64 s, .slice a n cap] 68 w.heap.size rfl
  have HK : Hid _ := And.intro (B0.cell 0 _ rfl) (B0.cell 1 _ rfl)
  have HB : Hid _ := hb0
  clear hs hl hq hb0 B0
  obtain ⟨sz, HSZ⟩ : ∃ sz, Hid (inr s 1 8 = sz) := ⟨_, rfl⟩
  go_enter Tryz.func45, Tryz.ntmps45
  go_wp2_with fail
  refine (in_any s 1 8 _).mono ?_
  rintro u w1 ⟨rfl, rfl⟩
  rw [HSZ.out]
  cases sz
  · have HF : Hid (false = q) := told_no HQ.out (fun h => by have h1 := h.1; rw [HSZ.out] at h1; cases h1)
    go_wp2
    go_ret
    exact ⟨ret_bool HF.out, HB.out⟩
  by_cases hns : (n : Int) ≤ s
  rotate_left
  · have HF : Hid (false = q) := told_no HQ.out (fun h => hns (by have h1 := h.2.1; rw [HL.out] at h1; exact h1))
    have hns' : s < (n : Int) := by omega
    go_wp2
    go_ret
    exact ⟨ret_bool HF.out, HB.out⟩
  have hns' : ¬ (s < (n : Int)) := by omega
  have HN : Hid (TlbOkP s zs ↔ ∀ i, i < n → pgGood zs i) := ⟨fun h => by have h1 := h.2.2; rw [HL.out] at h1; exact h1, fun h => ⟨HSZ.out, by rw [HL.out]; exact hns, by rw [HL.out]; exact h⟩⟩
  go_wp2
  generalize w.alloc (.cells #[.int .i64 s, .slice a n cap] 68) = w1 at HS HK HB
  go_loopw [3] (fun i wr => ∃ r : Nat, r ≤ n ∧ i = .int .i64 r ∧ Hid (Below w1.heap.size w1 wr) ∧ Hid (∀ j, j < r → pgGood zs j)) (fun i _ => n - (intOf i).toNat)
  case atStart => exact ⟨0, by omega, rfl, Below.refl _ _, fun j hj => absurd hj (by omega)⟩
  case round =>
    obtain ⟨r, hr, rfl, HW, HJ⟩ := hrel
    have k1 := kept_cell HW.out HK.out.2
    by_cases hlt : r < n
    rotate_left
    · obtain rfl : r = n := by omega
      go_wp2
      go_ret
      exact ⟨ret_bool (told_yes HQ.out (HN.out.2 HJ.out)), HB.out.trans (HW.out.mono HB.out.size)⟩
    have hlt' : (r : Int) < (n : Int) := by omega
    obtain ⟨b1, o1, rfl, hbl1, e1⟩ := Seg.at (w := w1) HS.out r (by rw [HL.out]; exact hlt)
    have HE1 : Hid _ := e1
    replace e1 := kept_cell HW.out e1
    have HF : Hid (¬ pgGood zs r → false = q) := fun h => told_no HQ.out (fun g => h (HN.out.1 g r hlt))
    have HT : Hid (pgGood zs r → ∀ j, j < r + 1 → pgGood zs j) := fun g j hj => by
      by_cases e : j = r
      · subst e; exact g
      · exact HJ.out j (by omega)
    have HRG : Hid (pgGood zs r ↔ (0 ≤ zs.getD r 0 ∧ zs.getD r 0 ≤ 1023) ∧ ∀ k, k < r → zs.getD k 0 ≠ zs.getD r 0) := Iff.rfl
    generalize pgGood zs r = G at HF HT HRG
    generalize zs.getD r 0 = z at e1 HRG HE1
    obtain ⟨zr, HZR⟩ : ∃ zr, Hid (inr z 0 1023 = zr) := ⟨_, rfl⟩
    clear hbl1 HJ
    go_wp2_with fail
    refine (in_any z 0 1023 _).mono ?_
    rintro u w2 ⟨rfl, rfl⟩
    rw [HZR.out]
    cases zr
    · have HF2 : Hid (false = q) := HF.out (fun g => by have := inr_yes (HRG.out.1 g).1; rw [HZR.out] at this; cases this)
      go_wp2
      go_ret
      exact ⟨ret_bool HF2.out, HB.out.trans (HW.out.mono HB.out.size)⟩
    have HIN : Hid _ := of_inr HZR.out
    go_wp2
    clear k1 e1
    go_loopw [4] (fun i wr' => ∃ k : Nat, k ≤ r ∧ i = .int .i64 k ∧ Hid (Below w1.heap.size w1 wr') ∧ Hid (∀ j, j < k → zs.getD j 0 ≠ z)) (fun i _ => r - (intOf i).toNat)
    case atStart => exact ⟨0, by omega, rfl, HW, fun j hj => absurd hj (by omega)⟩
    case round =>
      obtain ⟨k, hk, rfl, HW2, HG⟩ := hrel
      clear HW
      by_cases hkl : k < r
      rotate_left
      · obtain rfl : k = r := by omega
        have HT2 : Hid _ := HT.out (HRG.out.2 ⟨HIN.out, HG.out⟩)
        go_wp2
        go_roundw
        case rel => exact ⟨k + 1, by omega, by go_num, HW2, HT2⟩
        case measure => simp [intOf]; omega
      have hkl' : (k : Int) < (r : Int) := by omega
      obtain ⟨b2, o2, e0, hbl2, e2⟩ := Seg.at (w := w1) HS.out k (by rw [HL.out]; omega)
      cases e0
      replace e2 := kept_cell HW2.out e2
      have e1 := kept_cell HW2.out HE1.out
      have k1 := kept_cell HW2.out HK.out.2
      have HNE : Hid (zs.getD k 0 = z → ¬ G) := fun h g => (HRG.out.1 g).2 k hkl h
      have HG2 : Hid (zs.getD k 0 ≠ z → ∀ j, j < k + 1 → zs.getD j 0 ≠ z) := fun h j hj => by
        by_cases e : j = k
        · subst e; exact h
        · exact HG.out j (by omega)
      generalize zs.getD k 0 = y at e2 HNE HG2
      have hkn : k < n := by omega
      clear HG hbl2
      by_cases hyz : y = z
      · subst hyz
        have HF2 : Hid (false = q) := HF.out (HNE.out rfl)
        go_wp2
        go_quiet (fail)
        go_wp2
        go_ret
        exact ⟨ret_bool HF2.out, HB.out.trans ((below_drewN HW2.out _).mono HB.out.size)⟩
      · have hyz' : (y == z) = false := by simpa using hyz
        have HG3 : Hid _ := HG2.out hyz
        clear hyz
        go_wp2
        go_quiet (fail)
        go_wp2
        go_roundw
        case rel => exact ⟨k + 1, by omega, by go_num, below_drewN HW2.out _, HG3⟩
        case measure => simp [intOf]; omega
set_option maxHeartbeats 400000 in
theorem index_any (x : Int) (a : Option Addr) (cap n : Nat) (zs : List Int) (w : World) (hs : Seg .i64 w a zs) (hl : n ≤ zs.length) (hn : n ≤ 1048576) (q : Bool) (hq : q = true ↔ ∃ j, j < n ∧ zs.getD j 0 = x) :
    Calls Tryz.prog 251 #[.slice a n cap, .int .i64 x] w fun e w' => (∃ r : Int, e = .returned (.int .i64 r) ∧ decide (0 ≤ r) = q) ∧ w' = w := by
  have HQ : Hid _ := hq
  have HL : Hid _ := hl
  have HS : Hid (Seg .i64 w a zs) := hs
  clear hs hl hq
  go_enter Tryz.func251, Tryz.ntmps251
  go_wp2
  go_loopw [8] (fun i wr => ∃ k : Nat, k ≤ n ∧ i = .int .i64 k ∧ wr = w ∧ Hid (∀ j, j < k → zs.getD j 0 ≠ x)) (fun i _ => n - (intOf i).toNat)
  case atStart => exact ⟨0, by omega, rfl, rfl, fun j hj => absurd hj (by omega)⟩
  case round =>
    obtain ⟨k, hk, rfl, rfl, HG⟩ := hrel
    by_cases hkl : k < n
    rotate_left
    · obtain rfl : k = n := by omega
      have HF : Hid (false = q) := told_no HQ.out (fun ⟨j, hj, e⟩ => HG.out j hj e)
      go_wp2
      go_ret
      exact ⟨⟨_, rfl, by rw [← HF.out]; decide⟩, rfl⟩
    have hkl' : (k : Int) < (n : Int) := by omega
    obtain ⟨b2, o2, rfl, hbl2, e2⟩ := Seg.at (w := wr) HS.out k (Nat.lt_of_lt_of_le hkl HL.out)
    have HY : Hid (zs.getD k 0 = x → true = q) := fun h => told_yes HQ.out ⟨k, hkl, h⟩
    have HG2 : Hid (zs.getD k 0 ≠ x → ∀ j, j < k + 1 → zs.getD j 0 ≠ x) := fun h j hj => by
      by_cases e : j = k
      · subst e; exact h
      · exact HG.out j (by omega)
    generalize zs.getD k 0 = y at e2 HY HG2
    clear HG hbl2
    by_cases hyz : x = y
    · subst hyz
      have HF2 : Hid (true = q) := HY.out rfl
      go_wp2
      go_ret
      exact ⟨⟨_, rfl, by rw [← HF2.out]; exact decide_eq_true (by omega)⟩, rfl⟩
    · have hyz' : (x == y) = false := by simpa using hyz
      have HG3 : Hid _ := HG2.out (fun e => hyz e.symm)
      clear hyz
      go_wp2
      go_roundw
      case rel => exact ⟨k + 1, by omega, by go_num, trivial, HG3⟩
      case measure => simp [intOf]; omega
theorem has_any (x : Int) (a : Option Addr) (cap n : Nat) (zs : List Int) (w : World) (hs : Seg .i64 w a zs) (hl : n ≤ zs.length) (hn : n ≤ 1048576) (q : Bool) (hq : q = true ↔ ∃ j, j < n ∧ zs.getD j 0 = x) :
    Calls Tryz.prog 210 #[.slice a n cap, .int .i64 x] w fun e w' => e = .returned (.bool q) ∧ w' = w := by
  have HC : Hid _ := index_any x a cap n zs w hs hl hn q hq
  clear hs hl hq
  go_enter Tryz.func210, Tryz.ntmps210
  go_wp2_with fail
  refine Calls.mono HC.out ?_
  rintro u w2 ⟨⟨r, rfl, hr⟩, rfl⟩
  have HR : Hid _ := hr
  clear hr
  go_wp2
  go_ret
  exact ⟨ret_bool HR.out, rfl⟩
set_option maxHeartbeats 2000000 in
theorem impl_tok (s : Int) (a : Option Addr) (cap n : Nat) (zs : List Int) (w : World) (hs : Seg .i64 w a zs) (hl : zs.length = n) (hn : n ≤ 1048576) (hc : n ≤ cap) (q : Bool) (hq : q = true ↔ TlbOkP s zs) :
    Calls Tryz.prog 142 #[tlb s (.slice a n cap)] w fun e w' => e = .returned (.bool q) ∧ Below w.heap.size w w' := by
  have HQ : Hid _ := hq
  have HL : Hid _ := hl
  have hb0 : Below w.heap.size w (w.alloc (.cells #[.int .i64 s, .slice a n cap] 68)) := (Below.refl _ w).alloc (Nat.le_refl _) _
  have HS : Hid (Seg .i64 _ a zs) := hs.below hb0
  have B0 := Bk.new w #[.int .i64 s, .slice a n cap] 68 w.heap.size rfl
  have HK : Hid _ := And.intro (B0.cell 0 _ rfl) (B0.cell 1 _ rfl)
  have HB : Hid _ := hb0
  clear hs hl hq hb0 B0
  obtain ⟨sz, HSZ⟩ : ∃ sz, Hid (inr s 1 8 = sz) := ⟨_, rfl⟩
  go_enter Tryz.func142, Tryz.ntmps142
  go_wp2_with fail
  refine (size_any s _).mono ?_
  rintro u w1 ⟨rfl, rfl⟩
  rw [HSZ.out]
  cases sz
  · have HF : Hid (false = q) := told_no HQ.out (fun h => by have h1 := h.1; rw [HSZ.out] at h1; cases h1)
    go_wp2
    go_ret
    exact ⟨ret_bool HF.out, HB.out⟩
  by_cases hns : (n : Int) ≤ s
  rotate_left
  · have HF : Hid (false = q) := told_no HQ.out (fun h => hns (by have h1 := h.2.1; rw [HL.out] at h1; exact h1))
    have hns' : s < (n : Int) := by omega
    go_wp2
    go_ret
    exact ⟨ret_bool HF.out, HB.out⟩
  have hns' : ¬ (s < (n : Int)) := by omega
  have HN : Hid (TlbOkP s zs ↔ ∀ i, i < n → pgGood zs i) := ⟨fun h => by have h1 := h.2.2; rw [HL.out] at h1; exact h1, fun h => ⟨HSZ.out, by rw [HL.out]; exact hns, by rw [HL.out]; exact h⟩⟩
  go_wp2
  generalize w.alloc (.cells #[.int .i64 s, .slice a n cap] 68) = w1 at HS HK HB
  go_loopw [20] (fun i wr => ∃ r : Nat, r ≤ n ∧ i = .int .i64 r ∧ wr = w1 ∧ Hid (∀ j, j < r → pgGood zs j)) (fun i _ => n - (intOf i).toNat)
  case atStart => exact ⟨0, by omega, rfl, rfl, fun j hj => absurd hj (by omega)⟩
  case round =>
    obtain ⟨r, hr, rfl, rfl, HJ⟩ := hrel
    have k1 := HK.out.2
    by_cases hlt : r < n
    rotate_left
    · obtain rfl : r = n := by omega
      go_wp2
      go_ret
      exact ⟨ret_bool (told_yes HQ.out (HN.out.2 HJ.out)), HB.out⟩
    have hlt' : (r : Int) < (n : Int) := by omega
    obtain ⟨b1, o1, rfl, hbl1, e1⟩ := Seg.at (w := wr) HS.out r (by rw [HL.out]; exact hlt)
    have HF : Hid (¬ pgGood zs r → false = q) := fun h => told_no HQ.out (fun g => h (HN.out.1 g r hlt))
    have HT : Hid (pgGood zs r → ∀ j, j < r + 1 → pgGood zs j) := fun g j hj => by
      by_cases e : j = r
      · subst e; exact g
      · exact HJ.out j (by omega)
    have HRG : Hid (pgGood zs r ↔ (0 ≤ zs.getD r 0 ∧ zs.getD r 0 ≤ 1023) ∧ ∀ k, k < r → zs.getD k 0 ≠ zs.getD r 0) := Iff.rfl
    generalize pgGood zs r = G at HF HT HRG
    generalize zs.getD r 0 = z at e1 HRG
    clear hbl1 HJ
    by_cases hz0 : z < 0
    · have HF2 : Hid (false = q) := HF.out (fun g => by have := (HRG.out.1 g).1; omega)
      go_wp2
      go_ret
      exact ⟨ret_bool HF2.out, HB.out⟩
    by_cases hz1 : 1023 < z
    · have HF2 : Hid (false = q) := HF.out (fun g => by have := (HRG.out.1 g).1; omega)
      go_wp2
      go_ret
      exact ⟨ret_bool HF2.out, HB.out⟩
    obtain ⟨qh, hqh⟩ := told (∃ j, j < r ∧ zs.getD j 0 = z)
    have HQH : Hid _ := hqh
    clear hqh
    go_wp2_with fail
    refine (has_any z _ cap r zs _ HS.out (by rw [HL.out]; omega) (by omega) qh HQH.out).mono ?_
    rintro u w2 ⟨rfl, rfl⟩
    cases qh
    · have HT2 : Hid _ := HT.out (HRG.out.2 ⟨by omega, fun k hk e => by have := HQH.out.2 ⟨k, hk, e⟩; cases this⟩)
      go_wp2
      go_roundw
      case rel => exact ⟨r + 1, by omega, by go_num, trivial, HT2⟩
      case measure => simp [intOf]; omega
    · have HF2 : Hid (false = q) := HF.out (fun g => by obtain ⟨j, hj, e⟩ := HQH.out.1 rfl; exact (HRG.out.1 g).2 j hj e)
      go_wp2
      go_ret
      exact ⟨ret_bool HF2.out, HB.out⟩
end Tq
end Go.Proofs.YtknipnenipdgiaaGreatDoor
