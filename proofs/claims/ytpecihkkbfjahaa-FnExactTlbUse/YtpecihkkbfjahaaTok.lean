/-
  Whether a table of pages is right: the specification's and the program's own functions answer alike. Conditions: the pages read as integers, at most 1048576 of them.
-/
import Derived.Test.YtpecihkkbfjahaaRows
import Derived.Test.YtpecihkkbfjahaaTin
import Derived.Deep.QuietTactic
import Derived.BigQuiet
namespace Go.Proofs.Ytpecihkkbfjahaa
open Go.ChangeShapes Go.WideShapes Go.ChangeAt Go.RowKit Go.Deep
set_option linter.unusedVariables false

def inr (x lo hi : Int) : Bool := decide (lo ≤ x) && decide (x ≤ hi)
theorem inr_yes {x lo hi : Int} (h : lo ≤ x ∧ x ≤ hi) : inr x lo hi = true := by simp [inr, h.1, h.2]
theorem inr_no {x lo hi : Int} (h : ¬ (lo ≤ x ∧ x ≤ hi)) : inr x lo hi = false := by
  unfold inr; rw [← Bool.decide_and]; exact decide_eq_false h
theorem of_inr {x lo hi : Int} (h : inr x lo hi = true) : lo ≤ x ∧ x ≤ hi := by
  unfold inr at h; rw [← Bool.decide_and] at h; exact of_decide_eq_true h
theorem in_any (x a b : Int) (w : World) : Calls Try.prog 30 #[.int .i64 x, .int .i64 a, .int .i64 b] w fun e w' => e = .returned (.bool (inr x a b)) ∧ w' = w := by
  by_cases h1 : a ≤ x
  · by_cases h2 : x ≤ b
    · rw [inr_yes ⟨h1, h2⟩]
      go_enter Try.func30, Try.ntmps30
      go_wp2
      go_ret
      exact ⟨rfl, rfl⟩
    · rw [inr_no (fun g => h2 g.2)]
      go_enter Try.func30, Try.ntmps30
      go_wp2
      go_ret
      exact ⟨rfl, rfl⟩
  · rw [inr_no (fun g => h1 g.1)]
    go_enter Try.func30, Try.ntmps30
    go_wp2
    go_ret
    exact ⟨rfl, rfl⟩
theorem told (P : Prop) : ∃ q : Bool, q = true ↔ P := by
  by_cases h : P
  · exact ⟨true, by simp [h]⟩
  · exact ⟨false, by simp [h]⟩
theorem told_no {P : Prop} {q : Bool} (hq : q = true ↔ P) (h : ¬ P) : false = q := by
  cases q
  · rfl
  · exact absurd (hq.1 rfl) h
theorem told_yes {P : Prop} {q : Bool} (hq : q = true ↔ P) (h : P) : true = q := (hq.2 h).symm
theorem size_any (x : Int) (w : World) : Calls Try.prog 31 #[.int .i64 x] w fun e w' => e = .returned (.bool (inr x 1 8)) ∧ w' = w := by
  by_cases h1 : 1 ≤ x
  · by_cases h2 : x ≤ 8
    · rw [inr_yes ⟨h1, h2⟩]
      go_enter Try.func31, Try.ntmps31
      go_wp2
      go_ret
      exact ⟨rfl, rfl⟩
    · rw [inr_no (fun g => h2 g.2)]
      go_enter Try.func31, Try.ntmps31
      go_wp2
      go_ret
      exact ⟨rfl, rfl⟩
  · rw [inr_no (fun g => h1 g.1)]
    go_enter Try.func31, Try.ntmps31
    go_wp2
    go_ret
    exact ⟨rfl, rfl⟩
def pgGood (zs : List Int) (i : Nat) : Prop := (0 ≤ zs.getD i 0 ∧ zs.getD i 0 ≤ 1023) ∧ ∀ k, k < i → zs.getD k 0 ≠ zs.getD i 0
def TlbOkP (s : Int) (zs : List Int) : Prop := inr s 1 8 = true ∧ (zs.length : Int) ≤ s ∧ ∀ i, i < zs.length → pgGood zs i
set_option maxHeartbeats 2000000 in
theorem spec_tok (s : Int) (a : Option Addr) (cap n : Nat) (zs : List Int) (w : World) (hs : Seg .i64 w a zs) (hl : zs.length = n) (hn : n ≤ 1048576) (q : Bool) (hq : q = true ↔ TlbOkP s zs) :
    Calls Try.prog 9 #[tlb s (.slice a n cap)] w fun e w' => e = .returned (.bool q) ∧ Below w.heap.size w w' := by
  have HQ : Hid _ := hq
  have HL : Hid _ := hl
  have hb0 : Below w.heap.size w (w.alloc (.cells #[.int .i64 s, .slice a n cap] 27)) := (Below.refl _ w).alloc (Nat.le_refl _) _
  have HS : Hid (Seg .i64 _ a zs) := hs.below hb0
  have B0 := Bk.new w #[.int .i64 s, .slice a n cap] 27 w.heap.size rfl
  have HK : Hid _ := And.intro (B0.cell 0 _ rfl) (B0.cell 1 _ rfl)
  have HB : Hid _ := hb0
  clear hs hl hq hb0 B0
  obtain ⟨sz, HSZ⟩ : ∃ sz, Hid (inr s 1 8 = sz) := ⟨_, rfl⟩
  go_enter Try.func9, Try.ntmps9
  go_wp2_with fail
  refine (in_any s 1 8 _).mono ?_
  rintro u w1 ⟨rfl, rfl⟩
  rw [HSZ.out]
  cases sz
  · have HF : Hid (false = q) := told_no HQ.out (fun h => by have h1 := h.1; rw [HSZ.out] at h1; cases h1)
    go_wp2
    go_ret
    exact ⟨ret_bool HF.out, HB.out⟩
  by_cases hns : (n : Int) ≤ s
  rotate_left
  · have HF : Hid (false = q) := told_no HQ.out (fun h => hns (by have h1 := h.2.1; rw [HL.out] at h1; exact h1))
    have hns' : s < (n : Int) := by omega
    go_wp2
    go_ret
    exact ⟨ret_bool HF.out, HB.out⟩
  have hns' : ¬ (s < (n : Int)) := by omega
  have HN : Hid (TlbOkP s zs ↔ ∀ i, i < n → pgGood zs i) := ⟨fun h => by have h1 := h.2.2; rw [HL.out] at h1; exact h1, fun h => ⟨HSZ.out, by rw [HL.out]; exact hns, by rw [HL.out]; exact h⟩⟩
  go_wp2
  generalize w.alloc (.cells #[.int .i64 s, .slice a n cap] 27) = w1 at HS HK HB
  go_loopw [3] (fun i wr => ∃ r : Nat, r ≤ n ∧ i = .int .i64 r ∧ Hid (Below w1.heap.size w1 wr) ∧ Hid (∀ j, j < r → pgGood zs j)) (fun i _ => n - (intOf i).toNat)
  case atStart => exact ⟨0, by omega, rfl, Below.refl _ _, fun j hj => absurd hj (by omega)⟩
  case round =>
    obtain ⟨r, hr, rfl, HW, HJ⟩ := hrel
    have k1 := kept_cell HW.out HK.out.2
    by_cases hlt : r < n
    rotate_left
    · obtain rfl : r = n := by omega
      go_wp2
      go_ret
      exact ⟨ret_bool (told_yes HQ.out (HN.out.2 HJ.out)), HB.out.trans (HW.out.mono HB.out.size)⟩
    have hlt' : (r : Int) < (n : Int) := by omega
    obtain ⟨b1, o1, rfl, hbl1, e1⟩ := Seg.at (w := w1) HS.out r (by rw [HL.out]; exact hlt)
    have HE1 : Hid _ := e1
    replace e1 := kept_cell HW.out e1
    have HF : Hid (¬ pgGood zs r → false = q) := fun h => told_no HQ.out (fun g => h (HN.out.1 g r hlt))
    have HT : Hid (pgGood zs r → ∀ j, j < r + 1 → pgGood zs j) := fun g j hj => by
      by_cases e : j = r
      · subst e; exact g
      · exact HJ.out j (by omega)
    have HRG : Hid (pgGood zs r ↔ (0 ≤ zs.getD r 0 ∧ zs.getD r 0 ≤ 1023) ∧ ∀ k, k < r → zs.getD k 0 ≠ zs.getD r 0) := Iff.rfl
    generalize pgGood zs r = G at HF HT HRG
    generalize zs.getD r 0 = z at e1 HRG HE1
    obtain ⟨zr, HZR⟩ : ∃ zr, Hid (inr z 0 1023 = zr) := ⟨_, rfl⟩
    clear hbl1 HJ
    go_wp2_with fail
    refine (in_any z 0 1023 _).mono ?_
    rintro u w2 ⟨rfl, rfl⟩
    rw [HZR.out]
    cases zr
    · have HF2 : Hid (false = q) := HF.out (fun g => by have := inr_yes (HRG.out.1 g).1; rw [HZR.out] at this; cases this)
      go_wp2
      go_ret
      exact ⟨ret_bool HF2.out, HB.out.trans (HW.out.mono HB.out.size)⟩
    have HIN : Hid _ := of_inr HZR.out
    go_wp2
    clear k1 e1
    go_loopw [4] (fun i wr' => ∃ k : Nat, k ≤ r ∧ i = .int .i64 k ∧ Hid (Below w1.heap.size w1 wr') ∧ Hid (∀ j, j < k → zs.getD j 0 ≠ z)) (fun i _ => r - (intOf i).toNat)
    case atStart => exact ⟨0, by omega, rfl, HW, fun j hj => absurd hj (by omega)⟩
    case round =>
      obtain ⟨k, hk, rfl, HW2, HG⟩ := hrel
      clear HW
      by_cases hkl : k < r
      rotate_left
      · obtain rfl : k = r := by omega
        have HT2 : Hid _ := HT.out (HRG.out.2 ⟨HIN.out, HG.out⟩)
        go_wp2
        go_roundw
        case rel => exact ⟨k + 1, by omega, by go_num, HW2, HT2⟩
        case measure => simp [intOf]; omega
      have hkl' : (k : Int) < (r : Int) := by omega
      obtain ⟨b2, o2, e0, hbl2, e2⟩ := Seg.at (w := w1) HS.out k (by rw [HL.out]; omega)
      cases e0
      replace e2 := kept_cell HW2.out e2
      have e1 := kept_cell HW2.out HE1.out
      have k1 := kept_cell HW2.out HK.out.2
      have HNE : Hid (zs.getD k 0 = z → ¬ G) := fun h g => (HRG.out.1 g).2 k hkl h
      have HG2 : Hid (zs.getD k 0 ≠ z → ∀ j, j < k + 1 → zs.getD j 0 ≠ z) := fun h j hj => by
        by_cases e : j = k
        · subst e; exact h
        · exact HG.out j (by omega)
      generalize zs.getD k 0 = y at e2 HNE HG2
      have hkn : k < n := by omega
      clear HG hbl2
      by_cases hyz : y = z
      · subst hyz
        have HF2 : Hid (false = q) := HF.out (HNE.out rfl)
        go_wp2
        go_quiet (fail)
        go_wp2
        go_ret
        exact ⟨ret_bool HF2.out, HB.out.trans ((below_drewN HW2.out _).mono HB.out.size)⟩
      · have hyz' : (y == z) = false := by simpa using hyz
        have HG3 : Hid _ := HG2.out hyz
        clear hyz
        go_wp2
        go_quiet (fail)
        go_wp2
        go_roundw
        case rel => exact ⟨k + 1, by omega, by go_num, below_drewN HW2.out _, HG3⟩
        case measure => simp [intOf]; omega
end Go.Proofs.Ytpecihkkbfjahaa
