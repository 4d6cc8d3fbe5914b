
/-
  The place of the window that has an address, by the specification's own functions. Conditions: those that each fact names.
-/
import Derived.Test.YtanffdedignegaaBas
import Derived.Test.YtanffdedignegaaProg
import Derived.Test.YtanffdedignegaaWat
namespace Go.Proofs.Ytanffdedignegaa
open Go.ChangeShapes Go.WideShapes Go.ChangeAt Go.RowKit Go.Deep
set_option linter.unusedVariables false

set_option maxHeartbeats 2000000 in
theorem spec_l07at (a : Option Addr) (cap n : Nat) (xs : List Wn) (ad r : Int) (w : World) (hs : ASeg w a xs) (hl : xs.length = n) (ho : WsOk xs) (hr : AtP xs n ad r) :
    Calls Try.prog 34 #[.slice a n cap, .int .i64 ad] w fun e w' => e = .returned (.int .i64 r) ∧ Below w.heap.size w w' := by
  have HR : Hid _ := hr
  have HS : Hid (ASeg w a xs) := hs
  have HL : Hid _ := hl
  have HO : Hid _ := ho
  have h4 : n ≤ 4 := by rw [← hl]; exact ho.1
  clear hr hs hl ho
  go_enter Try.func34, Try.ntmps34
  go_wp2
  go_loopw [5] (fun i wr => ∃ m : Nat, m ≤ n ∧ i = .int .i64 m ∧ Hid (Below w.heap.size w wr ∧ ∀ i, i < m → ¬ Has (xs.getD i wn0) ad)) (fun i _ => n - (intOf i).toNat)
  case atStart => exact ⟨0, by omega, rfl, Below.refl _ _, fun i hi => absurd hi (by omega)⟩
  case round =>
    obtain ⟨m, hm, rfl, HJ⟩ := hrel
    by_cases hmn : m < n
    rotate_left
    · obtain rfl : m = n := by omega
      have HT : Hid (r = -1) := AtP.uniq HR.out (.inl ⟨rfl, HJ.out.2⟩)
      go_wp2
      go_ret
      exact ⟨ret_int HT.out.symm, HJ.out.1⟩
    have hmn' : (m : Int) < (n : Int) := by omega
    have hml : m < xs.length := by rw [HL.out]; exact hmn
    obtain ⟨b1, o1, rfl, hbl1, p1⟩ := ASeg.at HS.out m hml
    replace p1 := p1.of (w' := wr) (fun i => HJ.out.1.cell (p := ⟨b1, i, none⟩) hbl1)
    have hfit := (WsOk.at HO.out hml).fit
    obtain ⟨qh, hqh⟩ := told (Has (xs.getD m wn0) ad)
    have HQH : Hid _ := hqh
    have HH : Hid (∀ X, Calls Try.prog 54 #[win (xs.getD m wn0).1 (xs.getD m wn0).2.1 (xs.getD m wn0).2.2, .int .i64 ad] X fun e w' => e = .returned (.bool qh) ∧ Below X.heap.size X w') := fun X => spec_has _ _ _ ad qh X hfit hqh
    have HN : Hid (qh = false → ∀ i, i < m + 1 → ¬ Has (xs.getD i wn0) ad) := fun h i hi hh => by
      by_cases e : i = m
      · subst e
        rw [HQH.out.2 hh] at h
        cases h
      · exact HJ.out.2 i (by omega) hh
    have HY : Hid (qh = true → r = (m : Int)) := fun h => AtP.uniq HR.out (.inr ⟨m, hmn, rfl, HQH.out.1 h, HJ.out.2⟩)
    clear hqh hfit hbl1 hml HQH
    obtain ⟨c0, c1, c2⟩ := p1
    generalize xs.getD m wn0 = z at c0 c1 c2 HH
    obtain ⟨z1, z2, z3⟩ := z
    simp only at c0 c1 c2 HH
    go_wp2_with fail
    refine (HH.out _).mono ?_
    rintro u w2 ⟨rfl, hb2⟩
    have HB : Hid (Below w.heap.size w w2) := HJ.out.1.trans (hb2.mono HJ.out.1.size)
    clear hb2 c0 c1 c2
    cases qh
    · go_wp2
      go_roundw
      case rel => exact ⟨m + 1, by omega, by go_num, HB.out, HN.out (by trivial)⟩
      case measure => simp [intOf]; omega
    · have HT : Hid (r = (m : Int)) := HY.out (by trivial)
      go_wp2
      go_ret
      exact ⟨ret_int HT.out.symm, HB.out⟩
end Go.Proofs.Ytanffdedignegaa
