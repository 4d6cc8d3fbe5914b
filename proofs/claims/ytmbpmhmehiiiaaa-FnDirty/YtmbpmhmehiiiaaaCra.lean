
/-
  Many uses of a cache, one after another: both sides alike. Conditions: the uses read as such, at most 1048576 of them.
-/
import Derived.Test.YtmbpmhmehiiiaaaRows
import Derived.Test.YtmbpmhmehiiiaaaCrj
namespace Go.Proofs.Ytmbpmhmehiiiaaa
open Go.ChangeShapes Go.WideShapes Go.ChangeAt Go.RowKit Go.Deep
set_option linter.unusedVariables false

set_option maxHeartbeats 1000000 in
theorem spec_cr_no (s y l : Int) (a : Option Addr) (cap N : Nat) (w : World) (hq : ¬ (shapeOk s y l = true ∧ N ≤ 2000)) (hN : N ≤ 1048576) :
    Calls Try.prog 7 #[shp s y l, .slice a N cap] w (APost w []) := by
  obtain ⟨qs, HQS⟩ : ∃ qs, Hid (shapeOk s y l = qs) := ⟨_, rfl⟩
  have HQ : Hid (qs = true → ¬ N ≤ 2000) := fun h c => hq ⟨HQS.out.trans h, c⟩
  clear hq
  have hb0 : Below w.heap.size w ((w.alloc (shrow 25 s y l)).alloc (.cells #[] 57)) := ((Below.refl _ _).alloc (Nat.le_refl _) _).alloc (by simp) _
  have HE0 : Hid (OwnA ((w.alloc (shrow 25 s y l)).alloc (.cells #[] 57)) w.heap.size (.slice (some ⟨w.heap.size + 1, 0, none⟩) 0 0) []) := OwnA.low (OwnA.new _ (w.heap.size + 1) (by simp)) (by omega)
  have HB0 : Hid _ := hb0
  clear hb0
  go_enter Try.func7, Try.ntmps7
  go_wp2_with fail
  refine Calls.mono (spec_shok s y l _) ?_
  rintro u w1 ⟨rfl, hb1⟩
  rw [HQS.out]
  have HZ : Hid (Below w.heap.size w w1 ∧ OwnA w1 w.heap.size (.slice (some ⟨w.heap.size + 1, 0, none⟩) 0 0) []) := ⟨HB0.out.trans (hb1.mono HB0.out.size), HE0.out.below hb1⟩
  clear hb1
  cases qs
  · go_wp2
    go_ret
    exact ⟨_, rfl, HZ.out.1, HZ.out.2⟩
  have hgt : (2000 : Int) < (N : Int) := by have := HQ.out (by first | rfl | trivial); omega
  go_wp2
  go_ret
  exact ⟨_, rfl, HZ.out.1, HZ.out.2⟩
set_option maxHeartbeats 1000000 in
theorem spec_cr_bad (n M L : Nat) (a : Option Addr) (cap N : Nat) (us : List Wy) (w : World) (hs : WSeg w a us) (hl : us.length = N) (hsh : shapeOk (n : Int) (M : Int) (L : Int) = true) (hn2 : N ≤ 2000) (hp : ¬ ∀ i, i < N → inr (us.getD i wd).1 0 65535 = true) :
    Calls Try.prog 7 #[shp n M L, .slice a N cap] w (APost w []) := by
  have hb0 : Below w.heap.size w ((w.alloc (shrow 25 n M L)).alloc (.cells #[] 57)) := ((Below.refl _ _).alloc (Nat.le_refl _) _).alloc (by simp) _
  have HS : Hid (WSeg w a us) := hs
  have HL : Hid _ := hl
  have HP : Hid (¬ ∀ i, i < N → inr (us.getD i wd).1 0 65535 = true) := hp
  have HSH : Hid _ := hsh
  have HE0 : Hid (OwnA ((w.alloc (shrow 25 n M L)).alloc (.cells #[] 57)) w.heap.size (.slice (some ⟨w.heap.size + 1, 0, none⟩) 0 0) []) := OwnA.low (OwnA.new _ (w.heap.size + 1) (by simp)) (by omega)
  have HB0 : Hid _ := hb0
  clear hs hl hb0 hp hsh
  have hngt : ¬ ((2000 : Int) < (N : Int)) := by omega
  go_enter Try.func7, Try.ntmps7
  go_wp2_with fail
  refine Calls.mono (spec_shok (n : Int) (M : Int) (L : Int) _) ?_
  rintro u w0 ⟨rfl, hb1⟩
  rw [HSH.out]
  have HE1 : Hid (OwnA w0 w.heap.size (.slice (some ⟨w.heap.size + 1, 0, none⟩) 0 0) []) := HE0.out.below hb1
  have HB1 : Hid _ := HB0.out.trans (hb1.mono HB0.out.size)
  clear hb1 HE0 HB0
  go_wp2
  go_loopw [6] (fun i wr => ∃ k : Nat, k ≤ N ∧ i = .int .i64 k ∧ wr = w0 ∧ Hid (∀ i, i < k → inr (us.getD i wd).1 0 65535 = true)) (fun i _ => N - (intOf i).toNat)
  case atStart => exact ⟨0, by omega, rfl, rfl, fun i hi => absurd hi (by omega)⟩
  case round =>
    obtain ⟨k, hk, rfl, rfl, HJ⟩ := hrel
    by_cases hlt : k < N
    · have hlt' : (k : Int) < (N : Int) := by omega
      obtain ⟨b1, o1, rfl, hbl1, e1, _⟩ := WSeg.at (w := w) HS.out k (by rw [HL.out]; exact hlt)
      replace e1 := kept_cell' HB1.out hbl1 e1
      obtain ⟨za, HZA⟩ : ∃ za, Hid (inr (us.getD k wd).1 0 65535 = za) := ⟨_, rfl⟩
      have HST : Hid (inr (us.getD k wd).1 0 65535 = true → ∀ i, i < k + 1 → inr (us.getD i wd).1 0 65535 = true) := fun h i hi => by
        by_cases e : i = k
        · subst e; exact h
        · exact HJ.out i (by omega)
      generalize us.getD k wd = x at e1 HZA HST
      obtain ⟨z, dd⟩ := x
      simp only at e1 HZA HST
      clear hbl1 HJ
      go_wp2_with fail
      refine (in_any z 0 65535 _).mono ?_
      rintro u w4 ⟨rfl, rfl⟩
      rw [HZA.out]
      cases za
      · go_wp2
        go_ret
        exact ⟨_, rfl, HB1.out, HE1.out⟩
      · have HST2 : Hid _ := HST.out HZA.out
        go_wp2
        go_roundw
        case rel => exact ⟨k + 1, by omega, by go_num, trivial, HST2⟩
        case measure => simp [intOf]; omega
    · obtain rfl : k = N := by omega
      exact absurd HJ.out HP.out
end Go.Proofs.Ytmbpmhmehiiiaaa
