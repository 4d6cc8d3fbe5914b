
/-
  Whether a list of integers has a number: the specification's own loop and slices.Contains at integers. Conditions: the list lies in memory.
-/
import Derived.Test.YtgmhcngdgfhhaaaGreatDoorBas
import Derived.Test.YtgmhcngdgfhhaaaGreatDoorJop
import Derived.Test.YtgmhcngdgfhhaaaGreatDoorOni
import Derived.Test.YtgmhcngdgfhhaaaGreatDoorIln
namespace Go.Proofs.YtgmhcngdgfhhaaaGreatDoor
open Go.ChangeShapes Go.WideShapes Go.ChangeAt Go.RowKit Go.Deep Go.Joins
set_option linter.unusedVariables false

theorem mem_at {zs : List Int} {k : Nat} {x : Int} (hk : k < zs.length) (h : zs.getD k 0 = x) : x ∈ zs := by
  have : zs.getD k 0 = zs[k] := by simp [List.getD, hk]
  rw [← h, this]; exact List.getElem_mem hk
theorem not_mem_at {zs : List Int} {x : Int} (h : ∀ j, j < zs.length → zs.getD j 0 ≠ x) : x ∉ zs := fun hm => by
  obtain ⟨j, hj, e⟩ := List.getElem_of_mem hm
  exact h j hj (by simpa [List.getD, hj] using e)
set_option maxHeartbeats 2000000 in
theorem has_l (A : Option Addr) (cap : Nat) (zs : List Int) (x : Int) (q : Bool) (w : World) (hs : Seg .i64 w A zs) (hl : zs.length ≤ 1048576) (hq : decide (x ∈ zs) = q) :
    Calls Tryz.prog 53 #[.slice A zs.length cap, .int .i64 x] w fun e w' => e = .returned (.bool q) ∧ w' = w := by
  have HS : Hid (Seg .i64 w A zs) := hs
  have HQ : Hid (decide (x ∈ zs) = q) := hq
  clear hs hq
  obtain ⟨n, hn⟩ : ∃ n, n = zs.length := ⟨_, rfl⟩
  rw [← hn] at hl ⊢
  go_enter Tryz.func53, Tryz.ntmps53
  go_wp2
  go_loopw [5] (fun i wr => ∃ k : Nat, k ≤ n ∧ i = .int .i64 k ∧ wr = w ∧ Hid (∀ j, j < k → zs.getD j 0 ≠ x)) (fun i _ => n - (intOf i).toNat)
  case atStart => exact ⟨0, by omega, rfl, rfl, fun j hj => by omega⟩
  case round =>
    obtain ⟨k, hk, rfl, rfl, HR⟩ := hrel
    by_cases hkn : k < n
    rotate_left
    · obtain rfl : k = n := by omega
      have HF : Hid (q = false) := by show _ = _; rw [← HQ.out]; exact decide_eq_false (not_mem_at (by rw [← hn]; exact HR.out))
      go_wp2
      go_ret
      exact ⟨by rw [HF.out]; rfl, rfl⟩
    have hkn' : (k : Int) < (n : Int) := by omega
    obtain ⟨b, off, rfl, p⟩ := HS.out.at k (by omega)
    obtain ⟨y, HY⟩ : ∃ y, Hid (zs.getD k 0 = y) := ⟨_, rfl⟩
    rw [HY.out] at p
    by_cases hx : y = x
    · have HT : Hid (q = true) := by show _ = _; rw [← HQ.out]; exact decide_eq_true (mem_at (by omega) (HY.out.trans hx))
      subst hx
      go_wp2
      go_ret
      exact ⟨by rw [HT.out]; rfl, rfl⟩
    · have hb : (y == x) = false := by simpa using hx
      have HN : Hid (∀ j, j < k + 1 → zs.getD j 0 ≠ x) := fun j hj => by
        by_cases e : j = k
        · subst e; rw [HY.out]; exact hx
        · exact HR.out j (by omega)
      clear HR HY
      go_wp2
      go_roundw
      case rel => exact ⟨k + 1, by omega, by go_num, (by first | rfl | trivial), HN.out⟩
      case measure => simp [intOf]; omega
set_option maxHeartbeats 2000000 in
theorem idx_l (A : Option Addr) (cap : Nat) (zs : List Int) (x : Int) (w : World) (hs : Seg .i64 w A zs) (hl : zs.length ≤ 1048576) :
    Calls Tryz.prog 81 #[.slice A zs.length cap, .int .i64 x] w fun e w' => (∃ r : Int, e = .returned (.int .i64 r) ∧ ((0 ≤ r ∧ x ∈ zs) ∨ (r = -1 ∧ x ∉ zs))) ∧ w' = w := by
  have HS : Hid (Seg .i64 w A zs) := hs
  clear hs
  obtain ⟨n, hn⟩ : ∃ n, n = zs.length := ⟨_, rfl⟩
  rw [← hn] at hl ⊢
  go_enter Tryz.func81, Tryz.ntmps81
  go_wp2
  go_loopw [8] (fun i wr => ∃ k : Nat, k ≤ n ∧ i = .int .i64 k ∧ wr = w ∧ Hid (∀ j, j < k → zs.getD j 0 ≠ x)) (fun i _ => n - (intOf i).toNat)
  case atStart => exact ⟨0, by omega, rfl, rfl, fun j hj => by omega⟩
  case round =>
    obtain ⟨k, hk, rfl, rfl, HR⟩ := hrel
    by_cases hkn : k < n
    rotate_left
    · obtain rfl : k = n := by omega
      have HF : Hid (x ∉ zs) := not_mem_at (by rw [← hn]; exact HR.out)
      go_wp2
      go_ret
      exact ⟨⟨_, rfl, .inr ⟨rfl, HF.out⟩⟩, rfl⟩
    have hkn' : (k : Int) < (n : Int) := by omega
    obtain ⟨b, off, rfl, p⟩ := HS.out.at k (by omega)
    obtain ⟨y, HY⟩ : ∃ y, Hid (zs.getD k 0 = y) := ⟨_, rfl⟩
    rw [HY.out] at p
    by_cases hx : x = y
    · have HT : Hid (x ∈ zs) := mem_at (by omega) (HY.out.trans hx.symm)
      subst hx
      go_wp2
      go_ret
      exact ⟨⟨_, rfl, .inl ⟨by omega, HT.out⟩⟩, rfl⟩
    · have hb : (x == y) = false := by simpa using hx
      have HN : Hid (∀ j, j < k + 1 → zs.getD j 0 ≠ x) := fun j hj => by
        by_cases e : j = k
        · subst e; rw [HY.out]; exact fun h => hx h.symm
        · exact HR.out j (by omega)
      clear HR HY
      go_wp2
      go_roundw
      case rel => exact ⟨k + 1, by omega, by go_num, (by first | rfl | trivial), HN.out⟩
      case measure => simp [intOf]; omega
theorem con_l (A : Option Addr) (cap : Nat) (zs : List Int) (x : Int) (q : Bool) (w : World) (hs : Seg .i64 w A zs) (hl : zs.length ≤ 1048576) (hq : decide (x ∈ zs) = q) :
    Calls Tryz.prog 61 #[.slice A zs.length cap, .int .i64 x] w fun e w' => e = .returned (.bool q) ∧ w' = w := by
  have HC : Hid _ := fun X (hX : X = w) => idx_l A cap zs x X (by rw [hX]; exact hs) hl
  have HQ : Hid (decide (x ∈ zs) = q) := hq
  clear hs hq
  go_enter Tryz.func61, Tryz.ntmps61
  go_wp2_with fail
  refine Calls.mono (HC.out _ rfl) ?_
  rintro e w1 ⟨⟨r, rfl, hr⟩, hw1⟩
  subst hw1
  rcases hr with ⟨hr, hm⟩ | ⟨rfl, hm⟩
  · have hd : decide (0 ≤ r) = true := decide_eq_true hr
    have HT : Hid (q = true) := by show _ = _; rw [← HQ.out]; exact decide_eq_true hm
    go_wp2
    go_ret
    exact ⟨by rw [HT.out]; simp, rfl⟩
  · have HT : Hid (q = false) := by show _ = _; rw [← HQ.out]; exact decide_eq_false hm
    go_wp2
    go_ret
    exact ⟨by rw [HT.out]; rfl, rfl⟩
end Go.Proofs.YtgmhcngdgfhhaaaGreatDoor
