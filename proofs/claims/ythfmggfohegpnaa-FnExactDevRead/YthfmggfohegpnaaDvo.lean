
/-
  Devices: what is right, by both sides; what DevInput, DevOpen and DevRead answer as plain functions of the lists; the specification's copies. Conditions: the words read as words, at most 1048576 of them.
-/
import Derived.Test.YthfmggfohegpnaaRows
import Derived.Test.YthfmggfohegpnaaOnu
namespace Go.Proofs.Ythfmggfohegpnaa
open Go.ChangeShapes Go.WideShapes Go.ChangeAt Go.RowKit Go.Deep
set_option linter.unusedVariables false

/-- A device that is right. -/
def dvOk (n m : Nat) : Bool := decide (n ≤ 8) && decide (m ≤ 8)
/-- DevInput: the two lists, whether it was taken. -/
def inpF (zs ys : List Int) (x : Int) : List Int × List Int × Bool := if dvOk zs.length ys.length = true then (if zs.length = 8 then (zs, ys, false) else (zs ++ [x], ys, true)) else ([], [], false)
/-- How many words go at the start of a slot. -/
def goes (zs ys : List Int) : Nat := min zs.length (8 - ys.length)
/-- DevOpen: the two lists, whether one went. -/
def opnF (zs ys : List Int) : List Int × List Int × Bool := if dvOk zs.length ys.length = true then (zs.drop (goes zs ys), ys ++ zs.take (goes zs ys), decide (0 < goes zs ys)) else ([], [], false)
/-- DevRead: the two lists, the word, the code. -/
def redF (zs ys : List Int) : List Int × List Int × Int × Int := if dvOk zs.length ys.length = true then (if ys.length = 0 then (zs, ys, 0, 1) else (zs, ys.drop 1, ys.getD 0 0, 0)) else ([], [], 0, 3)
set_option maxHeartbeats 1000000 in
theorem spec_dok (a : Option Addr) (n c : Nat) (b : Option Addr) (m d : Nat) (w : World) : Calls Try.prog 10 #[dst a n c b m d] w fun e w' => e = .returned (.bool (dvOk n m)) ∧ Below w.heap.size w w' := by
  have HB : Hid (Below w.heap.size w (w.alloc (.cells (dsr a n c b m d) 27))) := (Below.refl _ w).alloc (Nat.le_refl _) _
  obtain ⟨q, HQ⟩ : ∃ q, Hid (dvOk n m = q) := ⟨_, rfl⟩
  rw [HQ.out]
  by_cases h1 : n ≤ 8
  · have h1' : (n : Int) ≤ 8 := by omega
    by_cases h2 : m ≤ 8
    · have h2' : (m : Int) ≤ 8 := by omega
      have e : q = true := by rw [← HQ.out]; simp [dvOk, h1, h2]
      subst e
      go_enter Try.func10, Try.ntmps10
      go_wp2
      go_ret
      exact ⟨rfl, HB.out⟩
    · have h2' : ¬ (m : Int) ≤ 8 := by omega
      have e : q = false := by rw [← HQ.out]; simp [dvOk, h2]
      subst e
      go_enter Try.func10, Try.ntmps10
      go_wp2
      go_ret
      exact ⟨rfl, HB.out⟩
  · have h1' : ¬ (n : Int) ≤ 8 := by omega
    have e : q = false := by rw [← HQ.out]; simp [dvOk, h1]
    subst e
    go_enter Try.func10, Try.ntmps10
    go_wp2
    go_ret
    exact ⟨rfl, HB.out⟩
set_option maxHeartbeats 1000000 in
theorem impl_dok (a : Option Addr) (n c : Nat) (b : Option Addr) (m d : Nat) (w : World) : Calls Try.prog 12 #[dst a n c b m d] w fun e w' => e = .returned (.bool (dvOk n m)) ∧ Below w.heap.size w w' := by
  have HB : Hid (Below w.heap.size w (w.alloc (.cells (dsr a n c b m d) 27))) := (Below.refl _ w).alloc (Nat.le_refl _) _
  obtain ⟨q, HQ⟩ : ∃ q, Hid (dvOk n m = q) := ⟨_, rfl⟩
  rw [HQ.out]
  by_cases h1 : n ≤ 8
  · have h1' : (n : Int) ≤ 8 := by omega
    by_cases h2 : m ≤ 8
    · have h2' : (m : Int) ≤ 8 := by omega
      have e : q = true := by rw [← HQ.out]; simp [dvOk, h1, h2]
      subst e
      go_enter Try.func12, Try.ntmps12
      go_wp2
      go_ret
      exact ⟨rfl, HB.out⟩
    · have h2' : ¬ (m : Int) ≤ 8 := by omega
      have e : q = false := by rw [← HQ.out]; simp [dvOk, h2]
      subst e
      go_enter Try.func12, Try.ntmps12
      go_wp2
      go_ret
      exact ⟨rfl, HB.out⟩
  · have h1' : ¬ (n : Int) ≤ 8 := by omega
    have e : q = false := by rw [← HQ.out]; simp [dvOk, h1]
    subst e
    go_enter Try.func12, Try.ntmps12
    go_wp2
    go_ret
    exact ⟨rfl, HB.out⟩
set_option maxHeartbeats 1000000 in
theorem spec_list (a : Option Addr) (n c : Nat) (zs : List Int) (w : World) (hs : Seg .u32 w a zs) (hl : zs.length = n) (hn : n ≤ 1048576) :
    Calls Try.prog 42 #[.slice a n c] w fun e w' => ∃ v, e = .returned v ∧ Below w.heap.size w w' ∧ OwnU w' w.heap.size v zs ∧ v ≠ .slice none 0 0 := by
  have hbw : Below w.heap.size w (w.alloc (.cells #[] 31)) := (Below.refl _ w).alloc (Nat.le_refl _) _
  have HO : Hid (OwnU (w.alloc (.cells #[] 31)) w.heap.size (.slice (some ⟨w.heap.size, 0, none⟩) 0 0) []) := OwnU.new w _ rfl
  have HS : Hid (Seg .u32 (w.alloc (.cells #[] 31)) a zs) := hs.below hbw
  have HB : Hid (Below w.heap.size w (w.alloc (.cells #[] 31))) := hbw
  have HL : Hid (zs.length = n) := hl
  have HLE : Hid (w.heap.size ≤ (w.alloc (.cells #[] 31)).heap.size) := by show _ ≤ _; simp
  have HN : Hid (([] : List Int).length + zs.length ≤ 1048576) := by show _ ≤ _; simp; omega
  clear hs hl hbw
  go_enter Try.func42, Try.ntmps42
  go_wp2_with (at_builtin; (refine wpList_append_us _ rfl (.tmp 3) (.tmp 4) 22 rfl Try.underlying22 w.heap.size (.slice (some ⟨w.heap.size, 0, none⟩) 0 0) [] zs a n c rfl rfl HL.out HO.out HS.out HN.out HLE.out (by simp) ?_; intro v9 w9 ho9 hg9 hv9 hw9; have HZ : Hid (Below w.heap.size w w9 ∧ OwnU w9 w.heap.size v9 zs ∧ v9 ≠ .slice none 0 0) := ⟨Below.grown HB.out hg9 HLE.out (own_low HO.out), ho9, hv9⟩; clear ho9 hg9 hv9 hw9))
  go_ret
  exact ⟨_, rfl, HZ.out.1, HZ.out.2.1, HZ.out.2.2⟩
end Go.Proofs.Ythfmggfohegpnaa
