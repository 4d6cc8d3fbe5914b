
/-
  Holding, entering and leaving interrupts, the specification's and the program's own: the same registers at every argument. No conditions but that the arguments are values of their types.
-/
import Derived.Test.YthohemncfdjdeaaDoorRows
import Derived.Test.YthohemncfdjdeaaDoorVrt
import Derived.Test.YthohemncfdjdeaaDoorVbt
import Derived.WalkKit
import Derived.Deep.QuietTactic
import Derived.Deep.RegionWith
import Derived.BigQuiet
namespace Go.Proofs.YthohemncfdjdeaaDoor
open Go.ChangeShapes Go.WideShapes Go.ChangeAt Go.RowKit
set_option linter.unusedVariables false

def inr (x lo hi : Int) : Bool := decide (lo ≤ x) && decide (x ≤ hi)
theorem inr_yes {x lo hi : Int} (h : lo ≤ x ∧ x ≤ hi) : inr x lo hi = true := by simp [inr, h.1, h.2]
theorem inr_no {x lo hi : Int} (h : ¬ (lo ≤ x ∧ x ≤ hi)) : inr x lo hi = false := by
  unfold inr; rw [← Bool.decide_and]; exact decide_eq_false h
theorem bit_num {x i : Int} {b : Bool} (r : Int) (h : Hid (x.toNat.testBit i.toNat = b)) (hr : (b.toNat : Int) = r) : Hid (((x.toNat.testBit i.toNat).toNat : Int) = r) := by
  have := h.out
  show _ = _
  rw [this]; exact hr
set_option maxHeartbeats 400000 in
theorem bit_any (x i r : Int) (w : World) (h1 : 0 ≤ x) (h2 : x ≤ 4294967295) (h3 : 0 ≤ i) (h4 : i ≤ 31) (hb : Hid (((x.toNat.testBit i.toNat).toNat : Int) = r)) :
    Calls Tryd.prog 19 #[.int .u32 x, .int .i64 i] w fun e w' => e = .returned (.int .i64 r) ∧ w' = w := by
  have HE : Hid _ := Wd.bit_int x i h1 h2
  go_enter Tryd.func19, Tryd.ntmps19
  go_wp2
  go_ret
  exact ⟨ret_int (HE.out.trans hb.out), rfl⟩
theorem pend_is (d : Int) (w : World) : Calls Tryd.prog 28 #[.int .i64 d] w fun e w' => e = .returned (.bool (inr d 0 31)) ∧ w' = w := by
  by_cases h1 : 0 ≤ d
  · by_cases h2 : d ≤ 31
    · rw [inr_yes ⟨h1, h2⟩]
      go_enter Tryd.func28, Tryd.ntmps28
      go_wp2
      go_ret
      exact ⟨rfl, rfl⟩
    · rw [inr_no (fun g => h2 g.2)]
      go_enter Tryd.func28, Tryd.ntmps28
      go_wp2
      go_ret
      exact ⟨rfl, rfl⟩
  · rw [inr_no (fun g => h1 g.1)]
    go_enter Tryd.func28, Tryd.ntmps28
    go_wp2
    go_ret
    exact ⟨rfl, rfl⟩
set_option maxHeartbeats 400000 in
theorem pend_bit (d b : Int) (w : World) (h1 : 0 ≤ d) (h2 : d ≤ 31) (hb : Hid ((2 : Int) ^ d.toNat = b)) :
    Calls Tryd.prog 24 #[.int .i64 d] w fun e w' => e = .returned (.int .u32 b) ∧ w' = w := by
  have HM : Hid ((2 : Int) ^ d.toNat % 4294967296 = b) := by
    have l := Vb.pow_lt d.toNat (by omega)
    show _ = _
    rw [← hb.out, Vb.nat_pow]
    generalize 2 ^ d.toNat = y at *
    omega
  go_enter Tryd.func24, Tryd.ntmps24
  go_wp2
  go_ret
  exact ⟨ret_int (by first | exact HM.out | (simp; exact HM.out)), rfl⟩

set_option maxHeartbeats 400000 in
theorem impl_leave (o : Bool) (v s c k : Int) (t n : Bool) (p : Int) (w : World) : Calls Tryd.prog 14 #[vrt o v s c k t n p] w fun x w' => x = .returned (.tuple #[vrt o v s c k t false p, .int .u32 (if n then s else 0), .bool n]) ∧ Below w.heap.size w w' := by
  cases n
  · go_enter Tryd.func14, Tryd.ntmps14
    go_wp2
    exact bodyPost_ret (v := .tuple #[vrt o v s c k t false p, .int .u32 0, .bool false]) (by simp [results, Tryd.results14, go_sem]) rfl ⟨rfl, ((Below.refl _ _).alloc (Nat.le_refl _) _).alloc (by simp) _⟩
  · go_enter Tryd.func14, Tryd.ntmps14
    go_wp2
    go_region
    all_goals go_wp2
    all_goals exact bodyPost_ret (v := .tuple #[vrt o v s c k t false p, .int .u32 s, .bool true]) (by simp [results, Tryd.results14, go_sem]) rfl ⟨rfl, by repeat (first | exact ((Below.refl _ _).alloc (Nat.le_refl _) _).alloc (by simp) _ | refine Below.drew ?_)⟩

/-- The registers' waiting bits behind holding 'd'. -/
def holdF (p d : Int) : Int := if 0 ≤ d ∧ d ≤ 31 then Vb.orF p d else p
set_option maxHeartbeats 400000 in
theorem impl_hold (o : Bool) (v s c k : Int) (t n : Bool) (p d : Int) (w : World) (h1 : 0 ≤ p) (h2 : p ≤ 4294967295) : Calls Tryd.prog 16 #[vrt o v s c k t n p, .int .i64 d] w fun x w' => x = .returned (vrt o v s c k t n (holdF p d)) ∧ Below w.heap.size w w' := by
  by_cases h : 0 ≤ d ∧ d ≤ 31
  · obtain ⟨h3, h4⟩ := h
    obtain ⟨q, HQ⟩ : ∃ q, Hid (holdF p d = q) := ⟨_, rfl⟩
    rw [HQ.out]
    have HQ2 : Hid (Vb.orF p d = q) := by have := HQ.out; unfold holdF at this; rw [if_pos ⟨h3, h4⟩] at this; exact this
    have HI := inr_yes ⟨h3, h4⟩
    obtain ⟨b, HB⟩ : ∃ b, Hid ((2 : Int) ^ d.toNat = b) := ⟨_, rfl⟩
    have HA : Hid (bits .or .u32 p b = q) := by
      show _ = _
      rw [← HB.out]
      exact (Vb.or_int p d h1 h2 h3 h4).trans HQ2.out
    have PB : ∀ w, Calls Tryd.prog 24 #[.int .i64 d] w fun e w' => e = .returned (.int .u32 b) ∧ w' = w := fun w => pend_bit d b w h3 h4 HB
    clear HB HQ HQ2
    go_enter Tryd.func16, Tryd.ntmps16
    go_wp2_with (first | (go_at_call 28; refine (pend_is _ _).mono ?_; rintro e w' ⟨rfl, rfl⟩; rw [HI]))
    go_region_with (go_at_call 24; refine (PB _).mono ?_; rintro e w' ⟨rfl, rfl⟩)
    all_goals go_wp2
    all_goals exact bodyPost_ret (v := vrt o v s c k t n q) (by simp [results, Tryd.results16, go_sem]; exact HA.out) rfl ⟨rfl, by repeat (first | exact ((Below.refl _ _).alloc (Nat.le_refl _) _).alloc (by simp) _ | refine Below.drew ?_)⟩
  · have HI := inr_no h
    have HQ : holdF p d = p := if_neg h
    rw [HQ]
    clear h HQ
    go_enter Tryd.func16, Tryd.ntmps16
    go_wp2_with (first | (go_at_call 28; refine (pend_is _ _).mono ?_; rintro e w' ⟨rfl, rfl⟩; rw [HI]))
    exact bodyPost_ret (v := vrt o v s c k t n p) (by simp [results, Tryd.results16, go_sem]) rfl ⟨rfl, ((Below.refl _ _).alloc (Nat.le_refl _) _).alloc (by simp) _⟩

/-- What entering makes of the registers: whether the timer is on, and what waits. -/
def entT (t : Bool) (d : Int) : Bool := if d = 1 then false else t
def entP (p d : Int) : Int := if d = 1 then p else Vb.clF p (d - 2)
set_option maxHeartbeats 400000 in
theorem impl_enter_no (o : Bool) (v s c k : Int) (t n : Bool) (p d x : Int) (w : World) (h : ¬ (1 ≤ d ∧ d ≤ 33)) : Calls Tryd.prog 13 #[vrt o v s c k t n p, .int .i64 d, .int .u32 x] w fun e w' => e = .returned (.tuple #[vrt o v s c k t n p, .int .u32 x]) ∧ Below w.heap.size w w' := by
  by_cases h1 : d < 1
  · clear h
    go_enter Tryd.func13, Tryd.ntmps13
    go_wp2
    exact bodyPost_ret (v := .tuple #[vrt o v s c k t n p, .int .u32 x]) (by simp [results, Tryd.results13, go_sem]) rfl ⟨rfl, ((Below.refl _ _).alloc (Nat.le_refl _) _).alloc (by simp) _⟩
  · have h2 : 33 < d := by omega
    clear h
    go_enter Tryd.func13, Tryd.ntmps13
    go_wp2
    exact bodyPost_ret (v := .tuple #[vrt o v s c k t n p, .int .u32 x]) (by simp [results, Tryd.results13, go_sem]) rfl ⟨rfl, ((Below.refl _ _).alloc (Nat.le_refl _) _).alloc (by simp) _⟩
set_option maxHeartbeats 400000 in
theorem impl_enter_one (o : Bool) (v s c k : Int) (t n : Bool) (p x : Int) (w : World) : Calls Tryd.prog 13 #[vrt o v s c k t n p, .int .i64 1, .int .u32 x] w fun e w' => e = .returned (.tuple #[vrt o v x 1 k false true p, .int .u32 v]) ∧ Below w.heap.size w w' := by
  go_enter Tryd.func13, Tryd.ntmps13
  go_wp2
  go_region
  all_goals go_wp2
  all_goals exact bodyPost_ret (v := .tuple #[vrt o v x 1 k false true p, .int .u32 v]) (by simp [results, Tryd.results13, go_sem]) rfl ⟨rfl, by repeat (first | exact ((Below.refl _ _).alloc (Nat.le_refl _) _).alloc (by simp) _ | refine Below.drew ?_)⟩
set_option maxHeartbeats 800000 in
theorem impl_enter_dev (o : Bool) (v s c k : Int) (t n : Bool) (p d x q : Int) (w : World) (h1 : 0 ≤ p) (h2 : p ≤ 4294967295) (h3 : 2 ≤ d) (h4 : d ≤ 33) (HQ : Hid (Vb.clF p (d - 2) = q)) :
    Calls Tryd.prog 13 #[vrt o v s c k t n p, .int .i64 d, .int .u32 x] w fun e w' => e = .returned (.tuple #[vrt o v x d k t true q, .int .u32 v]) ∧ Below w.heap.size w w' := by
  have hd1 : (d == 1) = false := beq_eq_false_iff_ne.2 (by omega)
  obtain ⟨b, HB⟩ : ∃ b, Hid ((2 : Int) ^ (d - 2).toNat = b) := ⟨_, rfl⟩
  have HA : Hid (bits .andNot .u32 p b = q) := by
    show _ = _
    rw [← HB.out]
    exact (Vb.cl_int p (d - 2) h1 h2 (by omega) (by omega)).trans HQ.out
  have PB : ∀ w, Calls Tryd.prog 24 #[.int .i64 (IntKind.i64.wrap (d - 2))] w fun e w' => e = .returned (.int .u32 b) ∧ w' = w := fun w => by
    rw [show IntKind.i64.wrap (d - 2) = d - 2 by rw [IntKind.wrap_i64]; omega]
    exact pend_bit (d - 2) b w (by omega) (by omega) HB
  clear HB HQ
  go_enter Tryd.func13, Tryd.ntmps13
  go_wp2
  go_region_with (go_at_call 24; refine (PB _).mono ?_; rintro e w' ⟨rfl, rfl⟩)
  all_goals go_wp2
  all_goals go_region
  all_goals go_wp2
  all_goals exact bodyPost_ret (v := .tuple #[vrt o v x d k t true q, .int .u32 v]) (by simp [results, Tryd.results13, go_sem]; exact HA.out) rfl ⟨rfl, by repeat (first | exact ((Below.refl _ _).alloc (Nat.le_refl _) _).alloc (by simp) _ | refine Below.drew ?_)⟩
/-- All answers of entering in one: registers, and where to go on. -/
def entV (o : Bool) (v s c k : Int) (t n : Bool) (p d x : Int) : Value :=
  if 1 ≤ d ∧ d ≤ 33 then .tuple #[vrt o v x d k (entT t d) true (entP p d), .int .u32 v] else .tuple #[vrt o v s c k t n p, .int .u32 x]
theorem impl_enter (o : Bool) (v s c k : Int) (t n : Bool) (p d x : Int) (w : World) (h1 : 0 ≤ p) (h2 : p ≤ 4294967295) :
    Calls Tryd.prog 13 #[vrt o v s c k t n p, .int .i64 d, .int .u32 x] w fun e w' => e = .returned (entV o v s c k t n p d x) ∧ Below w.heap.size w w' := by
  unfold entV entT entP
  by_cases h : 1 ≤ d ∧ d ≤ 33
  · by_cases e : d = 1
    · subst e
      simpa using impl_enter_one o v s c k t n p x w
    · rw [if_pos h, if_neg e, if_neg e]
      exact impl_enter_dev o v s c k t n p d x _ w h1 h2 (by omega) (by omega) rfl
  · rw [if_neg h]
    exact impl_enter_no o v s c k t n p d x w h
end Go.Proofs.YthohemncfdjdeaaDoor
