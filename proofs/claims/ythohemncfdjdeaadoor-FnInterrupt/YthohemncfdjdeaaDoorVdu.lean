
/-
  What is due: the specification's and the program's own. Condition: the library's table deBruijn32tab lies in memory as its text lays it.
-/
import Derived.Test.YthohemncfdjdeaaDoorVcs
import Derived.Lib.TrailingZeros
import Derived.Deep.QuietTactic
import Derived.BigQuiet
namespace Go.Proofs.YthohemncfdjdeaaDoor
open Go.ChangeShapes Go.WideShapes Go.ChangeAt Go.RowKit
set_option linter.unusedVariables false

/-- The library's table, as its text lays it, lies in block 0. -/
def TabB (w : World) : Prop := ∀ i, i < 32 → w.cell? ⟨0, i, none⟩ = some (.int .u8 (Lib.deBruijn32tab.getD i 0 : Nat))
theorem TabB.below {w w' : World} (h : TabB w) (hb : Below w.heap.size w w') : TabB w' := fun i hi =>
  (hb.cell (p := ⟨0, i, none⟩) (World.block_lt_of_cell? w _ (h i hi))).trans (h i hi)
namespace Vb
/-- The place of the least bit that is set. -/
def low (p : Int) : Int := (Lib.ctz 32 p.toNat : Nat)
theorem low_spec (x : Nat) (h0 : x ≠ 0) (h : x < 4294967296) : Lib.ctz 32 x < 32 ∧ x.testBit (Lib.ctz 32 x) = true ∧ ∀ j, j < Lib.ctz 32 x → x.testBit j = false := by
  obtain ⟨m, hm, hk⟩ := Lib.ctzFrom_spec 32 x (by omega) (by simpa using h)
  have e : Lib.ctz 32 x = Lib.ctzFrom 32 x := by simp [Lib.ctz, h0]
  rw [← e] at hm hk
  generalize Lib.ctz 32 x = c at hm hk ⊢
  subst hm
  refine ⟨hk, ?_, fun j hj => ?_⟩
  · rw [Nat.mul_comm, Nat.testBit_mul_two_pow]
    simp [Nat.testBit_zero]
  · rw [Nat.mul_comm, Nat.testBit_mul_two_pow]
    have : ¬ c ≤ j := by omega
    simp [this]
theorem zero_bits (x : Nat) (h : x < 4294967296) (hb : ∀ j, j < 32 → x.testBit j = false) : x = 0 := by
  apply Nat.eq_of_testBit_eq
  intro j
  rw [Nat.zero_testBit]
  by_cases hj : j < 32
  · exact hb j hj
  · exact Wd.far x j h (by omega)
theorem tz_key (x a : Nat) (hx : x < 4294967296) (hx0 : x ≠ 0) (hlow : x &&& (4294967296 - x) = a) :
    bits BinOp.and IntKind.u32 (x : Int) (-(x : Int) % 4294967296) * 125613361 % 4294967296 / 134217728 = ((a * 125613361 % 4294967296 / 134217728 : Nat) : Int) := by
  have e1 : -(x : Int) % 4294967296 = ((4294967296 - x : Nat) : Int) := by omega
  rw [e1, u32_and_nat x _ hx (by omega), hlow]
  omega
end Vb
set_option maxHeartbeats 1000000 in
theorem tz_core (x k idx : Nat) (w : World) (hx0 : ((x : Int) == 0) = false)
    (key : bits BinOp.and IntKind.u32 (x : Int) (-(x : Int) % 4294967296) * 125613361 % 4294967296 / 134217728 = (idx : Int))
    (hi : idx < 32) (hk : k < 32) (hcell : w.cell? ⟨0, idx, none⟩ = some (.int .u8 k)) :
    Calls Tryd.prog 21 #[.int .u32 x] w fun e w' => e = .returned (.int .i64 k) ∧ w' = w := by
  go_enter Tryd.func21, Tryd.ntmps21
  go_wp2_with (simp only [key])
  go_ret
  exact ⟨rfl, rfl⟩
theorem tz_any (p : Int) (w : World) (h1 : 0 ≤ p) (h2 : p ≤ 4294967295) (h0 : ¬ p = 0) (hT : TabB w) :
    Calls Tryd.prog 21 #[.int .u32 p] w fun e w' => e = .returned (.int .i64 (Vb.low p)) ∧ w' = w := by
  obtain ⟨x, rfl⟩ := Int.eq_ofNat_of_zero_le h1
  have hx0 : x ≠ 0 := by omega
  have hx : x < 4294967296 := by omega
  obtain ⟨hlow, hk⟩ := Lib.lowest_bit 32 x hx0 (by simpa using hx)
  obtain ⟨hi, htab⟩ := Lib.deBruijn32_at _ hk
  have hcell := hT _ hi
  rw [htab] at hcell
  unfold Vb.low
  rw [Int.toNat_natCast]
  exact tz_core x _ _ w (by simp; omega) (Vb.tz_key x _ hx hx0 (by simpa using hlow)) hi hk hcell

theorem vc_drewN {w : World} {B : Nat} {o : Bool} {v s c k : Int} {t n : Bool} {p : Int} (h : VC w B o v s c k t n p) (m : Nat) : VC (w.drewN m) B o v s c k t n p :=
  h.kept (below_drewN (Below.refl _ _) m) h.lt
/-- What is due. -/
def dueF (o : Bool) (k : Int) (t n : Bool) (p y : Int) : Int :=
  if (!o || n) = true then 0 else if (t && decide (k ≤ y % 4294967296)) = true then 1 else if p = 0 then 0 else 2 + Vb.low p
set_option maxHeartbeats 400000 in
theorem rings_any (o : Bool) (v s c k : Int) (t n : Bool) (p y : Int) (w : World) (h1 : 0 ≤ k) (h2 : k ≤ 4294967295) : Calls Tryd.prog 20 #[vrt o v s c k t n p, .int .i64 y] w fun e w' => e = .returned (.bool (t && decide (k ≤ y % 4294967296))) ∧ Below w.heap.size w w' := by
  cases t
  · go_enter Tryd.func20, Tryd.ntmps20
    go_wp2
    go_ret
    exact ⟨rfl, (Below.refl _ _).alloc (Nat.le_refl _) _⟩
  · go_enter Tryd.func20, Tryd.ntmps20
    go_wp2
    go_ret
    exact ⟨rfl, (Below.refl _ _).alloc (Nat.le_refl _) _⟩
set_option maxHeartbeats 400000 in
theorem impl_due (o : Bool) (v s c k : Int) (t n : Bool) (p y : Int) (w : World) (h1 : 0 ≤ p) (h2 : p ≤ 4294967295) (k1 : 0 ≤ k) (k2 : k ≤ 4294967295) (hT : TabB w) :
    Calls Tryd.prog 8 #[vrt o v s c k t n p, .int .i64 y] w fun e w' => e = .returned (.int .i64 (dueF o k t n p y)) ∧ Below w.heap.size w w' := by
  have HD : Hid (dueF o k t n p y = if (!o || n) = true then 0 else if (t && decide (k ≤ y % 4294967296)) = true then 1 else if p = 0 then 0 else 2 + Vb.low p) := rfl
  cases o
  · go_enter Tryd.func8, Tryd.ntmps8
    go_wp2
    go_ret
    exact ⟨ret_int HD.out.symm, (Below.refl _ _).alloc (Nat.le_refl _) _⟩
  cases n
  rotate_left
  · go_enter Tryd.func8, Tryd.ntmps8
    go_wp2
    go_ret
    exact ⟨ret_int HD.out.symm, (Below.refl _ _).alloc (Nat.le_refl _) _⟩
  obtain ⟨r, HR⟩ : ∃ r, Hid ((t && decide (k ≤ y % 4294967296)) = r) := ⟨_, rfl⟩
  have RG : Hid (∀ w, Calls Tryd.prog 20 #[vrt true v s c k t false p, .int .i64 y] w fun e w' => e = .returned (.bool r) ∧ Below w.heap.size w w') := fun w => by rw [← HR.out]; exact rings_any true v s c k t false p y w k1 k2
  rw [HR.out] at HD
  have HT : Hid (TabB w) := hT
  have HV : Hid (VC (w.alloc (.cells (vrow true v s c k t false p) 26)) w.heap.size true v s c k t false p) := VC.new _ _ _ _ _ _ _ _ _ _
  clear hT HR k1 k2
  cases r
  rotate_left
  · go_enter Tryd.func8, Tryd.ntmps8
    go_wp2_with fail
    refine (RG.out _).mono ?_
    rintro x w1 ⟨rfl, hb1⟩
    go_wp2
    go_ret
    exact ⟨ret_int HD.out.symm, ((Below.refl _ _).alloc (Nat.le_refl _) _).trans (hb1.mono (by simp))⟩
  by_cases hp : p = 0
  · subst hp
    go_enter Tryd.func8, Tryd.ntmps8
    go_wp2_with fail
    refine (RG.out _).mono ?_
    rintro x w1 ⟨rfl, hb1⟩
    have c7 := (HV.out.kept hb1 HV.out.lt).c7
    have hb : Hid (Below w.heap.size w w1) := ((Below.refl _ _).alloc (Nat.le_refl _) _).trans (hb1.mono (by simp))
    clear hb1
    go_wp2
    go_ret
    exact ⟨ret_int HD.out.symm, hb.out⟩
  · have hp0 : (p == 0) = false := beq_eq_false_iff_ne.2 hp
    obtain ⟨q, HQ⟩ : ∃ q, Hid (Vb.low p = q) := ⟨_, rfl⟩
    have hq := (Vb.low_spec p.toNat (by omega) (by omega)).1
    have q1 : 0 ≤ q := by have := HQ.out; unfold Vb.low at this; omega
    have q2 : q ≤ 31 := by have := HQ.out; unfold Vb.low at this; omega
    have TZ : Hid (∀ X, Below w.heap.size w X → Calls Tryd.prog 21 #[.int .u32 p] X fun e w' => e = .returned (.int .i64 q) ∧ w' = X) := fun X hX => by rw [← HQ.out]; exact tz_any p X h1 h2 hp (HT.out.below hX)
    have HD2 : Hid (dueF true k t false p y = 2 + q) := by
      have := HD.out
      show _ = _
      rw [this, if_neg (by simp), if_neg (by simp), if_neg hp, HQ.out]
    clear hp hq HQ HD HT
    go_enter Tryd.func8, Tryd.ntmps8
    go_wp2_with fail
    refine (RG.out _).mono ?_
    rintro x w1 ⟨rfl, hb1⟩
    have c7 := (HV.out.kept hb1 HV.out.lt).c7
    have hb : Hid (Below w.heap.size w w1) := ((Below.refl _ _).alloc (Nat.le_refl _) _).trans (hb1.mono (by simp))
    clear hb1
    go_wp2_with fail
    refine (TZ.out _ hb.out).mono ?_
    rintro x w2 ⟨rfl, rfl⟩
    go_wp2
    go_ret
    exact ⟨ret_int HD2.out.symm, hb.out⟩
set_option maxHeartbeats 800000 in
theorem spec_due (o : Bool) (v s c k : Int) (t n : Bool) (p y : Int) (w : World) (h1 : 0 ≤ p) (h2 : p ≤ 4294967295) (k1 : 0 ≤ k) (k2 : k ≤ 4294967295) :
    Calls Tryd.prog 6 #[vrt o v s c k t n p, .int .i64 y] w fun e w' => e = .returned (.int .i64 (dueF o k t n p y)) ∧ Below w.heap.size w w' := by
  have HD : Hid (dueF o k t n p y = if (!o || n) = true then 0 else if (t && decide (k ≤ y % 4294967296)) = true then 1 else if p = 0 then 0 else 2 + Vb.low p) := rfl
  cases o
  · go_enter Tryd.func6, Tryd.ntmps6
    go_wp2
    go_ret
    exact ⟨ret_int HD.out.symm, (Below.refl _ _).alloc (Nat.le_refl _) _⟩
  cases n
  rotate_left
  · go_enter Tryd.func6, Tryd.ntmps6
    go_wp2
    go_ret
    exact ⟨ret_int HD.out.symm, (Below.refl _ _).alloc (Nat.le_refl _) _⟩
  -- the walk behind the timer: the bits, one after another
  obtain ⟨m, HM⟩ : ∃ m, Hid (y % 4294967296 = m) := ⟨_, rfl⟩
  have MD : Hid (∀ w, Calls Tryd.prog 18 #[.int .i64 y, .int .i64 4294967296] w fun e w' => e = .returned (.int .i64 m) ∧ w' = w) := fun w => by rw [← HM.out]; exact mod_any y w
  rw [HM.out] at HD
  clear HM
  by_cases hr : (t && decide (k ≤ m)) = true
  · have HD2 : Hid (dueF true k t false p y = 1) := by
      have := HD.out
      show _ = _
      rw [this, if_neg (by simp), if_pos hr]
    have ht : t = true := by cases t <;> simp_all
    subst ht
    have hkm : k ≤ m := by simpa using hr
    clear hr HD
    go_enter Tryd.func6, Tryd.ntmps6
    go_wp2
    go_quiet (first | (go_at_call 18; refine Calls.quiet_of_same (MD.out _)))
    go_wp2
    go_ret
    exact ⟨ret_int HD2.out.symm, below_drewN ((Below.refl _ _).alloc (Nat.le_refl _) _) _⟩
  have HD2 : Hid (dueF true k t false p y = if p = 0 then 0 else 2 + Vb.low p) := by
    have := HD.out
    show _ = _
    rw [this, if_neg (by simp), if_neg hr]
  clear HD
  -- the place of the first bit that is set, 32 where there is none
  obtain ⟨C, hC, HB⟩ : ∃ C : Nat, C ≤ 32 ∧ Hid ((∀ j, j < C → p.toNat.testBit j = false) ∧ (C < 32 → p.toNat.testBit C = true) ∧ (dueF true k t false p y = if C < 32 then 2 + (C : Int) else 0)) := by
    by_cases hp : p = 0
    · subst hp
      exact ⟨32, by omega, fun j _ => Nat.zero_testBit j, fun h => absurd h (by omega), by rw [HD2.out]; simp⟩
    · obtain ⟨a, b, c⟩ := Vb.low_spec p.toNat (by omega) (by omega)
      exact ⟨_, by omega, c, fun _ => b, by rw [HD2.out, if_neg hp, if_pos a]; rfl⟩
  clear HD2
  obtain ⟨R, HR⟩ : ∃ R, Hid (dueF true k t false p y = R) := ⟨_, rfl⟩
  rw [HR.out] at HB ⊢
  clear HR
  have BT : Hid (∀ (i : Nat) (r : Int) (X : World), i < 32 → ((p.toNat.testBit i).toNat : Int) = r → Calls Tryd.prog 19 #[.int .u32 p, .int .i64 i] X fun e w' => e = .returned (.int .i64 r) ∧ w' = X) := fun i r X hi hr => bit_any p i r X h1 h2 (by omega) (by omega) (by show _ = _; rw [Int.toNat_natCast]; exact hr)
  go_enter Tryd.func6, Tryd.ntmps6
  cases t
  · clear hr
    go_wp2
    go_quiet (first | (go_at_call 18; refine Calls.quiet_of_same (MD.out _)))
    go_wp2
    go_loopw [5] (fun i wr => ∃ m : Nat, m ≤ C ∧ i = .int .i64 m ∧ Hid (Below w.heap.size w wr ∧ wr.cell? ⟨w.heap.size, 7, none⟩ = some (.int .u32 p))) (fun i _ => 32 - (intOf i).toNat)
    case atStart => exact ⟨0, by omega, rfl, below_drewN ((Below.refl _ _).alloc (Nat.le_refl _) _) _, (vc_drewN (VC.new _ _ _ _ _ _ _ _ _ _) _).c7⟩
    case round =>
      obtain ⟨m, hm, rfl, HR⟩ := hrel
      have c7 := HR.out.2
      by_cases hmC : m < C
      · have BI : Hid (∀ X : World, Calls Tryd.prog 19 #[.int .u32 p, .int .i64 m] X fun e w' => e = .returned (.int .i64 0) ∧ w' = X) := fun X => BT.out m 0 X (by omega) (by rw [HB.out.1 m hmC]; rfl)
        have hm32 : (m : Int) < 32 := by omega
        go_wp2_with (first | (go_at_call 19; refine (BI.out _).mono ?_; rintro e w' ⟨rfl, rfl⟩))
        go_roundw
        case rel => exact ⟨m + 1, by omega, by go_num, HR.out⟩
        case measure => simp [intOf]; omega
      · obtain rfl : m = C := by omega
        by_cases hC2 : m < 32
        · have BI : Hid (∀ X : World, Calls Tryd.prog 19 #[.int .u32 p, .int .i64 m] X fun e w' => e = .returned (.int .i64 1) ∧ w' = X) := fun X => BT.out m 1 X hC2 (by rw [HB.out.2.1 hC2]; rfl)
          have HE : Hid (R = 2 + (m : Int)) := by have := HB.out.2.2; rw [if_pos hC2] at this; exact this
          have hm32 : (m : Int) < 32 := by omega
          go_wp2_with (first | (go_at_call 19; refine (BI.out _).mono ?_; rintro e w' ⟨rfl, rfl⟩))
          go_ret
          exact ⟨ret_int HE.out.symm, HR.out.1⟩
        · have HE : Hid (R = 0) := by have := HB.out.2.2; rw [if_neg hC2] at this; exact this
          have hm32 : ¬ (m : Int) < 32 := by omega
          go_wp2
          go_ret
          exact ⟨ret_int HE.out.symm, HR.out.1⟩
  · have hkm : decide (k ≤ m) = false := by simpa using hr
    clear hr
    go_wp2
    go_quiet (first | (go_at_call 18; refine Calls.quiet_of_same (MD.out _)))
    go_wp2
    go_loopw [5] (fun i wr => ∃ m : Nat, m ≤ C ∧ i = .int .i64 m ∧ Hid (Below w.heap.size w wr ∧ wr.cell? ⟨w.heap.size, 7, none⟩ = some (.int .u32 p))) (fun i _ => 32 - (intOf i).toNat)
    case atStart => exact ⟨0, by omega, rfl, below_drewN ((Below.refl _ _).alloc (Nat.le_refl _) _) _, (vc_drewN (VC.new _ _ _ _ _ _ _ _ _ _) _).c7⟩
    case round =>
      obtain ⟨m, hm, rfl, HR⟩ := hrel
      have c7 := HR.out.2
      by_cases hmC : m < C
      · have BI : Hid (∀ X : World, Calls Tryd.prog 19 #[.int .u32 p, .int .i64 m] X fun e w' => e = .returned (.int .i64 0) ∧ w' = X) := fun X => BT.out m 0 X (by omega) (by rw [HB.out.1 m hmC]; rfl)
        have hm32 : (m : Int) < 32 := by omega
        go_wp2_with (first | (go_at_call 19; refine (BI.out _).mono ?_; rintro e w' ⟨rfl, rfl⟩))
        go_roundw
        case rel => exact ⟨m + 1, by omega, by go_num, HR.out⟩
        case measure => simp [intOf]; omega
      · obtain rfl : m = C := by omega
        by_cases hC2 : m < 32
        · have BI : Hid (∀ X : World, Calls Tryd.prog 19 #[.int .u32 p, .int .i64 m] X fun e w' => e = .returned (.int .i64 1) ∧ w' = X) := fun X => BT.out m 1 X hC2 (by rw [HB.out.2.1 hC2]; rfl)
          have HE : Hid (R = 2 + (m : Int)) := by have := HB.out.2.2; rw [if_pos hC2] at this; exact this
          have hm32 : (m : Int) < 32 := by omega
          go_wp2_with (first | (go_at_call 19; refine (BI.out _).mono ?_; rintro e w' ⟨rfl, rfl⟩))
          go_ret
          exact ⟨ret_int HE.out.symm, HR.out.1⟩
        · have HE : Hid (R = 0) := by have := HB.out.2.2; rw [if_neg hC2] at this; exact this
          have hm32 : ¬ (m : Int) < 32 := by omega
          go_wp2
          go_ret
          exact ⟨ret_int HE.out.symm, HR.out.1⟩
end Go.Proofs.YthohemncfdjdeaaDoor
