/-
  At how many cycles a partition may begin a step: counted one by one, and by frames and slots. No function of the program in sight; no conditions but those that each fact names.
  Whose slot a cycle is in, in given phases: the program's own function; who may begin a step and whose slot begins: the specification's. Conditions: the slots lie in memory; the tables are sound.
  Frames, slots, phases, holders of cycles: the exported functions of the program and of the specification. Conditions: the lists lie in memory; the program's table of extras holds what the program's text lays.
  At how many cycles a partition may begin a step: both sides, and the law, walked. Conditions: the lists lie in memory; the program's table of extras holds what the program's text lays.
-/
import Derived.Test.YtlomcdgfcocmmaaGreatDoorBas
import Derived.Test.YtlomcdgfcocmmaaGreatDoorTin
import Derived.Test.YtlomcdgfcocmmaaGreatDoorTid
import Derived.Test.YtlomcdgfcocmmaaGreatDoorTif
import Derived.Test.YtlomcdgfcocmmaaGreatDoorLsw
namespace Go.Proofs.YtlomcdgfcocmmaaGreatDoor
open Go.ChangeShapes Go.WideShapes Go.ChangeAt Go.RowKit Go.Deep Go.Joins
set_option linter.unusedVariables false

/-- How many of the first c cycles are such that x may begin a step. -/
def numB (t : Tb) (x : Int) : Nat → Int
  | 0 => 0
  | c + 1 => numB t x c + (if begV t ((c : Int) % t.maj) = x then 1 else 0)
/-- What the first k slots give x of the places ahead of p. -/
def runN (t : Tb) (x p : Int) : Nat → Int
  | 0 => 0
  | k + 1 => runN t x p k + (if (t.ss.getD k sl0).1 = x then max (min p ((t.ss.getD k sl0).2.1 + (t.ss.getD k sl0).2.2 - t.grd) - ((t.ss.getD k sl0).2.1 + t.pad)) 0 else 0)
def runV (t : Tb) (x p : Int) : Int := runN t x p t.ss.length
def aheadV (t : Tb) (x c : Int) : Int := c / t.maj * runV t x t.maj + runV t x (c % t.maj)
/-- Slot k lets x begin a step at place p. -/
def Lets (t : Tb) (x p : Int) (k : Nat) : Prop := (t.ss.getD k sl0).1 = x ∧ (t.ss.getD k sl0).2.1 + t.pad ≤ p ∧ p < (t.ss.getD k sl0).2.1 + (t.ss.getD k sl0).2.2 - t.grd
theorem lets_one {t : Tb} (h : Tm t) {x p : Int} {i j : Nat} (hi : i < t.ss.length) (hj : j < t.ss.length) (gi : Lets t x p i) (gj : Lets t x p j) : i = j := by
  unfold Lets at gi gj
  have h1 := h.pad1
  have h2 := h.grd1
  by_cases e : i < j
  · have := h.od i j e hj; omega
  · by_cases e2 : j < i
    · have := h.od j i e2 hi; omega
    · omega
theorem lets_beg {t : Tb} (h : Tm t) {x p : Int} {i : Nat} (hi : i < t.ss.length) (g : Lets t x p i) : begV t p = x := by
  unfold Lets at g
  have h1 := h.pad1
  have h2 := h.grd1
  have hs := slotV_at h hi (p := p) ⟨by omega, by omega⟩
  have hp := phaseV_at hs
  rw [if_neg (by omega), if_neg (by omega)] at hp
  unfold begV
  rw [if_pos hp, hs]
  exact g.1
theorem beg_lets {t : Tb} (h : Tm t) {x p : Int} (hx : 0 ≤ x) (g : begV t p = x) : ∃ i, i < t.ss.length ∧ Lets t x p i := by
  have hp : phaseV t p = 2 := by
    by_cases q : phaseV t p = 2
    · exact q
    · unfold begV at g; rw [if_neg q] at g; omega
  obtain ⟨i, hi, hs, hh⟩ := phaseV_slot (t := t) (p := p) (by omega)
  have h3 := phaseV_at hs
  unfold begV at g
  rw [if_pos hp, hs] at g
  rw [hp] at h3
  refine ⟨i, hi, g, ?_, ?_⟩
  · by_cases q : p - (t.ss.getD i sl0).2.1 < t.pad
    · rw [if_pos q] at h3; omega
    · omega
  · by_cases q : p - (t.ss.getD i sl0).2.1 < t.pad
    · rw [if_pos q] at h3; omega
    · rw [if_neg q] at h3
      by_cases q2 : (t.ss.getD i sl0).2.2 - t.grd ≤ p - (t.ss.getD i sl0).2.1
      · rw [if_pos q2] at h3; omega
      · omega
theorem run_none {t : Tb} (h : Tm t) {x p : Int} : ∀ k, k ≤ t.ss.length → (∀ i, i < k → ¬ Lets t x p i) → runN t x (p + 1) k = runN t x p k := by
  intro k
  induction k with
  | zero => intro _ _; rfl
  | succ k ih =>
    intro hk hn
    have h1 := h.ln k (by omega)
    have h2 := hn k (by omega)
    unfold Lets at h2
    simp only [runN]
    rw [ih (by omega) (fun i hi => hn i (by omega))]
    by_cases q : (t.ss.getD k sl0).1 = x
    · rw [if_pos q, if_pos q]
      have h3 : ¬ ((t.ss.getD k sl0).2.1 + t.pad ≤ p ∧ p < (t.ss.getD k sl0).2.1 + (t.ss.getD k sl0).2.2 - t.grd) := fun g => h2 ⟨q, g⟩
      omega
    · rw [if_neg q, if_neg q]
theorem run_some {t : Tb} (h : Tm t) {x p : Int} {j : Nat} (hj : Lets t x p j) : ∀ k, j < k → k ≤ t.ss.length → runN t x (p + 1) k = runN t x p k + 1 := by
  intro k
  induction k with
  | zero => intro g; omega
  | succ k ih =>
    intro hjk hk
    have h1 := h.ln k (by omega)
    simp only [runN]
    by_cases e : j = k
    · subst e
      rw [run_none h j (by omega) (fun i hi g => by have := lets_one h (by omega) (by omega) g hj; omega)]
      unfold Lets at hj
      rw [if_pos hj.1, if_pos hj.1]
      omega
    · rw [ih (by omega) (by omega)]
      have h2 : ¬ Lets t x p k := fun g => by have := lets_one h (by omega) (by omega) g hj; omega
      unfold Lets at h2
      by_cases q : (t.ss.getD k sl0).1 = x
      · rw [if_pos q, if_pos q]
        have h3 : ¬ ((t.ss.getD k sl0).2.1 + t.pad ≤ p ∧ p < (t.ss.getD k sl0).2.1 + (t.ss.getD k sl0).2.2 - t.grd) := fun g => h2 ⟨q, g⟩
        omega
      · rw [if_neg q, if_neg q]
        omega
theorem run_step {t : Tb} (h : Tm t) {x p : Int} (hx : 0 ≤ x) : runV t x (p + 1) = runV t x p + (if begV t p = x then 1 else 0) := by
  unfold runV
  by_cases g : begV t p = x
  · obtain ⟨i, hi, hl⟩ := beg_lets h hx g
    rw [if_pos g, run_some h hl _ hi (Nat.le_refl _)]
  · rw [if_neg g, run_none h _ (Nat.le_refl _) (fun i hi q => g (lets_beg h hi q))]
    omega
theorem run_zero {t : Tb} (h : Tm t) {x : Int} : runV t x 0 = 0 := by
  have : ∀ k, k ≤ t.ss.length → runN t x 0 k = 0 := by
    intro k
    induction k with
    | zero => intro _; rfl
    | succ k ih =>
      intro hk
      have h1 := h.st k (by omega)
      have h2 := h.pad1
      simp only [runN]
      rw [ih (by omega)]
      split <;> omega
  exact this _ (Nat.le_refl _)
theorem run_no {t : Tb} {x p : Int} (hn : ∀ i, i < t.ss.length → (t.ss.getD i sl0).1 ≠ x) : runV t x p = 0 := by
  have : ∀ k, k ≤ t.ss.length → runN t x p k = 0 := by
    intro k
    induction k with
    | zero => intro _; rfl
    | succ k ih =>
      intro hk
      simp only [runN]
      rw [ih (by omega), if_neg (hn k (by omega))]
      rfl
  exact this _ (Nat.le_refl _)
theorem runN_bound {t : Tb} (h : Tm t) {x p : Int} (hp : p ≤ 5000) : ∀ k, k ≤ t.ss.length → 0 ≤ runN t x p k ∧ runN t x p k ≤ 5000 * (k : Int) := by
  intro k
  induction k with
  | zero => intro _; exact ⟨Int.le_refl _, by simp [runN]⟩
  | succ k ih =>
    intro hk
    have h1 := h.st k (by omega)
    have h2 := h.pad1
    have h3 := ih (by omega)
    simp only [runN]
    by_cases q : (t.ss.getD k sl0).1 = x
    · rw [if_pos q]
      omega
    · rw [if_neg q]
      omega
theorem runV_bound {t : Tb} (h : Tm t) {x p : Int} (hp : p ≤ 5000) : 0 ≤ runV t x p ∧ runV t x p ≤ 80000 := by
  have h1 := runN_bound h (x := x) hp t.ss.length (Nat.le_refl _)
  have h2 := h.n2
  unfold runV
  omega
theorem ahead_num {t : Tb} (h : Tm t) {x : Int} (hx : 0 ≤ x) : ∀ c : Nat, aheadV t x (c : Int) = numB t x c := by
  have hm := h.maj1
  intro c
  induction c with
  | zero =>
    unfold aheadV
    rw [show ((0 : Nat) : Int) = 0 from rfl, Int.zero_ediv, Int.zero_emod, run_zero h]
    simp [numB]
  | succ c ih =>
    have hst := run_step h (x := x) (p := (c : Int) % t.maj) hx
    simp only [numB]
    rw [← ih]
    unfold aheadV
    have hp := mod_lt (c := (c : Int)) hm
    have hd := Int.mul_ediv_add_emod (c : Int) t.maj
    have hcc : ((c + 1 : Nat) : Int) = (c : Int) + 1 := by omega
    rw [hcc]
    generalize hq : (c : Int) / t.maj = q at *
    generalize hr : (c : Int) % t.maj = r at *
    by_cases g : r + 1 < t.maj
    · have e1 : ((c : Int) + 1) / t.maj = q := by
        rw [← hd, show t.maj * q + r + 1 = (r + 1) + t.maj * q by omega, Int.add_mul_ediv_left _ _ (by omega), Int.ediv_eq_zero_of_lt (by omega) g]
        omega
      have e2 : ((c : Int) + 1) % t.maj = r + 1 := by
        rw [← hd, show t.maj * q + r + 1 = (r + 1) + t.maj * q by omega, Int.add_mul_emod_self_left]
        exact Int.emod_eq_of_lt (by omega) g
      rw [e1, e2, hst]
      omega
    · have e0 : r + 1 = t.maj := by omega
      have e1 : ((c : Int) + 1) / t.maj = q + 1 := by
        rw [← hd, show t.maj * q + r + 1 = 0 + t.maj * (q + 1) by rw [Int.mul_add]; omega, Int.add_mul_ediv_left _ _ (by omega)]
        simp
      have e2 : ((c : Int) + 1) % t.maj = 0 := by
        rw [← hd, show t.maj * q + r + 1 = 0 + t.maj * (q + 1) by rw [Int.mul_add]; omega, Int.add_mul_emod_self_left]
        simp
      rw [e0] at hst
      rw [e1, e2, run_zero h, Int.add_mul, hst]
      omega
theorem numB_bound (t : Tb) (x : Int) (c : Nat) : 0 ≤ numB t x c ∧ numB t x c ≤ (c : Int) := by
  induction c with
  | zero => exact ⟨Int.le_refl _, Int.le_refl _⟩
  | succ c ih =>
    simp only [numB]
    split <;> omega
theorem numB_le (t : Tb) (x : Int) {c d : Nat} (h : c ≤ d) : numB t x c ≤ numB t x d := by
  induction d with
  | zero => have : c = 0 := by omega
            subst this; exact Int.le_refl _
  | succ d ih =>
    by_cases e : c = d + 1
    · subst e; exact Int.le_refl _
    · have := ih (by omega)
      simp only [numB]
      split <;> omega
/-- The answer of CyclesOf. -/
def CR (t : Tb) (x y z r : Int) : Prop := (¬ ((Sd t ∧ IsC y) ∧ IsC z ∧ y ≤ z ∧ 0 ≤ x ∧ x < (t.ps.length : Int)) ∧ r = 0) ∨ (((Sd t ∧ IsC y) ∧ IsC z ∧ y ≤ z ∧ 0 ≤ x ∧ x < (t.ps.length : Int)) ∧ r = numB t x z.toNat - numB t x y.toNat)
theorem CR.unique {t : Tb} {x y z r s : Int} (h : CR t x y z r) (g : CR t x y z s) : r = s := by
  rcases h with ⟨h, rfl⟩ | ⟨h, h1⟩ <;> rcases g with ⟨g, rfl⟩ | ⟨g, g1⟩
  · rfl
  · exact absurd g h
  · exact absurd h g
  · rw [h1, g1]
end Go.Proofs.YtlomcdgfcocmmaaGreatDoor
namespace Go.Proofs.YtlomcdgfcocmmaaGreatDoor
open Go.ChangeShapes Go.WideShapes Go.ChangeAt Go.RowKit Go.Deep Go.Joins
set_option linter.unusedVariables false

set_option maxRecDepth 40000 in
set_option maxHeartbeats 4000000 in
theorem index_int (A : Option Addr) (cap n : Nat) (zs : List Int) (v : Int) (w : World) (hz : GSeg 1 w A n (inX zs)) (hn : n ≤ 1048576) :
    Calls Tryz.prog 188 #[.slice A n cap, .int .i64 v] w fun e w' => (∃ r : Int, e = .returned (.int .i64 r) ∧ ((r = -1 ∧ ∀ i, i < n → zs.getD i 0 ≠ v) ∨ ∃ i : Nat, i < n ∧ r = (i : Int) ∧ zs.getD i 0 = v)) ∧ w' = w := by
  have HS : Hid (GSeg 1 w A n (inX zs)) := hz
  clear hz
  go_enter Tryz.func188, Tryz.ntmps188
  go_wp2
  go_loopw [8] (fun i wr => ∃ m : Nat, m ≤ n ∧ i = .int .i64 m ∧ Hid (wr = w ∧ ∀ j, j < m → zs.getD j 0 ≠ v)) (fun i _ => n - (intOf i).toNat)
  case atStart => exact ⟨0, by omega, rfl, rfl, fun i hi => absurd hi (by omega)⟩
  case round =>
    obtain ⟨m, hm, rfl, HR⟩ := hrel
    have HW : Hid (wr = w) := HR.out.1
    by_cases hmn : m < n
    rotate_left
    · obtain rfl : m = n := by omega
      have HT : Hid (∀ j, j < m → zs.getD j 0 ≠ v) := HR.out.2
      clear HR
      go_wp2
      go_ret
      exact ⟨⟨_, rfl, .inl ⟨rfl, HT.out⟩⟩, HW.out⟩
    have hmn' : (m : Int) < (n : Int) := by omega
    have HS2 : GSeg 1 wr A n (inX zs) := by rw [HW.out]; exact HS.out
    obtain ⟨b1, o1, rfl, hbl1, p1⟩ := HS2.at m hmn
    rw [Nat.mul_one] at p1
    have c0 := in_cell p1
    have HY : Hid (zs.getD m 0 = v → ∃ i : Nat, i < n ∧ (m : Int) = (i : Int) ∧ zs.getD i 0 = v) := fun h => ⟨m, hmn, rfl, h⟩
    have HNO : Hid (¬ zs.getD m 0 = v → ∀ j, j < m + 1 → zs.getD j 0 ≠ v) := fun h j hj => by
      by_cases e : j = m
      · subst e; exact h
      · exact HR.out.2 j (by omega)
    obtain ⟨z, HZ⟩ : ∃ z, Hid (zs.getD m 0 = z) := ⟨_, rfl⟩
    rw [HZ.out] at c0
    clear p1 hbl1 HR HS2
    by_cases hzv : z = v
    · have HT : Hid _ := HY.out (HZ.out.trans hzv)
      subst hzv
      clear HY HNO HZ
      go_wp2
      go_ret
      exact ⟨⟨_, rfl, .inr HT.out⟩, HW.out⟩
    · have HT : Hid _ := HNO.out (fun h => hzv (HZ.out.symm.trans h))
      have hb : (v == z) = false := by simp; exact fun h => hzv h.symm
      have hb2 : ¬ (v = z) := fun h => hzv h.symm
      clear HY HNO HZ
      go_wp2
      go_roundw
      case rel => exact ⟨m + 1, by omega, by go_num, HW.out, HT.out⟩
      case measure => simp [intOf]; omega
set_option maxRecDepth 40000 in
set_option maxHeartbeats 4000000 in
theorem contains_int (A : Option Addr) (cap n : Nat) (zs : List Int) (v : Int) (q : Bool) (w : World) (hz : GSeg 1 w A n (inX zs)) (hn : n ≤ 1048576) (hq : q = true ↔ ∃ i, i < n ∧ zs.getD i 0 = v) :
    Calls Tryz.prog 175 #[.slice A n cap, .int .i64 v] w fun e w' => e = .returned (.bool q) ∧ w' = w := by
  have HC : Hid _ := index_int A cap n zs v w hz hn
  have HQ : Hid (q = true ↔ ∃ i, i < n ∧ zs.getD i 0 = v) := hq
  clear hz hn hq
  go_enter Tryz.func175, Tryz.ntmps175
  go_wp2_with fail
  refine Calls.mono HC.out ?_
  rintro e w1 ⟨⟨r, rfl, hr⟩, hw1⟩
  have HW : Hid (w1 = w) := hw1
  clear hw1 HC
  rcases hr with ⟨rfl, hno⟩ | ⟨i, hi, rfl, he⟩
  · have HT : Hid (q = false) := not_true HQ.out (fun ⟨i, hi, g⟩ => hno i hi g)
    clear HQ hno
    go_wp2
    go_ret
    exact ⟨ret_bool HT.out.symm, HW.out⟩
  · have HT : Hid (q = true) := HQ.out.2 ⟨i, hi, he⟩
    clear HQ he
    have h0 : 0 ≤ (i : Int) := by omega
    go_wp2
    go_ret
    exact ⟨ret_bool HT.out.symm, HW.out⟩
end Go.Proofs.YtlomcdgfcocmmaaGreatDoor
namespace Go.Proofs.YtlomcdgfcocmmaaGreatDoor
open Go.ChangeShapes Go.WideShapes Go.ChangeAt Go.RowKit Go.Deep Go.Joins
set_option linter.unusedVariables false

end Go.Proofs.YtlomcdgfcocmmaaGreatDoor
namespace Go.Proofs.YtlomcdgfcocmmaaGreatDoor
open Go.ChangeShapes Go.WideShapes Go.ChangeAt Go.RowKit Go.Deep Go.Joins
set_option linter.unusedVariables false

set_option maxRecDepth 40000 in
set_option maxHeartbeats 4000000 in
theorem run_ahead (t : Tb) (a : Ad) (x p : Int) (w : World) (hm : TM 0 w t a) (hw : TW t a) (hs : TS a) (ht : Tm t) (hp0 : 0 ≤ p) (hp : p ≤ 5000) :
    Calls Tryz.prog 86 #[tbV t a, .int .i64 x, .int .i64 p] w fun e w' => e = .returned (.int .i64 (runV t x p)) ∧ Below w.heap.size w w' := by
  have hL : t.ss.length = a.sn := hw.sl
  have hn : a.sn ≤ 1048576 := hs.s
  have HSL : Hid (∀ X, Below w.heap.size w X → GSeg 3 X a.sa a.sn (slX t.ss)) := fun X hX => (hm.below hX).s.seg
  have HTM : Hid (Tm t) := ht
  have hp1 : 1 ≤ t.pad ∧ t.pad ≤ 5000 := ⟨ht.pad1, ht.pad2⟩
  have hg1 : 1 ≤ t.grd ∧ t.grd ≤ 5000 := ⟨ht.grd1, ht.grd2⟩
  have hmj := ht.maj2
  have hn16 := ht.n2
  have HV : Hid (runV t x p = runN t x p a.sn) := by show _ = _; rw [← hL]; rfl
  rw [HV.out]
  have HB0 : Hid (Below w.heap.size w (w.alloc (.cells (tbA t a) 33))) := (Below.refl _ _).alloc (Nat.le_refl _) _
  have HX0 : Hid (TBx (w.alloc (.cells (tbA t a) 33)) w.heap.size t a) := TBx.new w t a _ rfl
  have k18 : (w.alloc (.cells (tbA t a) 33)).cell? ⟨w.heap.size, 18, none⟩ = some (.slice a.sa a.sn a.sc) := HX0.out.cell 18 rfl
  clear hm hw hs ht HV
  go_enter Tryz.func86, Tryz.ntmps86
  go_wp2
  clear k18
  have HX1 : Hid (∀ X, Below (w.alloc (.cells (tbA t a) 33)).heap.size (w.alloc (.cells (tbA t a) 33)) X → TBx X w.heap.size t a) := fun X hX => HX0.out.below hX
  revert HB0 HX1
  clear HX0
  generalize w.alloc (.cells (tbA t a) 33) = V0
  intro HB0 HX1
  go_loopw [7, 15] (fun v i wr => ∃ (m : Nat) (f : Int), m ≤ a.sn ∧ 0 ≤ f ∧ f ≤ 5000 * (m : Int) ∧ i = .int .i64 m ∧ v = .int .i64 f ∧ Hid (f = runN t x p m ∧ Below V0.heap.size V0 wr)) (fun _ i _ => a.sn - (intOf i).toNat)
  case atStart => exact ⟨0, 0, by omega, by omega, by omega, rfl, rfl, rfl, Below.refl _ _⟩
  case round =>
    obtain ⟨m, f, hm, hf0, hf1, rfl, rfl, HR⟩ := hrel
    have HBR : Hid (Below w.heap.size w wr) := HB0.out.trans (HR.out.2.mono HB0.out.size)
    by_cases hmn : m < a.sn
    rotate_left
    · obtain rfl : m = a.sn := by omega
      have HT : Hid (f = runN t x p a.sn) := HR.out.1
      clear HR HX1
      go_wp2
      go_ret
      exact ⟨ret_int HT.out, HBR.out⟩
    have hmn' : (m : Int) < (a.sn : Int) := by omega
    obtain ⟨b1, o1, hsa, hbl1, p1⟩ := (HSL.out _ HBR.out).at m hmn
    rw [hsa]
    have hx1 := HTM.out.st m (by omega)
    have hx2 := HTM.out.ln m (by omega)
    have hx3 := HTM.out.en m (by omega)
    have HFN : Hid (runN t x p (m + 1) = f + (if (t.ss.getD m sl0).1 = x then max (min p ((t.ss.getD m sl0).2.1 + (t.ss.getD m sl0).2.2 - t.grd) - ((t.ss.getD m sl0).2.1 + t.pad)) 0 else 0)) := by show runN t x p m + _ = _; rw [HR.out.1]
    have HRO : Hid (∀ X, Calls Tryz.prog 78 #[tbV t a, slV (t.ss.getD m sl0)] X fun e w' => e = .returned (.tuple #[.int .i64 ((t.ss.getD m sl0).2.1 + t.pad), .int .i64 ((t.ss.getD m sl0).2.1 + (t.ss.getD m sl0).2.2 - t.grd)]) ∧ Below X.heap.size X w') := fun X => run_of t a _ _ _ X hp1 hg1 ⟨hx1, by omega, by omega⟩
    simp only [slX] at p1
    generalize t.ss.getD m sl0 = y at p1 hx1 hx2 hx3 HFN HRO
    obtain ⟨c0, c1, c2⟩ := sl_cells p1
    obtain ⟨x1, x2, x3⟩ := y
    simp only [slV] at c0 c1 c2 hx1 hx2 hx3 HFN HRO
    obtain ⟨u, HU⟩ : ∃ u, Hid (x2 + t.pad = u) := ⟨_, rfl⟩
    obtain ⟨v, HVV⟩ : ∃ v, Hid (x2 + x3 - t.grd = v) := ⟨_, rfl⟩
    rw [HU.out, HVV.out] at HRO HFN
    have hu1 : 0 ≤ u ∧ u ≤ 10000 := by have := HU.out; omega
    have hv1 : -5000 ≤ v ∧ v ≤ 5000 := by have := HVV.out; omega
    have hbA : Below wr.heap.size wr (wr.alloc (.cells #[.int .i64 x1, .int .i64 x2, .int .i64 x3] 42)) := (Below.refl _ _).alloc (Nat.le_refl _) _
    have HRB : Hid (Below V0.heap.size V0 (wr.alloc (.cells #[.int .i64 x1, .int .i64 x2, .int .i64 x3] 42))) := HR.out.2.trans (hbA.mono HR.out.2.size)
    have HXR : Hid (TBx (wr.alloc (.cells #[.int .i64 x1, .int .i64 x2, .int .i64 x3] 42)) w.heap.size t a) := HX1.out _ HRB.out
    have KS : Hid (CellsAt (wr.alloc (.cells #[.int .i64 x1, .int .i64 x2, .int .i64 x3] 42)) wr.heap.size 0 [.int .i64 x1, .int .i64 x2, .int .i64 x3]) := CellsAt.new wr [.int .i64 x1, .int .i64 x2, .int .i64 x3] _ _ rfl
    clear p1 hbl1 HR hbA HX1 HSL HU HVV
    go_wp2_with (first | (refine wpList_load_row rfl 33 (.tmp 3) rfl w.heap.size rfl 33 (tbA t a) (0, 0) _ HXR.out Tryz.underlying33 rfl (by kernel_rfl) ?_) | fail)
    refine Calls.mono (HRO.out _) ?_
    rintro e w2 ⟨rfl, hb2⟩
    have HB2 : Hid (Below V0.heap.size V0 w2) := HRB.out.trans (hb2.mono HRB.out.size)
    have d0 : w2.cell? ⟨wr.heap.size, 0, none⟩ = some (.int .i64 x1) := kept_cell hb2 (cell0 KS.out 0 rfl)
    clear hb2 HRB HXR KS HRO c0 c1 c2
    by_cases hx : x1 = x
    · subst hx
      have HE : Hid (runN t x1 p (m + 1) = f + max (min p v - u) 0) := by show _ = _; rw [HFN.out, if_pos rfl]
      have hg2b : 0 ≤ max (min p v - u) 0 ∧ max (min p v - u) 0 ≤ 5000 := by omega
      clear HFN
      go_wp2
      go_roundw
      case rel => exact ⟨m + 1, f + max (min p v - u) 0, by omega, by omega, by omega, by go_num, rfl, HE.out.symm, HB2.out⟩
      case measure => simp [intOf]; omega
    · have HE : Hid (f = runN t x p (m + 1)) := by show _ = _; rw [HFN.out, if_neg hx]; omega
      have hb : (x1 == x) = false := by simpa using hx
      clear HFN
      go_wp2
      go_roundw
      case rel => exact ⟨m + 1, f, by omega, hf0, by omega, by go_num, rfl, HE.out, HB2.out⟩
      case measure => simp [intOf]; omega
set_option maxRecDepth 40000 in
set_option maxHeartbeats 4000000 in
theorem cycles_ahead (t : Tb) (a : Ad) (x c : Int) (w : World) (hm : TM 0 w t a) (hw : TW t a) (hs : TS a) (ht : Tm t) (hc : 0 ≤ c) (hc2 : c ≤ 50000) :
    Calls Tryz.prog 59 #[tbV t a, .int .i64 x, .int .i64 c] w fun e w' => e = .returned (.int .i64 (aheadV t x c)) ∧ Below w.heap.size w w' := by
  have hpp : 0 ≤ c % t.maj ∧ c % t.maj < t.maj := mod_lt ht.maj1
  have hm1 := ht.maj1
  have hm2 := ht.maj2
  have hq1 : 0 ≤ c / t.maj := Int.ediv_nonneg hc (by omega)
  have hq2 : c / t.maj ≤ c := Int.ediv_le_self _ hc
  have hr1 := runV_bound ht (x := x) (p := t.maj) (by omega)
  have hr2 := runV_bound ht (x := x) (p := c % t.maj) (by omega)
  have HC1 : Hid (∀ X, Calls Tryz.prog 85 #[tbV t a, .int .i64 c] X fun e w' => e = .returned (.int .i64 (c / t.maj)) ∧ Below X.heap.size X w') := fun X => frame_of t a c _ X ht.maj1 hc (by omega) rfl
  have HC2 : Hid (∀ X, Calls Tryz.prog 87 #[tbV t a, .int .i64 c] X fun e w' => e = .returned (.int .i64 (c % t.maj)) ∧ Below X.heap.size X w') := fun X => place_of t a c _ X ht.maj1 hc (by omega) rfl
  have HC3 : Hid (∀ X, Below w.heap.size w X → Calls Tryz.prog 86 #[tbV t a, .int .i64 x, .int .i64 t.maj] X fun e w' => e = .returned (.int .i64 (runV t x t.maj)) ∧ Below X.heap.size X w') := fun X hX => run_ahead t a x t.maj X (hm.below hX) hw hs ht (by omega) hm2
  have HC4 : Hid (∀ X, Below w.heap.size w X → Calls Tryz.prog 86 #[tbV t a, .int .i64 x, .int .i64 (c % t.maj)] X fun e w' => e = .returned (.int .i64 (runV t x (c % t.maj))) ∧ Below X.heap.size X w') := fun X hX => run_ahead t a x _ X (hm.below hX) hw hs ht hpp.1 (by omega)
  obtain ⟨z, HZ⟩ : ∃ z, Hid (aheadV t x c = z) := ⟨_, rfl⟩
  rw [HZ.out]
  have HZ2 : Hid (c / t.maj * runV t x t.maj + runV t x (c % t.maj) = z) := HZ.out
  obtain ⟨p, HP⟩ : ∃ p, Hid (c % t.maj = p) := ⟨_, rfl⟩
  rw [HP.out] at HC2 HC4 HZ2 hr2
  obtain ⟨q, HQ⟩ : ∃ q, Hid (c / t.maj = q) := ⟨_, rfl⟩
  rw [HQ.out] at HC1 HZ2 hq1 hq2
  obtain ⟨r1, HR1⟩ : ∃ r, Hid (runV t x t.maj = r) := ⟨_, rfl⟩
  rw [HR1.out] at HC3 HZ2 hr1
  obtain ⟨r2, HR2⟩ : ∃ r, Hid (runV t x p = r) := ⟨_, rfl⟩
  rw [HR2.out] at HC4 HZ2 hr2
  have hpr : 0 ≤ q * r1 ∧ q * r1 ≤ 4000000000 := by
    refine ⟨Int.mul_nonneg hq1 hr1.1, ?_⟩
    have : q * r1 ≤ 50000 * 80000 := Int.mul_le_mul (by omega) hr1.2 hr1.1 (by omega)
    omega
  have hw1 : IntKind.i64.wrap (q * r1) = q * r1 := by rw [IntKind.wrap_i64]; omega
  have hw3 : IntKind.i64.wrap (q * r1 + r2) = q * r1 + r2 := by rw [IntKind.wrap_i64]; omega
  clear hpr hr1 hr2 hq1 hq2 hm1 hm2 hpp hc hc2
  have HB0 : Hid (Below w.heap.size w (w.alloc (.cells (tbA t a) 33))) := (Below.refl _ _).alloc (Nat.le_refl _) _
  have HX0 : Hid (TBx (w.alloc (.cells (tbA t a) 33)) w.heap.size t a) := TBx.new w t a _ rfl
  have k14 : (w.alloc (.cells (tbA t a) 33)).cell? ⟨w.heap.size, 14, none⟩ = some (.int .i64 t.maj) := HX0.out.cell 14 rfl
  clear hm hw hs ht HZ HP HQ HR1 HR2
  go_enter Tryz.func59, Tryz.ntmps59
  go_wp2
  revert HB0 HX0 k14
  generalize w.alloc (.cells (tbA t a) 33) = V
  intro HB0 HX0 k14
  have G14 := fun X => gr_cell (W0 := V) k14 X
  have HXX : Hid (∀ w', (∃ X : Gr V, w' = X.w) → w'.heap[w.heap.size]? = some (.cells (tbA t a) 33 (0, 0))) := fun w' hX => by
    obtain ⟨X, rfl⟩ := hX
    exact HX0.out.below X.h
  have HD3 : Hid (∀ X : Gr V, Calls Tryz.prog 86 #[tbV t a, .int .i64 x, .int .i64 t.maj] X.w fun e w' => e = .returned (.int .i64 r1) ∧ Below X.w.heap.size X.w w') := fun X => HC3.out _ (HB0.out.trans (X.h.mono HB0.out.size))
  have HD4 : Hid (∀ X : Gr V, Calls Tryz.prog 86 #[tbV t a, .int .i64 x, .int .i64 p] X.w fun e w' => e = .returned (.int .i64 r2) ∧ Below X.w.heap.size X.w w') := fun X => HC4.out _ (HB0.out.trans (X.h.mono HB0.out.size))
  have hgr := gr_some V
  refine region_alike (by kernel_rfl) (by kernel_rfl) ?_
  repeat (first | (refine wpQuiet_load_row rfl 33 (.tmp 3) rfl w.heap.size rfl 33 (tbA t a) (0, 0) _ HXX.out Tryz.underlying33 rfl (by kernel_rfl) ?_; simp only [Act.put, List.setIfInBounds_toArray, List.set_cons_zero, List.set_cons_succ]) | go_big_quiet_step (first | (go_at_call 85; exact gr_call (HC1.out _)) | (go_at_call 87; exact gr_call (HC2.out _)) | (go_at_call_of 86 (Value.int IntKind.i64 p); exact gr_call (HD4.out _)) | (go_at_call_of 86 (Value.int IntKind.i64 t.maj); exact gr_call (HD3.out _))))
  refine wpQuiet_nil ?_
  intro _ hw'
  obtain ⟨X1, rfl⟩ := hw'
  have HB2 : Hid (Below w.heap.size w X1.w) := HB0.out.trans (X1.h.mono HB0.out.size)
  generalize X1.w = W2 at HB2 ⊢
  clear G14 hgr HXX HD3 HD4 HC1 HC2 HC3 HC4 k14 HX0 HB0
  try rw [hw1]
  try rw [hw3]
  go_wp2
  go_ret
  exact ⟨ret_int HZ2.out, HB2.out⟩
set_option maxRecDepth 40000 in
set_option maxHeartbeats 4000000 in
theorem impl_cyclesof (t : Tb) (a : Ad) (x y z : Int) (w : World) (hm : TM 0 w t a) (hw : TW t a) (hs : TS a) (he : TabE w) (hcp : a.pn ≤ a.pc) (hcs : a.sn ≤ a.sc) :
    Calls Tryz.prog 26 #[tbV t a, .int .i64 x, .int .i64 y, .int .i64 z] w fun e w' => (∃ r : Int, e = .returned (.int .i64 r) ∧ CR t x y z r) ∧ Below w.heap.size w w' := by
  obtain ⟨q, hq⟩ := told ((Sd t ∧ IsC y) ∧ IsC z)
  have HB0 : Hid (Below w.heap.size w (w.alloc (.cells (tbA t a) 33))) := (Below.refl _ _).alloc (Nat.le_refl _) _
  have HX0 : Hid (TBx (w.alloc (.cells (tbA t a) 33)) w.heap.size t a) := TBx.new w t a _ rfl
  have hbA : Below (w.alloc (.cells (tbA t a) 33)).heap.size (w.alloc (.cells (tbA t a) 33)) ((w.alloc (.cells (tbA t a) 33)).alloc (.cells #[.int .i64 y, .int .i64 z] 3)) := (Below.refl _ _).alloc (Nat.le_refl _) _
  have HBA : Hid (Below w.heap.size w ((w.alloc (.cells (tbA t a) 33)).alloc (.cells #[.int .i64 y, .int .i64 z] 3))) := HB0.out.trans (hbA.mono HB0.out.size)
  have HXA : Hid (TBx ((w.alloc (.cells (tbA t a) 33)).alloc (.cells #[.int .i64 y, .int .i64 z] 3)) w.heap.size t a) := HX0.out.below hbA
  have KA : Hid (GSeg 1 ((w.alloc (.cells (tbA t a) 33)).alloc (.cells #[.int .i64 y, .int .i64 z] 3)) (some ⟨w.heap.size + 1, 0, none⟩) 2 (inX [y, z])) := fun _ => ⟨w.heap.size + 1, 0, rfl, by simp, fun i hi => by
    have g := CellsAt.new (w.alloc (.cells (tbA t a) 33)) [.int .i64 y, .int .i64 z] 3 (w.heap.size + 1) (by simp)
    have : i = 0 ∨ i = 1 := by omega
    rcases this with rfl | rfl
    · intro j v hj
      cases j with
      | zero => exact g 0 v hj
      | succ j => simp [inX] at hj
    · intro j v hj
      cases j with
      | zero => exact g 1 v hj
      | succ j => simp [inX] at hj⟩
  have HK : Hid (Calls Tryz.prog 48 #[tbV t a, .slice (some ⟨w.heap.size + 1, 0, none⟩) 2 2] ((w.alloc (.cells (tbA t a) 33)).alloc (.cells #[.int .i64 y, .int .i64 z] 3)) fun e w' => e = .returned (.bool q) ∧ Below ((w.alloc (.cells (tbA t a) 33)).alloc (.cells #[.int .i64 y, .int .i64 z] 3)).heap.size ((w.alloc (.cells (tbA t a) 33)).alloc (.cells #[.int .i64 y, .int .i64 z] 3)) w') :=
    keeps t a [y, z] 2 2 _ q _ (hm.below HBA.out) hw hs (he.below HBA.out) hcp KA.out (by omega) (hq.trans ⟨fun h => ⟨fun i hi => by
      have : i = 0 ∨ i = 1 := by omega
      rcases this with rfl | rfl
      · exact h.1.2
      · exact h.2, h.1.1⟩, fun h => ⟨⟨h.2, h.1 0 (by omega)⟩, h.1 1 (by omega)⟩⟩)
  have HCA : Hid (Sd t → ∀ c, IsC c → ∀ X, Below w.heap.size w X → Calls Tryz.prog 59 #[tbV t a, .int .i64 x, .int .i64 c] X fun e w' => e = .returned (.int .i64 (aheadV t x c)) ∧ Below X.heap.size X w') := fun h c hc X hX => cycles_ahead t a x c X (hm.below hX) hw hs (sd_tm h) hc.1 hc.2
  have HQ : Hid (q = true ↔ ((Sd t ∧ IsC y) ∧ IsC z)) := hq
  clear hm hw hs hq he hcp hcs KA hbA
  by_cases hyz : z < y
  · have HT : Hid (CR t x y z 0) := .inl ⟨fun h => by have := h.2.2.1; omega, rfl⟩
    clear HK HCA HQ HXA HBA HX0
    go_enter Tryz.func26, Tryz.ntmps26
    go_wp2
    go_ret
    exact ⟨⟨_, rfl, HT.out⟩, HB0.out⟩
  go_enter Tryz.func26, Tryz.ntmps26
  go_wp2_with (first | (refine wpList_load_rowG rfl 33 (.tmp 4) rfl w.heap.size rfl 33 (tbA t a) (0, 0) _ HX0.out Tryz.underlying33 rfl (by kernel_rfl) ?_) | fail)
  refine Calls.mono HK.out ?_
  rintro e V ⟨rfl, hb1⟩
  have HB1 : Hid (Below w.heap.size w V) := HBA.out.trans (hb1.mono HBA.out.size)
  have HX1 : Hid (TBx V w.heap.size t a) := HXA.out.below hb1
  clear hb1 HBA HXA HK HX0 HB0
  cases q
  · have HT : Hid (CR t x y z 0) := .inl ⟨fun h => (by have := HQ.out.2 ⟨h.1, h.2.1⟩; cases this), rfl⟩
    clear HQ HCA HX1
    go_wp2
    go_ret
    exact ⟨⟨_, rfl, HT.out⟩, HB1.out⟩
  have HT : Hid ((Sd t ∧ IsC y) ∧ IsC z) := HQ.out.1 rfl
  have HTM : Tm t := sd_tm HT.out.1.1
  have HCY : Hid (∀ X : Gr V, Calls Tryz.prog 59 #[tbV t a, .int .i64 x, .int .i64 y] X.w fun e w' => e = .returned (.int .i64 (aheadV t x y)) ∧ Below X.w.heap.size X.w w') := fun X => HCA.out HT.out.1.1 y HT.out.1.2 _ (HB1.out.trans (X.h.mono HB1.out.size))
  have HCZ : Hid (∀ X : Gr V, Calls Tryz.prog 59 #[tbV t a, .int .i64 x, .int .i64 z] X.w fun e w' => e = .returned (.int .i64 (aheadV t x z)) ∧ Below X.w.heap.size X.w w') := fun X => HCA.out HT.out.1.1 z HT.out.2 _ (HB1.out.trans (X.h.mono HB1.out.size))
  have hy := HT.out.1.2
  have hz := HT.out.2
  unfold IsC at hy hz
  have HRR : Hid (CR t x y z (aheadV t x z - aheadV t x y) ∧ (0 ≤ aheadV t x z ∧ aheadV t x z ≤ 50000) ∧ (0 ≤ aheadV t x y ∧ aheadV t x y ≤ 50000)) := by
    by_cases hx : 0 ≤ x ∧ x < (t.ps.length : Int)
    · have e1 := ahead_num HTM hx.1 z.toNat
      have e2 := ahead_num HTM hx.1 y.toNat
      rw [Int.toNat_of_nonneg hz.1] at e1
      rw [Int.toNat_of_nonneg hy.1] at e2
      have b1 := numB_bound t x z.toNat
      have b2 := numB_bound t x y.toNat
      refine ⟨.inr ⟨⟨HT.out.1, HT.out.2, by omega, hx.1, hx.2⟩, by rw [e1, e2]⟩, by rw [e1]; omega, by rw [e2]; omega⟩
    · have hno : ∀ i, i < t.ss.length → (t.ss.getD i sl0).1 ≠ x := fun i hi e => hx (e ▸ HTM.pt i hi)
      have e1 : aheadV t x z = 0 := by unfold aheadV; rw [run_no hno, run_no hno]; simp
      have e2 : aheadV t x y = 0 := by unfold aheadV; rw [run_no hno, run_no hno]; simp
      rw [e1, e2]
      exact ⟨.inl ⟨fun h => hx h.2.2.2, by omega⟩, by omega, by omega⟩
  obtain ⟨u, HU⟩ : ∃ u, Hid (aheadV t x z = u) := ⟨_, rfl⟩
  obtain ⟨v, HV⟩ : ∃ v, Hid (aheadV t x y = v) := ⟨_, rfl⟩
  rw [HU.out] at HCZ HRR
  rw [HV.out] at HCY HRR
  have hu := HRR.out.2.1
  have hv := HRR.out.2.2
  have hw1 : IntKind.i64.wrap (u - v) = u - v := by rw [IntKind.wrap_i64]; omega
  clear HU HV HCA HQ HTM hy hz
  have HXX : Hid (∀ w', (∃ X : Gr V, w' = X.w) → w'.heap[w.heap.size]? = some (.cells (tbA t a) 33 (0, 0))) := fun w' hX => by
    obtain ⟨X, rfl⟩ := hX
    exact HX1.out.below X.h
  by_cases hne : y = z
  · subst hne
    go_wp2
    have hgr := gr_some V
    refine region_alike (by kernel_rfl) (by kernel_rfl) ?_
    repeat (first | (refine wpQuiet_load_row rfl 33 (.tmp 4) rfl w.heap.size rfl 33 (tbA t a) (0, 0) _ HXX.out Tryz.underlying33 rfl (by kernel_rfl) ?_; simp only [Act.put, List.setIfInBounds_toArray, List.set_cons_zero, List.set_cons_succ]) | go_big_quiet_step (first | (go_at_call 59; exact gr_call (HCZ.out _))))
    refine wpQuiet_nil ?_
    intro _ hw'
    obtain ⟨X1, rfl⟩ := hw'
    have HB2 : Hid (Below w.heap.size w X1.w) := HB1.out.trans (X1.h.mono HB1.out.size)
    generalize X1.w = Wz at HB2 ⊢
    have HZ : Hid (CR t x y y 0) := by
      by_cases hx : 0 ≤ x ∧ x < (t.ps.length : Int)
      · exact .inr ⟨⟨HT.out.1, HT.out.2, Int.le_refl _, hx.1, hx.2⟩, by omega⟩
      · exact .inl ⟨fun h => hx h.2.2.2, rfl⟩
    clear hgr HXX HCY HCZ
    go_wp2
    go_ret
    exact ⟨⟨_, rfl, by first | exact HZ.out | (rw [Int.sub_self]; exact HZ.out)⟩, HB2.out⟩
  · go_wp2
    have hgr := gr_some V
    refine region_alike (by kernel_rfl) (by kernel_rfl) ?_
    repeat (first | (refine wpQuiet_load_row rfl 33 (.tmp 4) rfl w.heap.size rfl 33 (tbA t a) (0, 0) _ HXX.out Tryz.underlying33 rfl (by kernel_rfl) ?_; simp only [Act.put, List.setIfInBounds_toArray, List.set_cons_zero, List.set_cons_succ]) | go_big_quiet_step (first | (go_at_call_of 59 (Value.int IntKind.i64 y); exact gr_call (HCY.out _)) | (go_at_call_of 59 (Value.int IntKind.i64 z); exact gr_call (HCZ.out _))))
    refine wpQuiet_nil ?_
    intro _ hw'
    obtain ⟨X1, rfl⟩ := hw'
    have HB2 : Hid (Below w.heap.size w X1.w) := HB1.out.trans (X1.h.mono HB1.out.size)
    generalize X1.w = Wz at HB2 ⊢
    clear hgr HXX HCY HCZ
    try rw [hw1]
    go_wp2
    go_ret
    exact ⟨⟨_, rfl, HRR.out.1⟩, HB2.out⟩
end Go.Proofs.YtlomcdgfcocmmaaGreatDoor
