/-
  Shapes of a cache: whether one is right; the specification's and the program's own functions answer alike. No conditions but those that each fact names.
  The most lines that a flush can tell: the specification's and the program's own functions answer alike. No conditions.
-/
import Derived.Test.YtlomcdgfcocmmaaGreatDoorBas
import Derived.Test.YtlomcdgfcocmmaaGreatDoorProg
import Derived.Below
import Derived.Deep.RegionWith
import Derived.BigRegion
import Derived.BigQuiet
namespace Go.Proofs.YtlomcdgfcocmmaaGreatDoor
open Go.ChangeShapes Go.WideShapes Go.ChangeAt Go.RowKit
set_option linter.unusedVariables false

abbrev shp (s y l : Int) : Value := .agg #[.int .i64 s, .int .i64 y, .int .i64 l]
abbrev shrow (T : TypeId) (s y l : Int) : Obj := .cells #[.int .i64 s, .int .i64 y, .int .i64 l] T
def setsL : List Int := [1, 2, 4, 8, 16]
def lineL : List Int := [4, 8, 16, 32]
def shapeOk (s y l : Int) : Bool := setsL.contains s && (lineL.contains l && inr y 1 4)
theorem shapeOk_parts {s y l : Int} (h : shapeOk s y l = true) : (1 ≤ s ∧ s ≤ 16) ∧ (1 ≤ y ∧ y ≤ 4) ∧ (4 ≤ l ∧ l ≤ 32) := by
  unfold shapeOk at h
  simp only [Bool.and_eq_true] at h
  obtain ⟨h1, h2, h3⟩ := h
  have := of_inr h3
  simp [setsL] at h1
  simp [lineL] at h2
  omega

theorem mem_of_getD {zs : List Int} {k : Nat} {x : Int} (hk : k < zs.length) (h : x = zs.getD k 0) : zs.contains x = true := by
  subst h
  exact List.contains_iff_mem.2 (getD_mem zs k hk)
theorem not_mem_of {zs : List Int} {x : Int} (h : ∀ j, j < zs.length → zs.getD j 0 ≠ x) : zs.contains x = false := by
  rw [Bool.eq_false_iff]
  intro c
  obtain ⟨j, hj, e⟩ := List.mem_iff_getElem.1 (List.contains_iff_mem.1 c)
  exact h j hj (by simp [List.getD, hj, e])
set_option maxHeartbeats 400000 in
theorem index_any (a : Option Addr) (cap : Nat) (zs : List Int) (x : Int) (w : World) (hs : Seg .i64 w a zs) (hn : zs.length ≤ 1048576) :
    Calls Tryz.prog 188 #[.slice a zs.length cap, .int .i64 x] w fun e w' => (∃ r : Int, e = .returned (.int .i64 r) ∧ decide (0 ≤ r) = zs.contains x) ∧ w' = w := by
  obtain ⟨n, Hn⟩ : ∃ n, Hid (n = zs.length) := ⟨_, rfl⟩
  have hn' : n ≤ 1048576 := by rw [Hn.out]; exact hn
  rw [← Hn.out]
  clear hn
  obtain ⟨q, HQ⟩ : ∃ q, Hid (zs.contains x = q) := ⟨_, rfl⟩
  rw [HQ.out]
  go_enter Tryz.func188, Tryz.ntmps188
  go_wp2
  go_loopw [8] (fun i wr => ∃ k : Nat, k ≤ n ∧ i = .int .i64 k ∧ wr = w ∧ Hid (∀ j, j < k → zs.getD j 0 ≠ x)) (fun i _ => n - (intOf i).toNat)
  case atStart => exact ⟨0, by omega, rfl, rfl, fun j hj => absurd hj (by omega)⟩
  case round =>
    obtain ⟨k, hk, rfl, rfl, HJ⟩ := hrel
    by_cases hlt : k < n
    · have hl : k < zs.length := by rw [← Hn.out]; exact hlt
      obtain ⟨b1, o1, rfl, hbl1, hc1⟩ := hs.at k hl
      have HM : Hid (x = zs.getD k 0 → q = true) := fun e => HQ.out.symm.trans (mem_of_getD hl e)
      have HS : Hid (zs.getD k 0 ≠ x → ∀ j, j < k + 1 → zs.getD j 0 ≠ x) := fun g j hj => by
        by_cases e : j = k
        · subst e; exact g
        · exact HJ.out j (by omega)
      generalize zs.getD k 0 = z at hc1 HM HS
      clear hs hl hbl1
      by_cases hx : x = z
      · have hx' : (x == z) = true := by simpa using hx
        have HT : Hid (q = true) := HM.out hx
        clear hx HM HS HJ
        go_wp2
        go_ret
        refine ⟨⟨_, rfl, ?_⟩, rfl⟩
        rw [HT.out]
        simp
      · have hx' : (x == z) = false := by simpa using hx
        have HT := HS.out (fun e => hx e.symm)
        replace HT : Hid (∀ j, j < k + 1 → zs.getD j 0 ≠ x) := HT
        clear hx HM HS HJ
        go_wp2
        go_roundw
        case rel => exact ⟨k + 1, by omega, by go_num, trivial, HT⟩
        case measure => simp [intOf]; omega
    · go_wp2
      go_ret
      refine ⟨⟨_, rfl, ?_⟩, rfl⟩
      rw [← HQ.out, not_mem_of (fun j hj => HJ.out j (by have := Hn.out; omega))]
      rfl
theorem has_any (a : Option Addr) (cap n : Nat) (zs : List Int) (x : Int) (w : World) (hs : Seg .i64 w a zs) (hnz : zs.length = n) (hn : n ≤ 1048576) :
    Calls Tryz.prog 175 #[.slice a n cap, .int .i64 x] w fun e w' => e = .returned (.bool (zs.contains x)) ∧ w' = w := by
  subst hnz
  have hI := index_any a cap zs x w hs hn
  generalize zs.contains x = q at hI ⊢
  generalize zs.length = n at hI ⊢
  clear hs
  go_enter Tryz.func175, Tryz.ntmps175
  go_wp2_with fail
  refine hI.mono ?_
  rintro e w1 ⟨⟨r, rfl, hr⟩, rfl⟩
  have HR : Hid (decide (0 ≤ r) = q) := hr
  clear hr
  go_wp2
  go_ret
  exact ⟨ret_bool HR.out, rfl⟩
theorem seg_lit (w : World) (zs : List Int) (T : TypeId) : Seg .i64 (w.alloc (.cells (zs.map (Value.int .i64)).toArray T)) (some ⟨w.heap.size, 0, none⟩) zs := by
  intro h0
  refine ⟨w.heap.size, 0, rfl, by simp, fun i hi => ?_⟩
  simp [List.getD, hi]
theorem seg_sets (W : World) (B : Nat) (T : TypeId) (h : W.heap.size = B) : Seg .i64 (W.alloc (.cells #[.int .i64 1, .int .i64 2, .int .i64 4, .int .i64 8, .int .i64 16] T)) (some ⟨B, 0, none⟩) setsL := by
  subst h; exact seg_lit W setsL T
theorem seg_line (W : World) (B : Nat) (T : TypeId) (h : W.heap.size = B) : Seg .i64 (W.alloc (.cells #[.int .i64 4, .int .i64 8, .int .i64 16, .int .i64 32] T)) (some ⟨B, 0, none⟩) lineL := by
  subst h; exact seg_lit W lineL T
set_option maxHeartbeats 1000000 in
theorem impl_shok (s y l : Int) (w : World) : Calls Tryz.prog 116 #[shp s y l] w fun x w' => x = .returned (.bool (shapeOk s y l)) ∧ Below w.heap.size w w' := by
  obtain ⟨q1, Q1⟩ : ∃ q, Hid (setsL.contains s = q) := ⟨_, rfl⟩
  obtain ⟨q2, Q2⟩ : ∃ q, Hid (lineL.contains l = q) := ⟨_, rfl⟩
  obtain ⟨q3, Q3⟩ : ∃ q, Hid (inr y 1 4 = q) := ⟨_, rfl⟩
  unfold shapeOk
  rw [Q1.out, Q2.out, Q3.out]
  go_enter Tryz.func116, Tryz.ntmps116
  go_wp2_with fail
  refine (has_any _ 5 5 setsL s _ (seg_sets _ _ _ (by simp)) rfl (by decide)).mono ?_
  rintro x w1 ⟨rfl, rfl⟩
  rw [Q1.out]
  go_wp2_with fail
  refine (has_any _ 4 4 lineL l _ (seg_line _ _ _ (by simp)) rfl (by decide)).mono ?_
  rintro x w1 ⟨rfl, rfl⟩
  rw [Q2.out]
  have hbel : ∀ o1 o2 o3 : Obj, Below w.heap.size w (((w.alloc o1).alloc o2).alloc o3) := fun o1 o2 o3 => (((Below.refl _ _).alloc (Nat.le_refl _) _).alloc (by simp) _).alloc (by simp; omega) _
  cases q1
  · go_wp2
    go_ret
    exact ⟨rfl, hbel _ _ _⟩
  cases q2
  · go_wp2
    go_ret
    exact ⟨rfl, hbel _ _ _⟩
  by_cases h1 : 1 ≤ y
  rotate_left
  · have HQ : Hid (q3 = false) := Q3.out.symm.trans (inr_no fun h => h1 h.1)
    go_wp2
    go_ret
    exact ⟨ret_bool (by rw [HQ.out]), hbel _ _ _⟩
  go_wp2
  go_ret
  exact ⟨ret_bool (by rw [← Q3.out]; simp [inr, h1]), hbel _ _ _⟩
/-- Where a number stands among a list's, or nowhere: the tests in the walk's own form. -/
theorem sets_cases (s : Int) : (s = 1 ∨ s = 2 ∨ s = 4 ∨ s = 8 ∨ s = 16) ∨ ((s == 1) = false ∧ (s == 2) = false ∧ (s == 4) = false ∧ (s == 8) = false ∧ (s == 16) = false ∧ setsL.contains s = false) := by
  by_cases h : s = 1 ∨ s = 2 ∨ s = 4 ∨ s = 8 ∨ s = 16
  · exact .inl h
  · refine .inr ?_
    simp only [not_or] at h
    simp [setsL, h]
theorem line_cases (s : Int) : (s = 4 ∨ s = 8 ∨ s = 16 ∨ s = 32) ∨ ((s == 4) = false ∧ (s == 8) = false ∧ (s == 16) = false ∧ (s == 32) = false ∧ lineL.contains s = false) := by
  by_cases h : s = 4 ∨ s = 8 ∨ s = 16 ∨ s = 32
  · exact .inl h
  · refine .inr ?_
    simp only [not_or] at h
    simp [lineL, h]
set_option maxHeartbeats 1000000 in
theorem spec_shok (s y l : Int) (w : World) : Calls Tryz.prog 88 #[shp s y l] w fun x w' => x = .returned (.bool (shapeOk s y l)) ∧ Below w.heap.size w w' := by
  obtain ⟨q3, Q3⟩ : ∃ q, Hid (inr y 1 4 = q) := ⟨_, rfl⟩
  have hbel : ∀ o1 : Obj, Below w.heap.size w (w.alloc o1) := fun o1 => (Below.refl _ _).alloc (Nat.le_refl _) _
  obtain ⟨q2, Q2⟩ : ∃ q, Hid (lineL.contains l = q) := ⟨_, rfl⟩
  unfold shapeOk
  rw [Q3.out, Q2.out]
  rcases sets_cases s with (rfl | rfl | rfl | rfl | rfl) | ⟨n1, n2, n3, n4, n5, HS⟩
  rotate_right
  · rw [HS]
    clear HS
    rcases line_cases l with (rfl | rfl | rfl | rfl) | ⟨m1, m2, m3, m4, HL⟩
    rotate_right
    · clear HL
      go_enter Tryz.func88, Tryz.ntmps88
      go_wp2
      go_ret
      exact ⟨rfl, hbel _⟩
    all_goals
      go_enter Tryz.func88, Tryz.ntmps88
      go_wp2
      go_ret
      exact ⟨rfl, hbel _⟩
  all_goals
    rcases line_cases l with (rfl | rfl | rfl | rfl) | ⟨m1, m2, m3, m4, HL⟩
    rotate_right
    · have HL' : Hid (q2 = false) := Q2.out.symm.trans HL
      rw [HL'.out]
      clear HL
      go_enter Tryz.func88, Tryz.ntmps88
      go_wp2
      go_ret
      exact ⟨rfl, hbel _⟩
    all_goals
      obtain rfl : q2 = true := Q2.out.symm.trans (by decide)
      go_enter Tryz.func88, Tryz.ntmps88
      go_wp2_with fail
      refine (in_any y 1 4 _).mono ?_
      rintro x w1 ⟨rfl, rfl⟩
      rw [Q3.out]
      go_wp2
      go_ret
      exact ⟨rfl, hbel _⟩
end Go.Proofs.YtlomcdgfcocmmaaGreatDoor
namespace Go.Proofs.YtlomcdgfcocmmaaGreatDoor
open Go.ChangeShapes Go.WideShapes Go.ChangeAt Go.RowKit
set_option linter.unusedVariables false

def worstD (s y l : Int) : Int := if shapeOk s y l = true then s * y else 0
theorem wrap_small (x : Int) (h : 0 ≤ x ∧ x ≤ 1000000000000) : IntKind.i64.wrap x = x := by go_bits; trivial
theorem sets_mul {s y l : Int} (h : shapeOk s y l = true) : 0 ≤ s * y ∧ s * y ≤ 64 := by
  obtain ⟨⟨h1, h2⟩, ⟨h3, h4⟩, _⟩ := shapeOk_parts h
  have h5 : s * y ≤ 16 * y := Int.mul_le_mul_of_nonneg_right h2 (by omega)
  have h6 : 0 ≤ s * y := Int.mul_nonneg (by omega) (by omega)
  omega
set_option maxHeartbeats 400000 in
theorem impl_wod (s y l : Int) (w : World) : Calls Tryz.prog 194 #[shp s y l] w fun x w' => x = .returned (.int .i64 (worstD s y l)) ∧ Below w.heap.size w w' := by
  obtain ⟨q, Q⟩ : ∃ q, Hid (shapeOk s y l = q) := ⟨_, rfl⟩
  obtain ⟨r, R⟩ : ∃ r, Hid (worstD s y l = r) := ⟨_, rfl⟩
  rw [R.out]
  go_enter Tryz.func194, Tryz.ntmps194
  go_wp2_with fail
  refine (impl_shok s y l _).mono ?_
  rintro x w1 ⟨rfl, hb⟩
  have hb' := ((Below.refl _ w).alloc (Nat.le_refl _) (shrow 25 s y l)).trans (hb.mono (by simp))
  have c0 := (hb.cell (p := ⟨w.heap.size, 0, none⟩) (by simp)).trans (new_cell w _ 25 0 (.int .i64 s) rfl)
  have c1 := (hb.cell (p := ⟨w.heap.size, 1, none⟩) (by simp)).trans (new_cell w _ 25 1 (.int .i64 y) rfl)
  clear hb
  rw [Q.out]
  cases q
  · have HR : Hid (r = 0) := by have h := R.out; unfold worstD at h; rw [Q.out] at h; exact h.symm
    go_wp2
    go_ret
    exact ⟨ret_int HR.out.symm, hb'⟩
  · have HR : Hid (r = s * y) := by have h := R.out; unfold worstD at h; rw [if_pos Q.out] at h; exact h.symm
    have hm := sets_mul Q.out
    have hw : IntKind.i64.wrap (s * y) = s * y := wrap_small _ (by omega)
    clear hm
    go_wp2
    go_ret
    exact ⟨ret_int HR.out.symm, hb'⟩
end Go.Proofs.YtlomcdgfcocmmaaGreatDoor
