/-
  Costs: whether they are right, what an access costs; the specification's and the program's own functions answer alike. No conditions but those that each fact names.
  What an access costs, and the worst of all: the specification's and the program's own functions answer alike. No conditions but those that each fact names.
  The worst access: the specification's and the program's own functions answer alike. No conditions but those that each fact names.
-/
import Derived.Test.YtlomcdgfcocmmaaGreatDoorBas
import Derived.Test.YtlomcdgfcocmmaaGreatDoorProg
import Derived.Below
import Derived.Deep.RegionWith
import Derived.BigRegion
import Derived.BigQuiet
import Derived.Deep.AppendLies
import Derived.OwnWalk
namespace Go.Proofs.YtlomcdgfcocmmaaGreatDoor
open Go.ChangeShapes Go.WideShapes Go.ChangeAt Go.RowKit
set_option linter.unusedVariables false

abbrev cst (b m e s k t l : Int) : Value := .agg #[.int .i64 b, .int .i64 m, .int .i64 e, .int .i64 s, .int .i64 k, .int .i64 t, .int .i64 l]
abbrev crow (T : TypeId) (b m e s k t l : Int) : Obj := .cells #[.int .i64 b, .int .i64 m, .int .i64 e, .int .i64 s, .int .i64 k, .int .i64 t, .int .i64 l] T
abbrev acc (x y z : Bool) : Value := .agg #[.bool x, .bool y, .bool z]
def costsOk (b m e s k t l : Int) : Bool := inr b 1 20 && (inr m 0 50 && (inr e 0 50 && (inr s 0 50 && (inr k 0 50 && (inr t 0 50 && inr l 0 50)))))
theorem costsOk_parts {b m e s k t l : Int} (h : costsOk b m e s k t l = true) :
    (1 ≤ b ∧ b ≤ 20) ∧ (0 ≤ m ∧ m ≤ 50) ∧ (0 ≤ e ∧ e ≤ 50) ∧ (0 ≤ s ∧ s ≤ 50) ∧ (0 ≤ k ∧ k ≤ 50) ∧ (0 ≤ t ∧ t ≤ 50) ∧ (0 ≤ l ∧ l ≤ 50) := by
  unfold costsOk at h
  simp only [Bool.and_eq_true] at h
  exact ⟨of_inr h.1, of_inr h.2.1, of_inr h.2.2.1, of_inr h.2.2.2.1, of_inr h.2.2.2.2.1, of_inr h.2.2.2.2.2.1, of_inr h.2.2.2.2.2.2⟩

set_option maxHeartbeats 400000 in
theorem spec_cok (b m e s k t l : Int) (w : World) : Calls Tryz.prog 89 #[cst b m e s k t l] w fun x w' => x = .returned (.bool (costsOk b m e s k t l)) ∧ w' = w.alloc (crow 27 b m e s k t l) := by
  obtain ⟨q1, Q1⟩ : ∃ q, Hid (inr b 1 20 = q) := ⟨_, rfl⟩
  obtain ⟨q2, Q2⟩ : ∃ q, Hid (inr m 0 50 = q) := ⟨_, rfl⟩
  obtain ⟨q3, Q3⟩ : ∃ q, Hid (inr e 0 50 = q) := ⟨_, rfl⟩
  obtain ⟨q4, Q4⟩ : ∃ q, Hid (inr s 0 50 = q) := ⟨_, rfl⟩
  obtain ⟨q5, Q5⟩ : ∃ q, Hid (inr k 0 50 = q) := ⟨_, rfl⟩
  obtain ⟨q6, Q6⟩ : ∃ q, Hid (inr t 0 50 = q) := ⟨_, rfl⟩
  obtain ⟨q7, Q7⟩ : ∃ q, Hid (inr l 0 50 = q) := ⟨_, rfl⟩
  unfold costsOk
  rw [Q1.out, Q2.out, Q3.out, Q4.out, Q5.out, Q6.out, Q7.out]
  go_enter Tryz.func89, Tryz.ntmps89
  go_wp2_with fail
  refine (in_any b 1 20 _).mono ?_
  rintro x w1 ⟨rfl, rfl⟩
  rw [Q1.out]
  cases q1
  · go_wp2; go_ret; exact ⟨rfl, rfl⟩
  go_wp2_with fail
  refine (in_any m 0 50 _).mono ?_
  rintro x w1 ⟨rfl, rfl⟩
  rw [Q2.out]
  cases q2
  · go_wp2; go_ret; exact ⟨rfl, rfl⟩
  go_wp2_with fail
  refine (in_any e 0 50 _).mono ?_
  rintro x w1 ⟨rfl, rfl⟩
  rw [Q3.out]
  cases q3
  · go_wp2; go_ret; exact ⟨rfl, rfl⟩
  go_wp2_with fail
  refine (in_any s 0 50 _).mono ?_
  rintro x w1 ⟨rfl, rfl⟩
  rw [Q4.out]
  cases q4
  · go_wp2; go_ret; exact ⟨rfl, rfl⟩
  go_wp2_with fail
  refine (in_any k 0 50 _).mono ?_
  rintro x w1 ⟨rfl, rfl⟩
  rw [Q5.out]
  cases q5
  · go_wp2; go_ret; exact ⟨rfl, rfl⟩
  go_wp2_with fail
  refine (in_any t 0 50 _).mono ?_
  rintro x w1 ⟨rfl, rfl⟩
  rw [Q6.out]
  cases q6
  · go_wp2; go_ret; exact ⟨rfl, rfl⟩
  go_wp2_with fail
  refine (in_any l 0 50 _).mono ?_
  rintro x w1 ⟨rfl, rfl⟩
  rw [Q7.out]
  cases q7 <;> (go_wp2; go_ret; exact ⟨rfl, rfl⟩)
theorem idx0 (e f g h i j : Value) (w : World) : (Instr.index 151 (.agg #[e, f, g, h, i, j]) (.int .i64 0)).run Tryz.prog w = .ok e w := by kernel_rfl
theorem idx1 (e f g h i j : Value) (w : World) : (Instr.index 151 (.agg #[e, f, g, h, i, j]) (.int .i64 1)).run Tryz.prog w = .ok f w := by kernel_rfl
theorem idx2 (e f g h i j : Value) (w : World) : (Instr.index 151 (.agg #[e, f, g, h, i, j]) (.int .i64 2)).run Tryz.prog w = .ok g w := by kernel_rfl
theorem idx3 (e f g h i j : Value) (w : World) : (Instr.index 151 (.agg #[e, f, g, h, i, j]) (.int .i64 3)).run Tryz.prog w = .ok h w := by kernel_rfl
theorem idx4 (e f g h i j : Value) (w : World) : (Instr.index 151 (.agg #[e, f, g, h, i, j]) (.int .i64 4)).run Tryz.prog w = .ok i w := by kernel_rfl
theorem idx5 (e f g h i j : Value) (w : World) : (Instr.index 151 (.agg #[e, f, g, h, i, j]) (.int .i64 5)).run Tryz.prog w = .ok j w := by kernel_rfl
set_option maxHeartbeats 1000000 in
theorem impl_cok (b m e s k t l : Int) (w : World) : Calls Tryz.prog 120 #[cst b m e s k t l] w fun x w' => x = .returned (.bool (costsOk b m e s k t l)) ∧ w' = w.alloc (crow 27 b m e s k t l) := by
  obtain ⟨q, Q⟩ : ∃ q, Hid (costsOk b m e s k t l = q) := ⟨_, rfl⟩
  rw [Q.out]
  by_cases hb : 1 ≤ b ∧ b ≤ 20
  rotate_left
  · have HQ : Hid (q = false) := by
      have := Q.out
      unfold costsOk at this
      rw [inr_no hb] at this
      exact this.symm
    by_cases h1 : 1 ≤ b
    · have h2 : ¬ b ≤ 20 := fun h => hb ⟨h1, h⟩
      rw [HQ.out]
      clear hb
      go_enter Tryz.func120, Tryz.ntmps120
      go_wp2
      go_ret
      exact ⟨rfl, rfl⟩
    · rw [HQ.out]
      clear hb
      go_enter Tryz.func120, Tryz.ntmps120
      go_wp2
      go_ret
      exact ⟨rfl, rfl⟩
  obtain ⟨hb1, hb2⟩ := hb
  go_enter Tryz.func120, Tryz.ntmps120
  go_wp2_with fail
  refine wp_loop_rounds 7 ?_
  rw [rounds_succ]
  have hx := idx0 (.int .i64 m) (.int .i64 e) (.int .i64 s) (.int .i64 k) (.int .i64 t) (.int .i64 l)
  by_cases hm : 0 ≤ m ∧ m ≤ 50
  rotate_left
  · have HQ : Hid (q = false) := by
      have := Q.out
      unfold costsOk at this
      rw [inr_yes ⟨hb1, hb2⟩, inr_no hm] at this
      exact this.symm
    by_cases h1 : 0 ≤ m
    · have h2 : ¬ m ≤ 50 := fun h => hm ⟨h1, h⟩
      clear hm
      go_wp2
      go_ret
      exact ⟨ret_bool HQ.out.symm, rfl⟩
    · clear hm
      go_wp2
      go_ret
      exact ⟨ret_bool HQ.out.symm, rfl⟩
  obtain ⟨hm1, hm2⟩ := hm
  go_wp2
  clear hx
  rw [rounds_succ]
  have hx := idx1 (.int .i64 m) (.int .i64 e) (.int .i64 s) (.int .i64 k) (.int .i64 t) (.int .i64 l)
  by_cases he : 0 ≤ e ∧ e ≤ 50
  rotate_left
  · have HQ : Hid (q = false) := by
      have := Q.out
      unfold costsOk at this
      rw [inr_yes ⟨hb1, hb2⟩, inr_yes ⟨hm1, hm2⟩, inr_no he] at this
      exact this.symm
    by_cases h1 : 0 ≤ e
    · have h2 : ¬ e ≤ 50 := fun h => he ⟨h1, h⟩
      clear he
      go_wp2
      go_ret
      exact ⟨ret_bool HQ.out.symm, rfl⟩
    · clear he
      go_wp2
      go_ret
      exact ⟨ret_bool HQ.out.symm, rfl⟩
  obtain ⟨he1, he2⟩ := he
  go_wp2
  clear hx
  rw [rounds_succ]
  have hx := idx2 (.int .i64 m) (.int .i64 e) (.int .i64 s) (.int .i64 k) (.int .i64 t) (.int .i64 l)
  by_cases hs : 0 ≤ s ∧ s ≤ 50
  rotate_left
  · have HQ : Hid (q = false) := by
      have := Q.out
      unfold costsOk at this
      rw [inr_yes ⟨hb1, hb2⟩, inr_yes ⟨hm1, hm2⟩, inr_yes ⟨he1, he2⟩, inr_no hs] at this
      exact this.symm
    by_cases h1 : 0 ≤ s
    · have h2 : ¬ s ≤ 50 := fun h => hs ⟨h1, h⟩
      clear hs
      go_wp2
      go_ret
      exact ⟨ret_bool HQ.out.symm, rfl⟩
    · clear hs
      go_wp2
      go_ret
      exact ⟨ret_bool HQ.out.symm, rfl⟩
  obtain ⟨hs1, hs2⟩ := hs
  go_wp2
  clear hx
  rw [rounds_succ]
  have hx := idx3 (.int .i64 m) (.int .i64 e) (.int .i64 s) (.int .i64 k) (.int .i64 t) (.int .i64 l)
  by_cases hk : 0 ≤ k ∧ k ≤ 50
  rotate_left
  · have HQ : Hid (q = false) := by
      have := Q.out
      unfold costsOk at this
      rw [inr_yes ⟨hb1, hb2⟩, inr_yes ⟨hm1, hm2⟩, inr_yes ⟨he1, he2⟩, inr_yes ⟨hs1, hs2⟩, inr_no hk] at this
      exact this.symm
    by_cases h1 : 0 ≤ k
    · have h2 : ¬ k ≤ 50 := fun h => hk ⟨h1, h⟩
      clear hk
      go_wp2
      go_ret
      exact ⟨ret_bool HQ.out.symm, rfl⟩
    · clear hk
      go_wp2
      go_ret
      exact ⟨ret_bool HQ.out.symm, rfl⟩
  obtain ⟨hk1, hk2⟩ := hk
  go_wp2
  clear hx
  rw [rounds_succ]
  have hx := idx4 (.int .i64 m) (.int .i64 e) (.int .i64 s) (.int .i64 k) (.int .i64 t) (.int .i64 l)
  by_cases ht : 0 ≤ t ∧ t ≤ 50
  rotate_left
  · have HQ : Hid (q = false) := by
      have := Q.out
      unfold costsOk at this
      rw [inr_yes ⟨hb1, hb2⟩, inr_yes ⟨hm1, hm2⟩, inr_yes ⟨he1, he2⟩, inr_yes ⟨hs1, hs2⟩, inr_yes ⟨hk1, hk2⟩, inr_no ht] at this
      exact this.symm
    by_cases h1 : 0 ≤ t
    · have h2 : ¬ t ≤ 50 := fun h => ht ⟨h1, h⟩
      clear ht
      go_wp2
      go_ret
      exact ⟨ret_bool HQ.out.symm, rfl⟩
    · clear ht
      go_wp2
      go_ret
      exact ⟨ret_bool HQ.out.symm, rfl⟩
  obtain ⟨ht1, ht2⟩ := ht
  go_wp2
  clear hx
  rw [rounds_succ]
  have hx := idx5 (.int .i64 m) (.int .i64 e) (.int .i64 s) (.int .i64 k) (.int .i64 t) (.int .i64 l)
  by_cases hl : 0 ≤ l ∧ l ≤ 50
  rotate_left
  · have HQ : Hid (q = false) := by
      have := Q.out
      unfold costsOk at this
      rw [inr_yes ⟨hb1, hb2⟩, inr_yes ⟨hm1, hm2⟩, inr_yes ⟨he1, he2⟩, inr_yes ⟨hs1, hs2⟩, inr_yes ⟨hk1, hk2⟩, inr_yes ⟨ht1, ht2⟩, inr_no hl] at this
      exact this.symm
    by_cases h1 : 0 ≤ l
    · have h2 : ¬ l ≤ 50 := fun h => hl ⟨h1, h⟩
      clear hl
      go_wp2
      go_ret
      exact ⟨ret_bool HQ.out.symm, rfl⟩
    · clear hl
      go_wp2
      go_ret
      exact ⟨ret_bool HQ.out.symm, rfl⟩
  obtain ⟨hl1, hl2⟩ := hl
  go_wp2
  clear hx
  have HQ : Hid (q = true) := by
    have := Q.out
    unfold costsOk at this
    rw [inr_yes ⟨hb1, hb2⟩, inr_yes ⟨hm1, hm2⟩, inr_yes ⟨he1, he2⟩, inr_yes ⟨hs1, hs2⟩, inr_yes ⟨hk1, hk2⟩, inr_yes ⟨ht1, ht2⟩, inr_yes ⟨hl1, hl2⟩] at this
    exact this.symm
  rw [rounds_succ]
  go_wp2
  go_ret
  exact ⟨ret_bool HQ.out.symm, rfl⟩
end Go.Proofs.YtlomcdgfcocmmaaGreatDoor
namespace Go.Proofs.YtlomcdgfcocmmaaGreatDoor
open Go.ChangeShapes Go.WideShapes Go.ChangeAt Go.RowKit
set_option linter.unusedVariables false

def ac (s k l : Int) (x y z : Bool) : Int := (if x then 0 else s) + (if y then 0 else k) + (if z then l else 0)
theorem ac_range {s k l : Int} (x y z : Bool) (hs : 0 ≤ s ∧ s ≤ 50) (hk : 0 ≤ k ∧ k ≤ 50) (hl : 0 ≤ l ∧ l ≤ 50) : 0 ≤ ac s k l x y z ∧ ac s k l x y z ≤ 150 := by
  unfold ac; cases x <;> cases y <;> cases z <;> simp <;> omega
def accessCost (b m e s k t l : Int) (x y z : Bool) : Int := if costsOk b m e s k t l then ac s k l x y z else -1
abbrev arow (x y z : Bool) : Obj := .cells #[.bool x, .bool y, .bool z] 148
theorem of_access (b m e s k t l : Int) (x y z : Bool) (w : World) (hs1 : 0 ≤ s) (hs2 : s ≤ 50) (hk1 : 0 ≤ k) (hk2 : k ≤ 50) (hl1 : 0 ≤ l) (hl2 : l ≤ 50) :
    Calls Tryz.prog 202 #[cst b m e s k t l, acc x y z] w fun r w' => r = .returned (.int .i64 (ac s k l x y z)) ∧ w' = (w.alloc (crow 27 b m e s k t l)).alloc (arow x y z) := by
  cases x <;> cases y <;> cases z
  all_goals
    go_enter Tryz.func202, Tryz.ntmps202
    go_wp2
    go_ret
    exact ⟨ret_int (by simp [ac]), rfl⟩
theorem spec_access (b m e s k t l : Int) (x y z : Bool) (w : World) :
    Calls Tryz.prog 170 #[cst b m e s k t l, acc x y z] w fun r w' => r = .returned (.int .i64 (accessCost b m e s k t l x y z)) ∧ Below w.heap.size w w' := by
  obtain ⟨q, Q⟩ : ∃ q, Hid (costsOk b m e s k t l = q) := ⟨_, rfl⟩
  have hb : Below w.heap.size w (((w.alloc (crow 27 b m e s k t l)).alloc (arow x y z)).alloc (crow 27 b m e s k t l)) :=
    (((Below.refl _ _).alloc (Nat.le_refl _) _).alloc (by simp) _).alloc (by simp; omega) _
  have HB : Hid _ := hb
  clear hb
  cases q
  · have HE : Hid (accessCost b m e s k t l x y z = -1) := by show _ = _; unfold accessCost; rw [Q.out]; rfl
    rw [HE.out]
    go_enter Tryz.func170, Tryz.ntmps170
    go_wp2_with fail
    refine (spec_cok b m e s k t l _).mono ?_
    rintro r w1 ⟨rfl, rfl⟩
    rw [Q.out]
    go_wp2
    go_ret
    exact ⟨rfl, HB.out⟩
  · obtain ⟨_, _, _, ⟨hs1, hs2⟩, ⟨hk1, hk2⟩, _, ⟨hl1, hl2⟩⟩ := costsOk_parts Q.out
    have HE : Hid (accessCost b m e s k t l x y z = ac s k l x y z) := by show _ = _; unfold accessCost; rw [Q.out]; rfl
    rw [HE.out]
    clear HE
    cases x <;> cases y <;> cases z
    all_goals
      go_enter Tryz.func170, Tryz.ntmps170
      go_wp2_with fail
      refine (spec_cok b m e s k t l _).mono ?_
      rintro r w1 ⟨rfl, rfl⟩
      rw [Q.out]
      go_wp2
      go_ret
      exact ⟨ret_int (by simp [ac]), HB.out⟩
/-! ### The greatest of some numbers -/
def most (z : Int) : List Int → Int
  | [] => z
  | x :: xs => most (if z < x then x else z) xs
theorem most_snoc (z : Int) (xs : List Int) (x : Int) : most z (xs ++ [x]) = if most z xs < x then x else most z xs := by
  induction xs generalizing z with
  | nil => rfl
  | cons y ys ih => exact ih _
theorem take_snoc (zs : List Int) (k : Nat) (h : k < zs.length) : zs.take (k + 1) = zs.take k ++ [zs.getD k 0] := by
  rw [List.take_add_one]
  simp [h, List.getD]
set_option maxHeartbeats 400000 in
theorem greatest (z : Int) (a : Option Addr) (cap : Nat) (zs : List Int) (w : World) (ha : Seg .i64 w a zs) (hn : zs.length ≤ 1048576) :
    Calls Tryz.prog 189 #[.int .i64 z, .slice a zs.length cap] w fun e w' => e = .returned (.int .i64 (most z zs)) ∧ w' = w := by
  obtain ⟨n, Hn⟩ : ∃ n, Hid (n = zs.length) := ⟨_, rfl⟩
  have hn' : n ≤ 1048576 := by rw [Hn.out]; exact hn
  rw [← Hn.out]
  have HA : Hid _ := ha
  clear hn ha
  go_enter Tryz.func189, Tryz.ntmps189
  go_wp2
  go_loopw [5, 11] (fun v i wr => wr = w ∧ ∃ k : Nat, k ≤ n ∧ i = .int .i64 k ∧ ∃ q, v = .int .i64 q ∧ Hid (most z (zs.take k) = q)) (fun _ i _ => n - (intOf i).toNat)
  case atStart => exact ⟨rfl, 0, by omega, rfl, z, rfl, rfl⟩
  case round =>
    obtain ⟨rfl, k, hk, rfl, q, rfl, HR⟩ := hrel
    by_cases hkn : k < n
    · obtain ⟨B, off, rfl, hlt, hc0⟩ := HA.out (by rw [← Hn.out]; omega)
      have hc := hc0 k (by rw [← Hn.out]; omega)
      have HS : Hid _ := take_snoc zs k (by rw [← Hn.out]; omega)
      clear hc0 hlt
      generalize zs.getD k 0 = u at hc HS
      by_cases hu : q < u
      · go_wp2
        go_roundw
        case rel => exact ⟨trivial, k + 1, by omega, by go_num, u, rfl, by show _ = _; rw [HS.out, most_snoc, HR.out, if_pos hu]⟩
        case measure => simp [intOf]; omega
      · go_wp2
        go_roundw
        case rel => exact ⟨trivial, k + 1, by omega, by go_num, q, rfl, by show _ = _; rw [HS.out, most_snoc, HR.out, if_neg hu]⟩
        case measure => simp [intOf]; omega
    · obtain rfl : k = n := by omega
      have HF : Hid (most z zs = q) := by show _ = _; rw [← HR.out, Hn.out, List.take_length]
      go_wp2
      go_ret
      exact ⟨ret_int HF.out.symm, rfl⟩
end Go.Proofs.YtlomcdgfcocmmaaGreatDoor
namespace Go.Proofs.YtlomcdgfcocmmaaGreatDoor
open Go.ChangeShapes Go.WideShapes Go.ChangeAt Go.RowKit
set_option linter.unusedVariables false

/-! ### A list that the call owns -/
theorem info3 : (Tryz.prog.info? 3).map (fun i => (i.zero, i.size, i.bytes)) = some (some (.int .i64 0), 1, 8) := by kernel_rfl
theorem info3' : ∃ i, Tryz.prog.info? 3 = some i ∧ i.zero = some (.int .i64 0) ∧ i.size = 1 ∧ i.bytes = 8 := by
  obtain ⟨i, hi, h⟩ := Option.map_eq_some_iff.1 info3
  simp only [Prod.mk.injEq] at h
  exact ⟨i, hi, h.1, h.2.1, h.2.2⟩
/-- A list that the call owns, from block 'base' on. -/
def OwnL (w : World) (base : Nat) (v : Value) (zs : List Int) : Prop := w.ownsRow base 3 1 v zs.length (zs.map (Value.int .i64))
theorem OwnL.nil (w : World) : OwnL (w.alloc (.cells #[] 3)) w.heap.size (.slice (some ⟨w.heap.size, 0, none⟩) 0 0) [] :=
  ⟨rfl, .inr ⟨w.heap.size, 0, #[], rfl, Nat.le_refl _, by show (w.heap.push _)[w.heap.size]? = _; simp, Nat.le_refl _, by simp, rfl, rfl⟩⟩
theorem OwnL.seg {w : World} {base : Nat} {v : Value} {zs : List Int} (h : OwnL w base v zs) : ∃ a cap, v = .slice a zs.length cap ∧ Seg .i64 w a zs := by
  rcases h.2 with ⟨h0, h1⟩ | ⟨g, cap, cur, rfl, hb, hg, h1, h2, h3, h4⟩
  · exact ⟨none, 0, by rw [h0, h1], fun h => absurd h (by omega)⟩
  · refine ⟨_, _, rfl, fun h0 => ⟨g, 0, rfl, ?_, fun i hi => ?_⟩⟩
    · rcases Nat.lt_or_ge g w.heap.size with hlt | hge
      · exact hlt
      · rw [Array.getElem?_eq_none hge] at hg; cases hg
    · rw [Nat.zero_add]
      have e : cur[i]? = some (.int .i64 (zs.getD i 0)) := by
        have := congrArg (·[i]?) h4
        simp only [Nat.mul_one] at this
        rw [List.getElem?_take, if_pos hi] at this
        simpa [hi, List.getD] using this
      simp [World.cell?, hg, e]
theorem OwnL.block {w : World} {base : Nat} {v : Value} {zs : List Int} (h : OwnL w base v zs) : ∀ k, v.ownBlock = some k → base ≤ k := by
  rcases h.2 with ⟨h0, h1⟩ | ⟨g, cap, cur, rfl, hb, hg, h1, h2, h3, h4⟩
  · subst h0; intro k hk; cases hk
  · intro k hk; cases hk; exact hb
theorem OwnL.snoc {w : World} {base g cap : Nat} {zs : List Int} {r : Int} (h : w.ownsRow base 3 1 (.slice (some ⟨g, 0, none⟩) (zs.length + 1) cap) (zs.length + 1) (zs.map (Value.int .i64) ++ [.int .i64 r])) :
    OwnL w base (.slice (some ⟨g, 0, none⟩) (zs.length + 1) cap) (zs ++ [r]) := by
  unfold OwnL
  simpa using h
theorem news1 (w : World) (v : Value) : ∀ j u, [v][j]? = some u → (w.alloc (.cells #[v] 3)).cell? ((⟨w.heap.size, 0, none⟩ : Addr).add j) = some u :=
  World.news_of_block (cs := #[v]) (t := 3) (fr := (0, 0)) (by show (w.heap.push _)[w.heap.size]? = _; simp)
theorem news2 (w : World) (v : Value) (B : Nat) (h : B = w.heap.size) : ∀ j u, [v][j]? = some u → (w.alloc (.cells #[v] 3)).cell? ((⟨B, 0, none⟩ : Addr).add j) = some u := by subst h; exact news1 w v
theorem one1 (r : Int) : ∀ u ∈ [Value.int .i64 r], u.oneCell' = true := by
  intro u hu
  simp only [List.mem_singleton] at hu
  subst hu
  rfl

/-! ### All accesses -/
def fl (n : Nat) : Bool := decide (n = 1)
def acAt (s k l : Int) (n : Nat) : Int := ac s k l (fl (n / 4)) (fl (n / 2 % 2)) (fl (n % 2))
def acs (s k l : Int) (n : Nat) : List Int := (List.range n).map fun i => acAt s k l i
theorem acs_len (s k l : Int) (n : Nat) : (acs s k l n).length = n := by simp [acs]
theorem acs_succ (s k l : Int) (n : Nat) : acs s k l (n + 1) = acs s k l n ++ [acAt s k l n] := by
  unfold acs
  rw [List.range_succ, List.map_append]
  rfl
theorem acAt_of (s k l : Int) (i j h : Nat) (hi : i < 2) (hj : j < 2) (hh : h < 2) : acAt s k l (4 * i + 2 * j + h) = ac s k l (fl i) (fl j) (fl h) := by
  unfold acAt
  rw [show (4 * i + 2 * j + h) / 4 = i by omega, show (4 * i + 2 * j + h) / 2 % 2 = j by omega, show (4 * i + 2 * j + h) % 2 = h by omega]
theorem most_is (M : Int) : ∀ (zs : List Int) (z : Int), z ≤ M → (∀ x ∈ zs, x ≤ M) → (M ∈ zs ∨ z = M) → most z zs = M
  | [], z, h1, h2, h3 => by
    rcases h3 with h | h
    · cases h
    · exact h
  | x :: xs, z, h1, h2, h3 => by
    have hx : x ≤ M := h2 x (by simp)
    unfold most
    refine most_is M xs _ (by split <;> omega) (fun y hy => h2 y (by simp [hy])) ?_
    rcases h3 with h | h
    · rcases List.mem_cons.1 h with e | e
      · exact .inr (by split <;> omega)
      · exact .inl e
    · exact .inr (by split <;> omega)
theorem acs_most (s k l : Int) (hs : 0 ≤ s) (hk : 0 ≤ k) (hl : 0 ≤ l) : most 0 (acs s k l 8) = s + k + l := by
  refine most_is _ _ _ (by omega) (fun x hx => ?_) (.inl ?_)
  · unfold acs at hx
    obtain ⟨i, _, rfl⟩ := List.mem_map.1 hx
    unfold acAt ac
    cases fl (i / 4) <;> cases fl (i / 2 % 2) <;> cases fl (i % 2) <;> simp <;> omega
  · exact List.mem_map.2 ⟨1, by simp, by simp [acAt, ac, fl]⟩
theorem cell_alloc {w : World} {a : Addr} {v : Value} {o : Obj} (h : w.cell? a = some v) : (w.alloc o).cell? a = some v :=
  (((Below.refl _ w).alloc (Nat.le_refl _) o).cell (World.block_lt_of_cell? w _ h)).trans h
/-- What the three readings of the flags keep. -/
structure St (b m e s k t l : Int) (w wr : World) (v : Value) (n : Nat) : Prop where
  below : Below w.heap.size w wr
  own : OwnL wr (w.heap.size + 2) v (acs s k l n)
  row : ∀ i u, (#[.int .i64 b, .int .i64 m, .int .i64 e, .int .i64 s, .int .i64 k, .int .i64 t, .int .i64 l] : Array Value)[i]? = some u → wr.cell? ⟨w.heap.size, i, none⟩ = some u
  flag : ∀ i, i < 2 → wr.cell? ⟨w.heap.size + 1, i, none⟩ = some (.bool (fl i))
  size : w.heap.size + 3 ≤ wr.heap.size
theorem St.start (b m e s k t l : Int) (w : World) :
    St b m e s k t l w (((w.alloc (crow 27 b m e s k t l)).alloc (.cells #[.bool false, .bool true] 4)).alloc (.cells #[] 3)) (.slice (some ⟨w.heap.size + 2, 0, none⟩) 0 0) 0 := by
  refine ⟨(((Below.refl _ _).alloc (Nat.le_refl _) _).alloc (by simp) _).alloc (by simp; omega) _, ?_, fun i u h => ?_, fun i h => ?_, by simp⟩
  · have := OwnL.nil ((w.alloc (crow 27 b m e s k t l)).alloc (.cells #[.bool false, .bool true] 4))
    simpa [acs] using this
  · exact cell_alloc (cell_alloc (new_cell w _ 27 i u h))
  · have := new_cell (w.alloc (crow 27 b m e s k t l)) #[.bool false, .bool true] 4 i (.bool (fl i)) (by
      match i, h with
      | 0, _ => rfl
      | 1, _ => rfl)
    exact cell_alloc (by simpa using this)
theorem St.next {b m e s k t l : Int} {w wr w1 : World} {v v1 : Value} {n : Nat} (h : St b m e s k t l w wr v n) (hb : Below (w.heap.size + 2) wr w1) (ho : OwnL w1 (w.heap.size + 2) v1 (acs s k l n ++ [acAt s k l n])) : St b m e s k t l w w1 v1 (n + 1) :=
  ⟨h.below.trans (hb.mono (by omega)), by rw [acs_succ]; exact ho, fun i u hu => (hb.cell (p := ⟨w.heap.size, i, none⟩) (by show w.heap.size < _; omega)).trans (h.row i u hu),
    fun i hi => (hb.cell (p := ⟨w.heap.size + 1, i, none⟩) (by show w.heap.size + 1 < _; omega)).trans (h.flag i hi), Nat.le_trans h.size hb.size⟩
set_option maxHeartbeats 1000000 in
theorem all_accesses (b m e s k t l : Int) (w : World) (hs1 : 0 ≤ s) (hs2 : s ≤ 50) (hk1 : 0 ≤ k) (hk2 : k ≤ 50) (hl1 : 0 ≤ l) (hl2 : l ≤ 50) :
    Calls Tryz.prog 196 #[cst b m e s k t l] w fun r w' => ∃ a cap, r = .returned (.slice a 8 cap) ∧ Seg .i64 w' a (acs s k l 8) ∧ Below w.heap.size w w' := by
  obtain ⟨i3, hi3, hz3, hs3, hb3⟩ := info3'
  have HI : Hid _ := And.intro hi3 (And.intro hz3 (And.intro hs3 hb3))
  clear hi3 hz3 hs3 hb3
  have HT : Hid ((0 ≤ s ∧ s ≤ 50) ∧ (0 ≤ k ∧ k ≤ 50) ∧ (0 ≤ l ∧ l ≤ 50)) := ⟨⟨hs1, hs2⟩, ⟨hk1, hk2⟩, hl1, hl2⟩
  clear hs1 hs2 hk1 hk2 hl1 hl2
  go_enter Tryz.func196, Tryz.ntmps196
  go_wp2
  go_loopw [4, 15] (fun v x wr => ∃ i : Nat, i ≤ 2 ∧ x = .int .i64 i ∧ Hid (St b m e s k t l w wr v (4 * i))) (fun _ x _ => 2 - (intOf x).toNat)
  case atStart => exact ⟨0, by omega, rfl, St.start b m e s k t l w⟩
  case round =>
    obtain ⟨i, hi, rfl, HR⟩ := hrel
    by_cases hit : i < 2
    · have hf := HR.out.flag i hit
      go_wp2
      rw [show decide ((i : Int) < 2) = true from decide_eq_true (by omega)]
      go_loopw [4, 21] (fun v x wr => ∃ j : Nat, j ≤ 2 ∧ x = .int .i64 j ∧ Hid (St b m e s k t l w wr v (4 * i + 2 * j))) (fun _ x _ => 2 - (intOf x).toNat)
      case atStart => exact ⟨0, by omega, rfl, HR.out⟩
      case round =>
        obtain ⟨j, hj, rfl, HR⟩ := hrel
        by_cases hjt : j < 2
        · have hf := HR.out.flag j hjt
          go_wp2
          rw [show decide ((j : Int) < 2) = true from decide_eq_true (by omega)]
          go_loopw [4, 27] (fun v x wr => ∃ h : Nat, h ≤ 2 ∧ x = .int .i64 h ∧ Hid (St b m e s k t l w wr v (4 * i + 2 * j + h))) (fun _ x _ => 2 - (intOf x).toNat)
          case atStart => exact ⟨0, by omega, rfl, HR.out⟩
          case round =>
            obtain ⟨h, hh, rfl, HR⟩ := hrel
            by_cases hht : h < 2
            · have hf := HR.out.flag h hht
              have hrow := HR.out.row
              have d0 := hrow 0 _ rfl
              have d1 := hrow 1 _ rfl
              have d2 := hrow 2 _ rfl
              have d3 := hrow 3 _ rfl
              have d4 := hrow 4 _ rfl
              have d5 := hrow 5 _ rfl
              have d6 := hrow 6 _ rfl
              clear hrow
              obtain ⟨⟨hs1, hs2⟩, ⟨hk1, hk2⟩, hl1, hl2⟩ := HT.out
              have hown := HR.out.own
              have hsz := HR.out.size
              have hlen := acs_len s k l (4 * i + 2 * j + h)
              have HE : Hid _ := acAt_of s k l i j h hit hjt hht
              have HH : Hid (4 * i + 2 * j + h ≤ 8) := by show _ ≤ _; omega
              have HO : Hid _ := HR.out.own.block
              generalize hN : 4 * i + 2 * j + h = N at HR hown hlen HE HH HO
              have HL : Hid (N + 1 = 4 * i + 2 * j + (h + 1)) := by show _ = _; omega
              obtain ⟨zs, HZ⟩ : ∃ zs, Hid (acs s k l N = zs) := ⟨_, rfl⟩
              rw [HZ.out] at hown hlen
              go_wp2_with fail
              refine (of_access b m e s k t l (fl i) (fl j) (fl h) _ hs1 hs2 hk1 hk2 hl1 hl2).mono ?_
              rintro r w1 ⟨rfl, rfl⟩
              clear hs1 hs2 hk1 hk2 hl1 hl2
              go_wp2_with (at_builtin; go_loud (refine wpList_append_lies _ rfl (.tmp 31) (.tmp 38) 29 rfl (w.heap.size + 2) 3 i3 (.int .i64 0) 1 8 Tryz.underlying29 HI.out.1 HI.out.2.1 HI.out.2.2.1 HI.out.2.2.2 rfl (by omega) _ _ _ rfl (World.ownsRow.alloc (World.ownsRow.alloc (World.ownsRow.alloc hown _) _) _) _ 1 1 [.int .i64 (ac s k l (fl i) (fl j) (fl h))] rfl rfl (news2 _ _ _ (by simp)) (one1 _) (by omega) (by have := HH.out; unfold maxLen; omega) (by have := HH.out; omega) (by simp; omega) _ rfl ?_; intro g cap1 w1 hown1 hgrow hat hlt1))
              go_roundw
              case rel =>
                refine ⟨h + 1, by omega, by go_num, ?_⟩
                show St b m e s k t l w _ _ _
                rw [← HL.out]
                refine HR.out.next ?_ ?_
                · exact (((((Below.refl (w.heap.size + 2) wr).alloc (by omega) _).alloc (by simp; omega) _).alloc (by simp; omega) _).grown hgrow (by simp; omega) HO.out)
                · have := OwnL.snoc hown1; rw [hlen] at this; rw [HE.out, HZ.out]; exact this
              case measure => simp [intOf]; omega
            · obtain rfl : h = 2 := by omega
              go_wp2
              go_roundw
              case rel => exact ⟨j + 1, by omega, by go_num, by have := HR.out; rwa [show 4 * i + 2 * j + 2 = 4 * i + 2 * (j + 1) by omega] at this⟩
              case measure => simp [intOf]; omega
        · obtain rfl : j = 2 := by omega
          go_wp2
          go_roundw
          case rel => exact ⟨i + 1, by omega, by go_num, by have := HR.out; rwa [show 4 * i + 2 * 2 = 4 * (i + 1) by omega] at this⟩
          case measure => simp [intOf]; omega
    · obtain rfl : i = 2 := by omega
      obtain ⟨a, cap, rfl, hseg⟩ := HR.out.own.seg
      rw [acs_len]
      have HS : Hid _ := And.intro hseg HR.out.below
      clear HR hseg
      go_wp2
      go_ret
      exact ⟨a, cap, rfl, HS.out.1, HS.out.2⟩
def worstAccess (b m e s k t l : Int) : Int := if costsOk b m e s k t l then s + k + l else -1
set_option maxHeartbeats 400000 in
theorem impl_worstA (b m e s k t l : Int) (w : World) :
    Calls Tryz.prog 191 #[cst b m e s k t l] w fun r w' => r = .returned (.int .i64 (worstAccess b m e s k t l)) ∧ Below w.heap.size w w' := by
  obtain ⟨q, Q⟩ : ∃ q, Hid (costsOk b m e s k t l = q) := ⟨_, rfl⟩
  have hb : Below w.heap.size w ((w.alloc (crow 27 b m e s k t l)).alloc (crow 27 b m e s k t l)) :=
    ((Below.refl _ _).alloc (Nat.le_refl _) _).alloc (by simp) _
  have HB : Hid _ := hb
  clear hb
  cases q
  · have HE : Hid (worstAccess b m e s k t l = -1) := by show _ = _; unfold worstAccess; rw [Q.out]; rfl
    rw [HE.out]
    go_enter Tryz.func191, Tryz.ntmps191
    go_wp2_with fail
    refine (impl_cok b m e s k t l _).mono ?_
    rintro r w1 ⟨rfl, rfl⟩
    rw [Q.out]
    go_wp2
    go_ret
    exact ⟨rfl, HB.out⟩
  · have HT : Hid _ := costsOk_parts Q.out
    have HE : Hid (worstAccess b m e s k t l = s + k + l) := by show _ = _; unfold worstAccess; rw [Q.out]; rfl
    rw [HE.out]
    go_enter Tryz.func191, Tryz.ntmps191
    go_wp2_with fail
    refine (impl_cok b m e s k t l _).mono ?_
    rintro r w1 ⟨rfl, rfl⟩
    rw [Q.out]
    go_wp2_with fail
    refine (all_accesses b m e s k t l _ HT.out.2.2.2.1.1 HT.out.2.2.2.1.2 HT.out.2.2.2.2.1.1 HT.out.2.2.2.2.1.2 HT.out.2.2.2.2.2.2.1 HT.out.2.2.2.2.2.2.2).mono ?_
    rintro r w2 ⟨a, cap, rfl, hseg, hb2⟩
    have HB2 : Hid _ := HB.out.trans (hb2.mono HB.out.size)
    have HG : Hid _ := greatest 0 a cap (acs s k l 8) w2 hseg (by rw [acs_len]; omega)
    rw [acs_len] at HG
    clear hb2 hseg
    go_wp2_with fail
    refine Calls.mono HG.out ?_
    rintro r w3 ⟨rfl, rfl⟩
    rw [acs_most s k l HT.out.2.2.2.1.1 HT.out.2.2.2.2.1.1 HT.out.2.2.2.2.2.2.1]
    go_wp2
    go_ret
    exact ⟨rfl, HB2.out⟩
/-! ### The specification's own -/
def sAt (b m e s k t l : Int) (n : Nat) : Int := accessCost b m e s k t l (fl (n % 2)) (fl (n / 2 % 2)) (fl (n / 4))
def sacs (b m e s k t l : Int) (n : Nat) : List Int := (List.range n).map fun i => sAt b m e s k t l i
theorem sacs_succ (b m e s k t l : Int) (n : Nat) : sacs b m e s k t l (n + 1) = sacs b m e s k t l n ++ [sAt b m e s k t l n] := by
  unfold sacs
  rw [List.range_succ, List.map_append]
  rfl
theorem sacs_most (b m e s k t l : Int) : most (-1) (sacs b m e s k t l 8) = worstAccess b m e s k t l := by
  unfold worstAccess
  by_cases hq : costsOk b m e s k t l = true
  · rw [if_pos hq]
    obtain ⟨_, _, _, ⟨hs1, hs2⟩, ⟨hk1, hk2⟩, _, ⟨hl1, hl2⟩⟩ := costsOk_parts hq
    refine most_is _ _ _ (by omega) (fun x hx => ?_) (.inl ?_)
    · unfold sacs at hx
      obtain ⟨i, _, rfl⟩ := List.mem_map.1 hx
      unfold sAt accessCost ac
      rw [if_pos hq]
      cases fl (i / 4) <;> cases fl (i / 2 % 2) <;> cases fl (i % 2) <;> simp <;> omega
    · exact List.mem_map.2 ⟨4, by simp, by unfold sAt accessCost; rw [if_pos hq]; simp [ac, fl]⟩
  · rw [if_neg hq]
    refine most_is _ _ _ (by omega) (fun x hx => ?_) (.inr rfl)
    unfold sacs at hx
    obtain ⟨i, _, rfl⟩ := List.mem_map.1 hx
    unfold sAt accessCost
    rw [if_neg hq]
    omega
theorem f1 (x : Nat) : ((x : Int) == 1) = fl x := by
  unfold fl
  by_cases g : x = 1
  · subst g; rfl
  · rw [decide_eq_false g]
    simp only [beq_eq_false_iff_ne, ne_eq]
    omega
theorem f2 (n : Nat) : ((n : Int) % 2 == 1) = fl (n % 2) := f1 (n % 2)
theorem f3 (n : Nat) : ((n : Int) / 2 % 2 == 1) = fl (n / 2 % 2) := f1 (n / 2 % 2)
theorem f4 (n : Nat) : ((n : Int) / 4 == 1) = fl (n / 4) := f1 (n / 4)
set_option maxHeartbeats 400000 in
theorem spec_worstA (b m e s k t l : Int) (w : World) :
    Calls Tryz.prog 103 #[cst b m e s k t l] w fun r w' => r = .returned (.int .i64 (worstAccess b m e s k t l)) ∧ Below w.heap.size w w' := by
  have HE : Hid _ := sacs_most b m e s k t l
  rw [← HE.out]
  go_enter Tryz.func103, Tryz.ntmps103
  go_wp2
  go_loopw [3, 4] (fun v x wr => ∃ n : Nat, n ≤ 8 ∧ x = .int .i64 n ∧ ∃ q, v = .int .i64 q ∧ Hid (most (-1) (sacs b m e s k t l n) = q) ∧ Hid (Below w.heap.size w wr ∧ ∀ i u, (#[.int .i64 b, .int .i64 m, .int .i64 e, .int .i64 s, .int .i64 k, .int .i64 t, .int .i64 l] : Array Value)[i]? = some u → wr.cell? ⟨w.heap.size, i, none⟩ = some u) ∧ w.heap.size < wr.heap.size) (fun _ x _ => 8 - (intOf x).toNat)
  case atStart => exact ⟨0, by omega, rfl, -1, rfl, rfl, ⟨(Below.refl _ _).alloc (Nat.le_refl _) _, fun i u h => new_cell w _ 27 i u h⟩, by simp⟩
  case round =>
    obtain ⟨n, hn, rfl, q, rfl, HM, HR, hsz⟩ := hrel
    by_cases hnt : n < 8
    · have hrow := HR.out.2
      have d0 := hrow 0 _ rfl
      have d1 := hrow 1 _ rfl
      have d2 := hrow 2 _ rfl
      have d3 := hrow 3 _ rfl
      have d4 := hrow 4 _ rfl
      have d5 := hrow 5 _ rfl
      have d6 := hrow 6 _ rfl
      clear hrow
      have HA : Hid (∀ w, Calls Tryz.prog 170 #[cst b m e s k t l, acc ((n : Int) % 2 == 1) ((n : Int) / 2 % 2 == 1) ((n : Int) / 4 == 1)] w fun r w' => r = .returned (.int .i64 (sAt b m e s k t l n)) ∧ Below w.heap.size w w') := fun w => by
        rw [f2, f3, f4]; exact spec_access b m e s k t l _ _ _ w
      have HS : Hid _ := sacs_succ b m e s k t l n
      generalize sAt b m e s k t l n = u at HA HS
      go_wp2_with fail
      refine (HA.out _).mono ?_
      rintro r w1 ⟨rfl, hb1⟩
      have HR1 : Hid (Below w.heap.size w w1 ∧ ∀ i u, (#[.int .i64 b, .int .i64 m, .int .i64 e, .int .i64 s, .int .i64 k, .int .i64 t, .int .i64 l] : Array Value)[i]? = some u → w1.cell? ⟨w.heap.size, i, none⟩ = some u) :=
        ⟨HR.out.1.trans (hb1.mono HR.out.1.size), fun i u h => (hb1.cell (p := ⟨w.heap.size, i, none⟩) hsz).trans (HR.out.2 i u h)⟩
      have hsz1 : w.heap.size < w1.heap.size := Nat.lt_of_lt_of_le hsz hb1.size
      clear hb1 HR d0 d1 d2 d3 d4 d5 d6
      by_cases hu : q < u
      · go_wp2
        go_roundw
        case rel => exact ⟨n + 1, by omega, by go_num, u, rfl, by show _ = _; rw [HS.out, most_snoc, HM.out, if_pos hu], HR1.out, hsz1⟩
        case measure => simp [intOf]; omega
      · go_wp2
        go_roundw
        case rel => exact ⟨n + 1, by omega, by go_num, q, rfl, by show _ = _; rw [HS.out, most_snoc, HM.out, if_neg (by omega)], HR1.out, hsz1⟩
        case measure => simp [intOf]; omega
    · obtain rfl : n = 8 := by omega
      go_wp2
      go_ret
      exact ⟨ret_int HM.out.symm, HR.out.1⟩
end Go.Proofs.YtlomcdgfcocmmaaGreatDoor
