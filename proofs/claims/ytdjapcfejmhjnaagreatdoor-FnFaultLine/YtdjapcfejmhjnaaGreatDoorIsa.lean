/-
  What the small functions of the instructions' chapter return: the form of an op, an instruction with the fields that a form lacks set to 0, a field's range; the specification's and the program's own. Condition: the program's table of forms lies in memory as the program's text lays it.
-/
import Derived.Test.YtdjapcfejmhjnaaGreatDoorProg
import Derived.Test.YtdjapcfejmhjnaaGreatDoorSegs
import Derived.Below
import Derived.Deep.RegionWith
import Derived.BigRegion
namespace Go.Proofs.YtdjapcfejmhjnaaGreatDoor
open Go.ChangeShapes Go.WideShapes Go.ChangeAt Go.RowKit
set_option linter.unusedVariables false

def forms : List Int := [0, 7, 7, 7, 7, 7, 7, 7, 7, 7, 7, 7, 7, 11, 9, 11, 11, 11, 11, 11, 11, 11, 9, 10, 1, 11, 11, 11, 9, 9, 0, 0, 8]
def form (op : Int) : Int := forms.getD op.toNat 0
/-- The table of forms, as the program lays it, lies in block 0. -/
def Tab (w : World) : Prop := ∀ i, i < 33 → w.cell? ⟨1, i, none⟩ = some (.int .i64 (forms.getD i 0))
theorem Tab.below {w w' : World} (h : Tab w) (hb : Below w.heap.size w w') : Tab w' := fun i hi =>
  (hb.cell (p := ⟨1, i, none⟩) (World.block_lt_of_cell? w _ (h i hi))).trans (h i hi)
theorem cells_new (w : World) (cs : List Int) (T : TypeId) (i : Nat) (hi : i < cs.length) :
    (w.alloc (.cells (cs.map (Value.int .i64)).toArray T)).cell? ⟨w.heap.size, i, none⟩ = some (.int .i64 (cs.getD i 0)) := by
  simp [hi]

theorem in_yes (x a b : Int) (w : World) (h1 : a ≤ x) (h2 : x ≤ b) : Calls Tryz.prog 61 #[.int .i64 x, .int .i64 a, .int .i64 b] w fun e w' => e = .returned (.bool true) ∧ w' = w := by
  go_enter Tryz.func61, Tryz.ntmps61
  go_wp2
  go_ret
  exact ⟨rfl, rfl⟩
theorem in_no (x a b : Int) (w : World) (h : ¬ (a ≤ x ∧ x ≤ b)) : Calls Tryz.prog 61 #[.int .i64 x, .int .i64 a, .int .i64 b] w fun e w' => e = .returned (.bool false) ∧ w' = w := by
  go_enter Tryz.func61, Tryz.ntmps61
  by_cases h1 : a ≤ x
  · have h2 : ¬ x ≤ b := fun h2 => h ⟨h1, h2⟩
    go_wp2
    go_ret
    exact ⟨rfl, rfl⟩
  · go_wp2
    go_ret
    exact ⟨rfl, rfl⟩
theorem isOp_yes (x : Int) (w : World) (h1 : 0 ≤ x) (h2 : x < 33) : Calls Tryz.prog 88 #[.int .i64 x] w fun e w' => e = .returned (.bool true) ∧ w' = w := by
  go_enter Tryz.func88, Tryz.ntmps88
  go_wp2
  go_ret
  exact ⟨rfl, rfl⟩
theorem isOp_no (x : Int) (w : World) (h : ¬ (0 ≤ x ∧ x < 33)) : Calls Tryz.prog 88 #[.int .i64 x] w fun e w' => e = .returned (.bool false) ∧ w' = w := by
  go_enter Tryz.func88, Tryz.ntmps88
  by_cases h1 : 0 ≤ x
  · have h2 : ¬ x < 33 := fun h2 => h ⟨h1, h2⟩
    go_wp2
    go_ret
    exact ⟨rfl, rfl⟩
  · go_wp2
    go_ret
    exact ⟨rfl, rfl⟩
theorem spec_forms (w : World) : Calls Tryz.prog 62 #[] w fun e w' => e = .returned (.slice (some ⟨w.heap.size, 0, none⟩) 33 33) ∧ Below w.heap.size w w' ∧ ∀ i, i < 33 → w'.cell? ⟨w.heap.size, i, none⟩ = some (.int .i64 (forms.getD i 0)) := by
  go_enter Tryz.func62, Tryz.ntmps62
  go_wp2
  go_ret
  exact ⟨rfl, (Below.refl _ _).alloc (Nat.le_refl _) _, fun i hi => cells_new w forms 3 i hi⟩
theorem spec_form (k : Nat) (f : Int) (w : World) (hk : k < 33) (hf : forms.getD k 0 = f) :
    Calls Tryz.prog 39 #[.int .i64 k] w fun e w' => e = .returned (.int .i64 f) ∧ Below w.heap.size w w' := by
  have HF : Hid _ := hf
  clear hf
  go_enter Tryz.func39, Tryz.ntmps39
  go_wp2_with fail
  refine (in_yes _ _ _ _ (by omega) (by omega)).mono ?_
  rintro e w1 ⟨rfl, rfl⟩
  go_wp2_with fail
  refine (spec_forms _).mono ?_
  rintro e w2 ⟨rfl, hb, hc⟩
  have hk' := hc k hk
  rw [HF.out] at hk'
  clear hc
  go_wp2
  go_ret
  exact ⟨rfl, hb⟩
theorem spec_form_no (x : Int) (w : World) (h : ¬ (0 ≤ x ∧ x ≤ 32)) :
    Calls Tryz.prog 39 #[.int .i64 x] w fun e w' => e = .returned (.int .i64 (-1)) ∧ w' = w := by
  have H : Hid _ := h
  clear h
  go_enter Tryz.func39, Tryz.ntmps39
  go_wp2_with fail
  refine (in_no _ _ _ _ H.out).mono ?_
  rintro e w1 ⟨rfl, rfl⟩
  go_wp2
  go_ret
  exact ⟨rfl, rfl⟩

/-! ### Instructions -/
abbrev ins (op a b c m : Int) : Value := .agg #[.int .i64 op, .int .i64 a, .int .i64 b, .int .i64 c, .int .i64 m]
def kp (f bit x : Int) : Int := if bits .and .i64 f bit == 0 then 0 else x
abbrev row (op a b c m : Int) : Obj := .cells #[.int .i64 op, .int .i64 a, .int .i64 b, .int .i64 c, .int .i64 m] 46
theorem kept (op a b c m f : Int) (w : World) : Calls Tryz.prog 90 #[ins op a b c m, .int .i64 f] w fun e w' => e = .returned (ins op (kp f 1 a) (kp f 2 b) (kp f 4 c) (kp f 8 m)) ∧
    w' = (w.alloc (row op (kp f 1 a) (kp f 2 b) (kp f 4 c) (kp f 8 m))).alloc (row op (kp f 1 a) (kp f 2 b) (kp f 4 c) (kp f 8 m)) := by
  unfold kp
  go_enter Tryz.func90, Tryz.ntmps90
  go_wp2
  all_goals exact bodyPost_ret (by simp [results, Tryz.results90, go_sem]) rfl ⟨rfl, rfl⟩
theorem reg_yes (x : Int) (w : World) (h1 : 0 ≤ x) (h2 : x ≤ 15) : Calls Tryz.prog 116 #[.int .i64 x] w fun e w' => e = .returned (.bool true) ∧ w' = w := by
  go_enter Tryz.func116, Tryz.ntmps116
  go_wp2
  go_ret
  exact ⟨rfl, rfl⟩
theorem reg_no (x : Int) (w : World) (h : ¬ (0 ≤ x ∧ x ≤ 15)) : Calls Tryz.prog 116 #[.int .i64 x] w fun e w' => e = .returned (.bool false) ∧ w' = w := by
  go_enter Tryz.func116, Tryz.ntmps116
  by_cases h1 : 0 ≤ x
  · have h2 : ¬ x ≤ 15 := fun h2 => h ⟨h1, h2⟩
    go_wp2
    go_ret
    exact ⟨rfl, rfl⟩
  · go_wp2
    go_ret
    exact ⟨rfl, rfl⟩
theorem range_yes (op a b c m : Int) (w : World) (h1 : 0 ≤ a) (h2 : a ≤ 15) (h3 : 0 ≤ b) (h4 : b ≤ 15) (h5 : 0 ≤ c) (h6 : c ≤ 15) (h7 : -8192 ≤ m) (h8 : m ≤ 8191) :
    Calls Tryz.prog 89 #[ins op a b c m] w fun e w' => e = .returned (.bool true) ∧ w' = w.alloc (row op a b c m) := by
  go_enter Tryz.func89, Tryz.ntmps89
  go_wp2_with fail
  refine (reg_yes _ _ h1 h2).mono ?_
  rintro e w1 ⟨rfl, rfl⟩
  go_wp2_with fail
  refine (reg_yes _ _ h3 h4).mono ?_
  rintro e w1 ⟨rfl, rfl⟩
  go_wp2_with fail
  refine (reg_yes _ _ h5 h6).mono ?_
  rintro e w1 ⟨rfl, rfl⟩
  go_wp2
  go_ret
  exact ⟨rfl, rfl⟩
theorem range_no (op a b c m : Int) (w : World) (h : ¬ (0 ≤ a ∧ a ≤ 15 ∧ 0 ≤ b ∧ b ≤ 15 ∧ 0 ≤ c ∧ c ≤ 15 ∧ -8192 ≤ m ∧ m ≤ 8191)) :
    Calls Tryz.prog 89 #[ins op a b c m] w fun e w' => e = .returned (.bool false) ∧ w' = w.alloc (row op a b c m) := by
  have H : Hid _ := h
  clear h
  go_enter Tryz.func89, Tryz.ntmps89
  by_cases hA : 0 ≤ a ∧ a ≤ 15
  · have HA : Hid _ := hA
    clear hA
    go_wp2_with fail
    refine (reg_yes _ _ HA.out.1 HA.out.2).mono ?_
    rintro e w1 ⟨rfl, rfl⟩
    by_cases hB : 0 ≤ b ∧ b ≤ 15
    · have HB : Hid _ := hB
      clear hB
      go_wp2_with fail
      refine (reg_yes _ _ HB.out.1 HB.out.2).mono ?_
      rintro e w1 ⟨rfl, rfl⟩
      by_cases hC : 0 ≤ c ∧ c ≤ 15
      · have HC : Hid _ := hC
        clear hC
        go_wp2_with fail
        refine (reg_yes _ _ HC.out.1 HC.out.2).mono ?_
        rintro e w1 ⟨rfl, rfl⟩
        by_cases h7 : -8192 ≤ m
        · have h8 : ¬ m ≤ 8191 := fun h8 => H.out ⟨HA.out.1, HA.out.2, HB.out.1, HB.out.2, HC.out.1, HC.out.2, h7, h8⟩
          go_wp2
          go_ret
          exact ⟨ret_bool (decide_eq_false (by omega)), rfl⟩
        · go_wp2
          go_ret
          exact ⟨rfl, rfl⟩
      · have HC : Hid _ := hC
        clear hC
        go_wp2_with fail
        refine (reg_no _ _ HC.out).mono ?_
        rintro e w1 ⟨rfl, rfl⟩
        go_wp2
        go_ret
        exact ⟨rfl, rfl⟩
    · have HB : Hid _ := hB
      clear hB
      go_wp2_with fail
      refine (reg_no _ _ HB.out).mono ?_
      rintro e w1 ⟨rfl, rfl⟩
      go_wp2
      go_ret
      exact ⟨rfl, rfl⟩
  · have HA : Hid _ := hA
    clear hA
    go_wp2_with fail
    refine (reg_no _ _ HA.out).mono ?_
    rintro e w1 ⟨rfl, rfl⟩
    go_wp2
    go_ret
    exact ⟨rfl, rfl⟩
def fld (f bit x lo hi : Int) : Bool := if (f / bit % 2 == 0) = true then x == 0 else decide (lo ≤ x) && decide (x ≤ hi)
theorem field (f bit x lo hi : Int) (v : Bool) (w : World) (hf : 0 ≤ f) (hf1 : f < 16) (hb : 1 ≤ bit) (hv : fld f bit x lo hi = v) :
    Calls Tryz.prog 60 #[.int .i64 f, .int .i64 bit, .int .i64 x, .int .i64 lo, .int .i64 hi] w fun e w' => e = .returned (.bool v) ∧ w' = w := by
  have HV : Hid _ := hv
  clear hv
  unfold fld at HV
  have e : ((f / bit).tmod 2 == 0) = (f / bit % 2 == 0) := by rw [Int.tmod_eq_emod_of_nonneg (Int.ediv_nonneg hf (by omega))]
  by_cases hq : (f / bit % 2 == 0) = true
  · rw [if_pos hq] at HV
    rw [hq] at e
    clear hq
    go_enter Tryz.func60, Tryz.ntmps60
    go_wp2
    go_ret
    exact ⟨ret_bool HV.out, rfl⟩
  · rw [if_neg hq] at HV
    rw [Bool.not_eq_true] at hq
    rw [hq] at e
    clear hq
    by_cases h : lo ≤ x ∧ x ≤ hi
    · have hh : Hid _ := h
      clear h
      go_enter Tryz.func60, Tryz.ntmps60
      go_wp2_with fail
      refine (in_yes _ _ _ _ hh.out.1 hh.out.2).mono ?_
      rintro e w1 ⟨rfl, rfl⟩
      go_wp2
      go_ret
      exact ⟨ret_bool (by rw [← HV.out]; simp [hh.out.1, hh.out.2]), rfl⟩
    · have hh : Hid _ := h
      clear h
      go_enter Tryz.func60, Tryz.ntmps60
      go_wp2_with fail
      refine (in_no _ _ _ _ hh.out).mono ?_
      rintro e w1 ⟨rfl, rfl⟩
      go_wp2
      go_ret
      refine ⟨ret_bool (by rw [← HV.out]; have := hh.out; rw [← Bool.decide_and, eq_comm, decide_eq_false_iff_not]; exact this), rfl⟩
end Go.Proofs.YtdjapcfejmhjnaaGreatDoor
