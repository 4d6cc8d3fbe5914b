/-
  What a register, a branch, a number and a word are read as: what the program's own readers and the specification's return. Conditions: the texts are at most 1048576 bytes long.
-/
import Derived.Test.YtdjapcfejmhjnaaGreatDoorRl
import Derived.Test.YtdjapcfejmhjnaaGreatDoorCut
import Derived.Test.YtdjapcfejmhjnaaGreatDoorShow
import Derived.Below
namespace Go.Proofs.YtdjapcfejmhjnaaGreatDoor
open Go.ChangeShapes Go.WideShapes Go.ChangeAt Go.RowKit
set_option linter.unusedVariables false
set_option maxRecDepth 20000

theorem ret_val {a b : Value} (h : a = b) : Ending.returned a = .returned b := by rw [h]
namespace Rl
theorem num_dect (l : List Int) (most n : Int) (h0 : 0 ≤ most) (h1 : most ≤ 4294967295) (h : Dc.num l most = some n) : Dc.dect n = l ∧ n ≤ most ∧ -most ≤ n := by
  by_cases hl : 12 ≤ l.length
  · rw [Dc.num_long l most h0 h1 hl] at h
    cases h
  · have key : ∀ o, Dc.held l most o = Dc.num l most → Dc.dect n = l ∧ n ≤ most ∧ -most ≤ n := fun o e => by
      rw [h] at e
      unfold Dc.held at e
      cases o with
      | none => cases e
      | some z =>
        simp only [Option.bind_some] at e
        split at e
        · injection e with e
          subst e
          assumption
        · cases e
    by_cases h45 : l.head? = some 45
    · cases l with
      | nil => cases h45
      | cons b l' =>
        simp only [List.head?_cons, Option.some.injEq] at h45
        subst h45
        exact key _ (Dc.signed l' most h0 (by simp at hl; omega))
    · by_cases hne : l = []
      · subst hne
        rw [Dc.num_nil] at h
        cases h
      · exact key _ (Dc.plain l most h0 (by omega) hne h45)
theorem ans_dect (l : List Int) (most n : Int) (h : Dc.ans l most = some n) : Dc.dect n = l ∧ n ≤ most ∧ -most ≤ n := by
  unfold Dc.ans at h
  split at h
  · exact num_dect l most n (by omega) (by omega) h
  · cases h
theorem reg_hit : ∀ r : Fin 16, reg (⟨#[114]⟩ ++ Tx.txt (Dc.dect r.val)) = some (r.val : Int) := by decide +kernel
theorem reg_back (x : ByteArray) (n : Int) (h : reg x = some n) : 0 ≤ n ∧ n ≤ 15 ∧ x = ⟨#[114]⟩ ++ Tx.txt (Dc.dect n) := by
  unfold reg at h
  split at h
  · rename_i hh
    cases ha : Dc.ans (Tx.nums x).tail 15 with
    | none => rw [ha] at h; cases h
    | some z =>
      rw [ha] at h
      simp only [Option.bind_some] at h
      split at h
      · cases h
      · injection h with h
        subst h
        obtain ⟨e, h1, h2⟩ := ans_dect _ _ _ ha
        refine ⟨by omega, h1, ?_⟩
        have hx : Tx.nums x = 114 :: Dc.dect z := by
          rw [e]
          cases hl : Tx.nums x with
          | nil => rw [hl] at hh; cases hh
          | cons a l => rw [hl] at hh; simp at hh; rw [hh]; rfl
        rw [← Tx.txt_nums x, hx, ← Tx.txt_cons]
        rfl
  · cases h
theorem pre_yes (x : ByteArray) (h : (Tx.nums x).head? = some 114) : Lib.hasPrefix x.data.toList [114] = true ∧ Tx.nums ⟨(Lib.trimPrefix x.data.toList [114]).toArray⟩ = (Tx.nums x).tail ∧ (⟨(Lib.trimPrefix x.data.toList [114]).toArray⟩ : ByteArray).size ≤ x.size := by
  have hz : x.data.toList.length = x.size := rfl
  unfold Tx.nums at h ⊢
  cases hl : x.data.toList with
  | nil => rw [hl] at h; cases h
  | cons a l =>
    rw [hl] at h hz
    simp only [List.map_cons, List.head?_cons, Option.some.injEq] at h
    have ha : a = 114 := by rw [← UInt8.toNat_inj]; simpa using (by omega : a.toNat = 114)
    subst ha
    refine ⟨by simp [Lib.hasPrefix], by simp [Lib.trimPrefix, Lib.hasPrefix], ?_⟩
    show ((Lib.trimPrefix (114 :: l) [114]).toArray).size ≤ x.size
    rw [← hz]
    simp [Lib.trimPrefix, Lib.hasPrefix]
theorem pre_no (x : ByteArray) (h : ¬ (Tx.nums x).head? = some 114) : Lib.hasPrefix x.data.toList [114] = false ∧ (⟨(Lib.trimPrefix x.data.toList [114]).toArray⟩ : ByteArray) = x := by
  have hp : Lib.hasPrefix x.data.toList [114] = false := by
    unfold Tx.nums at h
    cases hl : x.data.toList with
    | nil => rfl
    | cons a l =>
      rw [hl] at h
      simp only [List.map_cons, List.head?_cons, Option.some.injEq] at h
      simp only [Lib.hasPrefix, List.isPrefixOf, Bool.and_true, beq_eq_false_iff_ne]
      intro e
      subst e
      exact h rfl
  refine ⟨hp, ?_⟩
  unfold Lib.trimPrefix
  rw [hp]
  cases x
  simp
end Rl
theorem fixT (o : Option Int) : ∃ (v : Int) (t : Bool), Hid (tell o = .returned (.tuple #[.int .i64 v, .bool t])) ∧ (t = true → o = some v) ∧ (t = false → o = none) := by
  cases o with
  | none => exact ⟨0, false, rfl, (fun h => by cases h), fun _ => rfl⟩
  | some z => exact ⟨z, true, rfl, (fun _ => rfl), (fun h => by cases h)⟩
set_option maxHeartbeats 400000 in
theorem impl_reg_at (x t : ByteArray) (q : Bool) (o : Option Int) (w : World) (ht : t.size ≤ 1048576)
    (HC : Hid (Calls Tryz.prog 141 #[.string x, .string ⟨#[114]⟩] w fun e w' => e = .returned (.tuple #[.string t, .bool q]) ∧ w' = w))
    (HO : Hid (o = if q then (Dc.ans (Tx.nums t) 15).bind fun n => if n < 0 then none else some n else none)) :
    Calls Tryz.prog 124 #[.string x] w fun e w' => e = tell o ∧ Below w.heap.size w w' := by
  obtain ⟨v, b, HV, hb1, hb0⟩ := fixT (Dc.ans (Tx.nums t) 15)
  have HB1 : Hid _ := hb1
  have HB0 : Hid _ := hb0
  clear hb1 hb0
  go_enter Tryz.func124, Tryz.ntmps124
  go_wp2_with fail
  refine Calls.mono HC.out ?_
  rintro e w1 ⟨rfl, rfl⟩
  go_wp2_with fail
  refine (impl_num t 15 _ ht).mono ?_
  rintro e w2 ⟨rfl, hb2⟩
  rw [HV.out]
  cases q
  · have HE : Hid (o = none) := by show _ = _; rw [HO.out]; rfl
    go_wp2
    go_ret2
    exact ⟨tell_none HE.out, hb2⟩
  · cases b
    · have HE : Hid (o = none) := by show _ = _; rw [HO.out, HB0.out rfl]; rfl
      go_wp2
      go_ret2
      exact ⟨tell_none HE.out, hb2⟩
    · by_cases hv : v < 0
      · have HE : Hid (o = none) := by show _ = _; rw [HO.out, HB1.out rfl]; simp [hv]
        go_wp2
        go_ret2
        exact ⟨tell_none HE.out, hb2⟩
      · have HE : Hid (o = some v) := by show _ = _; rw [HO.out, HB1.out rfl]; simp [hv]
        go_wp2
        go_ret2
        exact ⟨tell_some HE.out, hb2⟩
theorem impl_reg (x : ByteArray) (w : World) (hx : x.size ≤ 1048576) : Calls Tryz.prog 124 #[.string x] w fun e w' => e = tell (Rl.reg x) ∧ Below w.heap.size w w' := by
  by_cases h : (Tx.nums x).head? = some 114
  · obtain ⟨h1, h2, h3⟩ := Rl.pre_yes x h
    refine impl_reg_at x _ true _ w (Nat.le_trans h3 hx) ?_ ?_
    · have := Tryz.strings_CutPrefix x ⟨#[114]⟩ w
      rw [h1] at this
      exact this
    · show _ = _
      rw [h2]
      unfold Rl.reg
      rw [if_pos h]
      rfl
  · obtain ⟨h1, h2⟩ := Rl.pre_no x h
    refine impl_reg_at x x false _ w hx ?_ ?_
    · have := Tryz.strings_CutPrefix x ⟨#[114]⟩ w
      rw [h1, h2] at this
      exact this
    · show _ = _
      unfold Rl.reg
      rw [if_neg h]
      rfl
set_option maxHeartbeats 400000 in
theorem spec_reg (x : ByteArray) (w : World) (hx : x.size ≤ 1048576) : Calls Tryz.prog 87 #[.string x] w fun e w' => e = .returned (.int .i64 ((Rl.reg x).getD (-1))) ∧ w' = w := by
  go_enter Tryz.func87, Tryz.ntmps87
  go_wp2
  go_loop [3] (fun i => ∃ k : Nat, k ≤ 16 ∧ i = .int .i64 k ∧ Hid (∀ j : Nat, j < k → Rl.reg x ≠ some (j : Int))) (fun i => 16 - (intOf i).toNat)
  case atStart => exact ⟨0, by omega, rfl, fun j hj => absurd hj (by omega)⟩
  case round =>
    obtain ⟨k, hk, rfl, HN⟩ := hrel
    by_cases hlt : k < 16
    · have hd := Sh.dect_size (k : Int)
      by_cases hr : Rl.reg x = some (k : Int)
      · have HX : Hid ((x.toList == (⟨#[114]⟩ ++ Tx.txt (Dc.dect (k : Int)) : ByteArray).toList) = true) := by
          show _ = _
          rw [← (Rl.reg_back x _ hr).2.2]
          simp
        have HR : Hid ((k : Int) = (Rl.reg x).getD (-1)) := by show _ = _; rw [hr]; rfl
        clear hr
        go_wp2_with fail
        refine (spec_text (k : Int) _ (by omega) (by omega)).mono ?_
        rintro e w1 ⟨rfl, rfl⟩
        generalize Tx.txt (Dc.dect (k : Int)) = d at hd HX
        have hx1 := HX.out
        go_wp2
        go_ret
        exact ⟨ret_int HR.out, rfl⟩
      · have HX : Hid ((x.toList == (⟨#[114]⟩ ++ Tx.txt (Dc.dect (k : Int)) : ByteArray).toList) = false) := by
          refine Tx.list_ne _ _ (fun e => hr ?_)
          have := Rl.reg_hit ⟨k, hlt⟩
          simp only at this
          rw [e]
          exact this
        have HN2 : Hid (∀ j : Nat, j < k + 1 → Rl.reg x ≠ some (j : Int)) := fun j hj => by
          by_cases e : j = k
          · subst e; exact hr
          · exact HN.out j (by omega)
        clear hr
        go_wp2_with fail
        refine (spec_text (k : Int) _ (by omega) (by omega)).mono ?_
        rintro e w1 ⟨rfl, rfl⟩
        generalize Tx.txt (Dc.dect (k : Int)) = d at hd HX
        have hx1 := HX.out
        go_wp2
        go_round
        case rel => exact ⟨k + 1, by omega, by go_num, HN2⟩
        case measure => simp [intOf]; omega
    · have HR : Hid ((-1 : Int) = (Rl.reg x).getD (-1)) := by
        show _ = _
        cases hr : Rl.reg x with
        | none => rfl
        | some n =>
          obtain ⟨h1, h2, _⟩ := Rl.reg_back x n hr
          have := HN.out n.toNat (by omega)
          rw [hr, show ((n.toNat : Nat) : Int) = n by omega] at this
          exact absurd rfl this
      go_wp2
      go_ret
      exact ⟨ret_int HR.out, rfl⟩
set_option maxHeartbeats 400000 in
theorem branch_yes (k : Nat) (w : World) (h : Rl.isBr k = true) : Calls Tryz.prog 145 #[.int .i64 k] w fun e w' => e = .returned (.bool true) ∧ w' = w := by
  unfold Rl.isBr at h
  rw [decide_eq_true_eq] at h
  obtain rfl | rfl | rfl | rfl : k = 19 ∨ k = 20 ∨ k = 21 ∨ k = 22 := by omega
  all_goals
    go_enter Tryz.func145, Tryz.ntmps145
    go_wp2
    go_ret
    exact ⟨rfl, rfl⟩
set_option maxHeartbeats 400000 in
theorem branch_no (k : Nat) (w : World) (h : Rl.isBr k = false) : Calls Tryz.prog 145 #[.int .i64 k] w fun e w' => e = .returned (.bool false) ∧ w' = w := by
  unfold Rl.isBr at h
  rw [decide_eq_false_iff_not] at h
  have h1 : ((k : Int) == 19) = false := beq_eq_false_iff_ne.2 (by omega)
  have h2 : ((k : Int) == 20) = false := beq_eq_false_iff_ne.2 (by omega)
  have h3 : ((k : Int) == 21) = false := beq_eq_false_iff_ne.2 (by omega)
  have h4 : ((k : Int) == 22) = false := beq_eq_false_iff_ne.2 (by omega)
  clear h
  go_enter Tryz.func145, Tryz.ntmps145
  go_wp2
  go_ret
  exact ⟨rfl, rfl⟩
end Go.Proofs.YtdjapcfejmhjnaaGreatDoor
