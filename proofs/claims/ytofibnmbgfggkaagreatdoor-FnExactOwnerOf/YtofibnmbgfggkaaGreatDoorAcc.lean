
/-
  What an access costs, and the worst of all: the specification's and the program's own functions answer alike. No conditions but those that each fact names.
-/
import Derived.Test.YtofibnmbgfggkaaGreatDoorBas
import Derived.Test.YtofibnmbgfggkaaGreatDoorCost
import Derived.Deep.AppendLies
import Derived.OwnWalk
namespace Go.Proofs.YtofibnmbgfggkaaGreatDoor
open Go.ChangeShapes Go.WideShapes Go.ChangeAt Go.RowKit
set_option linter.unusedVariables false

def ac (s k l : Int) (x y z : Bool) : Int := (if x then 0 else s) + (if y then 0 else k) + (if z then l else 0)
theorem ac_range {s k l : Int} (x y z : Bool) (hs : 0 ≤ s ∧ s ≤ 50) (hk : 0 ≤ k ∧ k ≤ 50) (hl : 0 ≤ l ∧ l ≤ 50) : 0 ≤ ac s k l x y z ∧ ac s k l x y z ≤ 150 := by
  unfold ac; cases x <;> cases y <;> cases z <;> simp <;> omega
def accessCost (b m e s k t l : Int) (x y z : Bool) : Int := if costsOk b m e s k t l then ac s k l x y z else -1
abbrev arow (x y z : Bool) : Obj := .cells #[.bool x, .bool y, .bool z] 127
theorem of_access (b m e s k t l : Int) (x y z : Bool) (w : World) (hs1 : 0 ≤ s) (hs2 : s ≤ 50) (hk1 : 0 ≤ k) (hk2 : k ≤ 50) (hl1 : 0 ≤ l) (hl2 : l ≤ 50) :
    Calls Tryz.prog 174 #[cst b m e s k t l, acc x y z] w fun r w' => r = .returned (.int .i64 (ac s k l x y z)) ∧ w' = (w.alloc (crow 35 b m e s k t l)).alloc (arow x y z) := by
  cases x <;> cases y <;> cases z
  all_goals
    go_enter Tryz.func174, Tryz.ntmps174
    go_wp2
    go_ret
    exact ⟨ret_int (by simp [ac]), rfl⟩
theorem spec_access (b m e s k t l : Int) (x y z : Bool) (w : World) :
    Calls Tryz.prog 87 #[cst b m e s k t l, acc x y z] w fun r w' => r = .returned (.int .i64 (accessCost b m e s k t l x y z)) ∧ Below w.heap.size w w' := by
  obtain ⟨q, Q⟩ : ∃ q, Hid (costsOk b m e s k t l = q) := ⟨_, rfl⟩
  have hb : Below w.heap.size w (((w.alloc (crow 35 b m e s k t l)).alloc (arow x y z)).alloc (crow 35 b m e s k t l)) :=
    (((Below.refl _ _).alloc (Nat.le_refl _) _).alloc (by simp) _).alloc (by simp; omega) _
  have HB : Hid _ := hb
  clear hb
  cases q
  · have HE : Hid (accessCost b m e s k t l x y z = -1) := by show _ = _; unfold accessCost; rw [Q.out]; rfl
    rw [HE.out]
    go_enter Tryz.func87, Tryz.ntmps87
    go_wp2_with fail
    refine (spec_cok b m e s k t l _).mono ?_
    rintro r w1 ⟨rfl, rfl⟩
    rw [Q.out]
    go_wp2
    go_ret
    exact ⟨rfl, HB.out⟩
  · obtain ⟨_, _, _, ⟨hs1, hs2⟩, ⟨hk1, hk2⟩, _, ⟨hl1, hl2⟩⟩ := costsOk_parts Q.out
    have HE : Hid (accessCost b m e s k t l x y z = ac s k l x y z) := by show _ = _; unfold accessCost; rw [Q.out]; rfl
    rw [HE.out]
    clear HE
    cases x <;> cases y <;> cases z
    all_goals
      go_enter Tryz.func87, Tryz.ntmps87
      go_wp2_with fail
      refine (spec_cok b m e s k t l _).mono ?_
      rintro r w1 ⟨rfl, rfl⟩
      rw [Q.out]
      go_wp2
      go_ret
      exact ⟨ret_int (by simp [ac]), HB.out⟩
/-! ### The greatest of some numbers -/
def most (z : Int) : List Int → Int
  | [] => z
  | x :: xs => most (if z < x then x else z) xs
theorem most_snoc (z : Int) (xs : List Int) (x : Int) : most z (xs ++ [x]) = if most z xs < x then x else most z xs := by
  induction xs generalizing z with
  | nil => rfl
  | cons y ys ih => exact ih _
theorem take_snoc (zs : List Int) (k : Nat) (h : k < zs.length) : zs.take (k + 1) = zs.take k ++ [zs.getD k 0] := by
  rw [List.take_add_one]
  simp [h, List.getD]
set_option maxHeartbeats 400000 in
theorem greatest (z : Int) (a : Option Addr) (cap : Nat) (zs : List Int) (w : World) (ha : Seg .i64 w a zs) (hn : zs.length ≤ 1048576) :
    Calls Tryz.prog 151 #[.int .i64 z, .slice a zs.length cap] w fun e w' => e = .returned (.int .i64 (most z zs)) ∧ w' = w := by
  obtain ⟨n, Hn⟩ : ∃ n, Hid (n = zs.length) := ⟨_, rfl⟩
  have hn' : n ≤ 1048576 := by rw [Hn.out]; exact hn
  rw [← Hn.out]
  have HA : Hid _ := ha
  clear hn ha
  go_enter Tryz.func151, Tryz.ntmps151
  go_wp2
  go_loopw [5, 11] (fun v i wr => wr = w ∧ ∃ k : Nat, k ≤ n ∧ i = .int .i64 k ∧ ∃ q, v = .int .i64 q ∧ Hid (most z (zs.take k) = q)) (fun _ i _ => n - (intOf i).toNat)
  case atStart => exact ⟨rfl, 0, by omega, rfl, z, rfl, rfl⟩
  case round =>
    obtain ⟨rfl, k, hk, rfl, q, rfl, HR⟩ := hrel
    by_cases hkn : k < n
    · obtain ⟨B, off, rfl, hlt, hc0⟩ := HA.out (by rw [← Hn.out]; omega)
      have hc := hc0 k (by rw [← Hn.out]; omega)
      have HS : Hid _ := take_snoc zs k (by rw [← Hn.out]; omega)
      clear hc0 hlt
      generalize zs.getD k 0 = u at hc HS
      by_cases hu : q < u
      · go_wp2
        go_roundw
        case rel => exact ⟨trivial, k + 1, by omega, by go_num, u, rfl, by show _ = _; rw [HS.out, most_snoc, HR.out, if_pos hu]⟩
        case measure => simp [intOf]; omega
      · go_wp2
        go_roundw
        case rel => exact ⟨trivial, k + 1, by omega, by go_num, q, rfl, by show _ = _; rw [HS.out, most_snoc, HR.out, if_neg hu]⟩
        case measure => simp [intOf]; omega
    · obtain rfl : k = n := by omega
      have HF : Hid (most z zs = q) := by show _ = _; rw [← HR.out, Hn.out, List.take_length]
      go_wp2
      go_ret
      exact ⟨ret_int HF.out.symm, rfl⟩
end Go.Proofs.YtofibnmbgfggkaaGreatDoor
