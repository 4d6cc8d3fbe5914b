
/-
  The worst step: the specification's and the program's own functions answer alike. Condition: the program's table of extras lies in memory as the program's text lays it.
-/
import Derived.Test.YtofibnmbgfggkaaGreatDoorBas
import Derived.Test.YtofibnmbgfggkaaGreatDoorOpc
import Derived.Deep.DeepMust
namespace Go.Proofs.YtofibnmbgfggkaaGreatDoor
open Go.ChangeShapes Go.WideShapes Go.ChangeAt Go.RowKit
set_option linter.unusedVariables false

theorem tabE_kept {w w' : World} (hb : Below w.heap.size w w') (h : TabE w) : TabE w' := TabE.below h hb
theorem seg_kept {k : IntKind} {w w' : World} {a : Option Addr} {zs : List Int} (hb : Below w.heap.size w w') (h : Seg k w a zs) : Seg k w' a zs := Seg.below h hb
def ocs (b m e t : Int) (n : Nat) : List Int := (List.range n).map (opC b m e t)
theorem ocs_len (b m e t : Int) (n : Nat) : (ocs b m e t n).length = n := by simp [ocs]
theorem ocs_succ (b m e t : Int) (n : Nat) : ocs b m e t (n + 1) = ocs b m e t n ++ [opC b m e t n] := by
  unfold ocs
  rw [List.range_succ, List.map_append]
  rfl
theorem ocs_take (b m e t : Int) (n j : Nat) (h : j ≤ n) : (ocs b m e t n).take j = ocs b m e t j := by
  unfold ocs
  rw [← List.map_take, List.take_range, Nat.min_eq_left h]
theorem opC_range {b m e s k t l : Int} (hok : costsOk b m e s k t l = true) (n : Nat) : 1 ≤ opC b m e t n ∧ opC b m e t n ≤ 70 := by
  obtain ⟨h1, h2, h3, h4, h5, h6, h7⟩ := costsOk_parts hok
  unfold opC opx
  split
  · omega
  · split
    · omega
    · split <;> omega
theorem most_ge (zs : List Int) : ∀ z, z ≤ most z zs := by
  induction zs with
  | nil => intro z; exact Int.le_refl _
  | cons x xs ih =>
    intro z
    have := ih (if z < x then x else z)
    unfold most
    split at this <;> split <;> omega
theorem most_le (M : Int) (zs : List Int) : ∀ z, z ≤ M → (∀ x ∈ zs, x ≤ M) → most z zs ≤ M := by
  induction zs with
  | nil => intro z h _; exact h
  | cons x xs ih =>
    intro z h1 h2
    have hx := h2 x (by simp)
    unfold most
    exact ih _ (by split <;> omega) (fun y hy => h2 y (by simp [hy]))
theorem most_mem (zs : List Int) : ∀ z x, x ∈ zs → x ≤ most z zs := by
  induction zs with
  | nil => intro z x h; cases h
  | cons y ys ih =>
    intro z x h
    unfold most
    rcases List.mem_cons.1 h with rfl | h
    · have := most_ge ys (if z < x then x else z)
      split at this <;> split <;> omega
    · exact ih _ x h
theorem most_is_in (zs : List Int) : ∀ z, most z zs = z ∨ most z zs ∈ zs := by
  induction zs with
  | nil => intro z; exact .inl rfl
  | cons y ys ih =>
    intro z
    unfold most
    rcases ih (if z < y then y else z) with h | h
    · rw [h]
      split
      · exact .inr (by simp)
      · exact .inl rfl
    · exact .inr (by simp [h])
def mostOp (b m e t : Int) : Int := most 0 (ocs b m e t 33)
theorem mostOp_range {b m e s k t l : Int} (hok : costsOk b m e s k t l = true) : 0 ≤ mostOp b m e t ∧ mostOp b m e t ≤ 70 := by
  refine ⟨most_ge _ 0, most_le 70 _ 0 (by omega) (fun x hx => ?_)⟩
  unfold ocs at hx
  obtain ⟨i, _, rfl⟩ := List.mem_map.1 hx
  exact (opC_range hok i).2
def worstStep (b m e s k t l : Int) : Int := if costsOk b m e s k t l then mostOp b m e t + 2 * (s + k + l) + t else -1
set_option maxHeartbeats 1000000 in
theorem all_ops (b m e s k t l : Int) (w : World) (ht : TabE w) (hok : costsOk b m e s k t l = true) :
    Calls Tryz.prog 152 #[cst b m e s k t l] w fun r w' => r = .returned (.slice (some ⟨w.heap.size + 1, 0, none⟩) 33 33) ∧ Seg .i64 w' (some ⟨w.heap.size + 1, 0, none⟩) (ocs b m e t 33) ∧ Below w.heap.size w w' := by
  have hmk : ∀ w : World, (Instr.makeSlice 27 (.int .i64 33) (.int .i64 33)).run Tryz.prog w = .ok (.slice (some ⟨w.heap.size, 0, none⟩) 33 33) (w.alloc (.cells (madeCells #[.int .i64 0] 33) 3)) := fun _ => by kernel_rfl
  obtain ⟨w0, HW⟩ : ∃ w0, Hid (w0 = (w.alloc (crow 35 b m e s k t l)).alloc (.cells (madeCells #[.int .i64 0] 33) 3)) := ⟨_, rfl⟩
  have HB : Hid (Below w.heap.size w w0) := by show Below _ _ _; rw [HW.out]; exact ((Below.refl _ _).alloc (Nat.le_refl _) _).alloc (by simp) _
  have HO : Hid (Own .i64 w0 (w.heap.size + 1) (List.replicate 33 0)) := by
    show Own _ _ _ _
    rw [HW.out]
    have := Own.made .i64 (w.alloc (crow 35 b m e s k t l)) 33 3 0
    simpa using this
  have HR : Hid (∀ i v, (#[.int .i64 b, .int .i64 m, .int .i64 e, .int .i64 s, .int .i64 k, .int .i64 t, .int .i64 l] : Array Value)[i]? = some v → w0.cell? ⟨w.heap.size, i, none⟩ = some v) := fun i v h => by
    rw [HW.out]; exact cell_alloc (new_cell w _ 35 i v h)
  have hsz : w.heap.size + 2 ≤ w0.heap.size := by rw [HW.out]; simp
  have HT : Hid _ := ht
  have HK : Hid _ := hok
  clear ht hok
  go_enter Tryz.func152, Tryz.ntmps152
  go_wp2
  rw [← HW.out]
  clear HW
  go_loopw [8] (fun i wr => ∃ n : Nat, n ≤ 33 ∧ i = .int .i64 n ∧ w.heap.size + 2 ≤ wr.heap.size ∧ Hid (Below w.heap.size w wr ∧ Own .i64 wr (w.heap.size + 1) (ocs b m e t n ++ List.replicate (33 - n) 0) ∧ ∀ i v, (#[.int .i64 b, .int .i64 m, .int .i64 e, .int .i64 s, .int .i64 k, .int .i64 t, .int .i64 l] : Array Value)[i]? = some v → wr.cell? ⟨w.heap.size, i, none⟩ = some v)) (fun i _ => 33 - (intOf i).toNat)
  case atStart => exact ⟨0, by omega, rfl, hsz, HB.out, by simpa [ocs] using HO.out, HR.out⟩
  case round =>
    obtain ⟨n, hn, rfl, hs, HC⟩ := hrel
    by_cases hnt : n < 33
    · have hrow := HC.out.2.2
      have d0 := hrow 0 _ rfl
      have d1 := hrow 1 _ rfl
      have d2 := hrow 2 _ rfl
      have d3 := hrow 3 _ rfl
      have d4 := hrow 4 _ rfl
      have d5 := hrow 5 _ rfl
      have d6 := hrow 6 _ rfl
      clear hrow
      have hnt' : (n : Int) < 33 := by omega
      have HS : Hid _ := ocs_succ b m e t n
      have HZ : Hid (∀ X, TabE X → Calls Tryz.prog 166 #[cst b m e s k t l, .int .i64 n] X fun r w' => r = .returned (.int .i64 (opC b m e t n)) ∧ Below X.heap.size X w') := fun X hX => of_op b m e s k t l n X hnt hX HK.out
      generalize opC b m e t n = z at HS HZ
      go_wp2_with fail
      refine (HZ.out _ (TabE.below HT.out HC.out.1)).mono ?_
      rintro r w1 ⟨rfl, hb1⟩
      have HC1 : Hid _ := And.intro (HC.out.1.trans (hb1.mono HC.out.1.size)) (And.intro (HC.out.2.1.below hb1) (fun (i : Nat) (v : Value) (h : (#[.int .i64 b, .int .i64 m, .int .i64 e, .int .i64 s, .int .i64 k, .int .i64 t, .int .i64 l] : Array Value)[i]? = some v) => cell_kept hb1 (HC.out.2.2 i v h)))
      have hs1 : w.heap.size + 2 ≤ w1.heap.size := Nat.le_trans hs hb1.size
      clear hb1 HC d0 d1 d2 d3 d4 d5 d6
      have hl : n < (ocs b m e t n ++ List.replicate (33 - n) (0 : Int)).length := by simp [ocs_len]; omega
      have hfz := HC1.out.2.1.free n
      have hcl := HC1.out.2.1.cell n hl
      have HP : Hid ((ocs b m e t n ++ List.replicate (33 - n) (0 : Int)).set n z = ocs b m e t (n + 1) ++ List.replicate (33 - (n + 1)) 0) := by
        show _ = _
        rw [HS.out, List.set_append_right _ _ (by rw [ocs_len]; exact Nat.le_refl _), ocs_len, Nat.sub_self, show 33 - n = (33 - (n + 1)) + 1 by omega, List.replicate_succ, List.set_cons_zero, List.append_assoc]
        rfl
      generalize (ocs b m e t n ++ List.replicate (33 - n) (0 : Int)).getD n 0 = old at hcl
      have HL : Hid _ := hl
      clear hl
      go_wp2
      go_roundw
      case rel =>
        refine ⟨n + 1, by omega, by go_num, by simpa using hs1, HC1.out.1.setCell (by dsimp only; omega) _, ?_, fun i v h => ?_⟩
        · have := HC1.out.2.1.set n z HL.out
          rw [HP.out] at this
          exact this
        · rw [World.cell?_setCell_other (h := by simp)]
          exact HC1.out.2.2 i v h
      case measure => simp [intOf]; omega
    · obtain rfl : n = 33 := by omega
      have HSG : Hid (Seg .i64 wr (some ⟨w.heap.size + 1, 0, none⟩) (ocs b m e t 33)) := by
        have := HC.out.2.1.seg
        show Seg _ _ _ _
        simpa using this
      go_wp2
      go_ret
      exact ⟨rfl, HSG.out, HC.out.1⟩
set_option maxHeartbeats 2000000 in
theorem impl_worstS (b m e s k t l : Int) (w : World) (ht : TabE w) :
    Calls Tryz.prog 103 #[cst b m e s k t l] w fun r w' => r = .returned (.int .i64 (worstStep b m e s k t l)) ∧ Below w.heap.size w w' := by
  obtain ⟨q, Q⟩ : ∃ q, Hid (costsOk b m e s k t l = q) := ⟨_, rfl⟩
  obtain ⟨w0, HW⟩ : ∃ w0, Hid (w0 = (w.alloc (crow 35 b m e s k t l)).alloc (crow 35 b m e s k t l)) := ⟨_, rfl⟩
  have hb : Below w.heap.size w w0 := by rw [HW.out]; exact ((Below.refl _ _).alloc (Nat.le_refl _) _).alloc (by simp) _
  have hr : ∀ i v, (#[.int .i64 b, .int .i64 m, .int .i64 e, .int .i64 s, .int .i64 k, .int .i64 t, .int .i64 l] : Array Value)[i]? = some v → w0.cell? ⟨w.heap.size, i, none⟩ = some v := fun i v h => by
    rw [HW.out]; exact cell_alloc (new_cell w _ 35 i v h)
  have HT : Hid _ := ht
  clear ht
  cases q with
  | false =>
    have HE : Hid (worstStep b m e s k t l = -1) := by show _ = _; unfold worstStep; rw [Q.out]; rfl
    rw [HE.out]
    have HB : Hid _ := hb
    clear hb hr
    go_enter Tryz.func103, Tryz.ntmps103
    go_wp2_with fail
    refine (impl_cok b m e s k t l _).mono ?_
    rintro r w1 ⟨rfl, rfl⟩
    rw [Q.out]
    rw [← HW.out]
    go_wp2
    go_ret
    exact ⟨rfl, HB.out⟩
  | true =>
    have HE : Hid (worstStep b m e s k t l = mostOp b m e t + 2 * (s + k + l) + t) := by show _ = _; unfold worstStep; rw [Q.out]; rfl
    have HA : Hid (worstAccess b m e s k t l = s + k + l) := by show _ = _; unfold worstAccess; rw [Q.out]; rfl
    rw [HE.out]
    have hM := mostOp_range Q.out
    have hparts := costsOk_parts Q.out
    have HG : Hid (∀ X a cap, Seg .i64 X a (ocs b m e t 33) → Calls Tryz.prog 151 #[.int .i64 0, .slice a 33 cap] X fun r w' => r = .returned (.int .i64 (mostOp b m e t)) ∧ w' = X) := fun X a cap h => by
      have := greatest 0 a cap (ocs b m e t 33) X h (by rw [ocs_len]; omega)
      rw [ocs_len] at this
      exact this
    have HO : Hid (∀ X, TabE X → Calls Tryz.prog 152 #[cst b m e s k t l] X fun r w' => r = .returned (.slice (some ⟨X.heap.size + 1, 0, none⟩) 33 33) ∧ Seg .i64 w' (some ⟨X.heap.size + 1, 0, none⟩) (ocs b m e t 33) ∧ Below X.heap.size X w') := fun X hX => all_ops b m e s k t l X hX Q.out
    have HAA : Hid (∀ X, Calls Tryz.prog 153 #[cst b m e s k t l] X fun r w' => r = .returned (.int .i64 (s + k + l)) ∧ Below X.heap.size X w') := fun X => by rw [← HA.out]; exact impl_worstA b m e s k t l X
    generalize mostOp b m e t = M at hM HG
    generalize ocs b m e t 33 = zs at HG HO
    obtain ⟨A, hA⟩ : ∃ A, A = s + k + l := ⟨_, rfl⟩
    have hA0 : 0 ≤ A ∧ A ≤ 150 := by omega
    have ht5 : 0 ≤ t ∧ t ≤ 50 := hparts.2.2.2.2.2.1
    rw [← hA] at HAA ⊢
    clear hA hparts HE HA
    have hw1 : IntKind.i64.wrap (2 * A) = 2 * A := by rw [IntKind.wrap_i64]; omega
    have hw2 : IntKind.i64.wrap (M + 2 * A) = M + 2 * A := by rw [IntKind.wrap_i64]; omega
    have hw3 : IntKind.i64.wrap (M + 2 * A + t) = M + 2 * A + t := by rw [IntKind.wrap_i64]; omega
    have c0 := hr 0 _ rfl
    have c1 := hr 1 _ rfl
    have c2 := hr 2 _ rfl
    have c3 := hr 3 _ rfl
    have c4 := hr 4 _ rfl
    have c5 := hr 5 _ rfl
    have c6 := hr 6 _ rfl
    have hT : TabE w0 := TabE.below HT.out hb
    clear hr
    go_enter Tryz.func103, Tryz.ntmps103
    go_wp2_with fail
    refine (impl_cok b m e s k t l _).mono ?_
    rintro r w1 ⟨rfl, rfl⟩
    rw [Q.out]
    rw [← HW.out]
    clear HW
    go_wp2_with fail
    go_region_held3 (fun w' => w'.cell? ⟨w.heap.size, 0, none⟩ = some (.int .i64 b) ∧ w'.cell? ⟨w.heap.size, 1, none⟩ = some (.int .i64 m) ∧ w'.cell? ⟨w.heap.size, 2, none⟩ = some (.int .i64 e) ∧ w'.cell? ⟨w.heap.size, 3, none⟩ = some (.int .i64 s) ∧ w'.cell? ⟨w.heap.size, 4, none⟩ = some (.int .i64 k) ∧ w'.cell? ⟨w.heap.size, 5, none⟩ = some (.int .i64 t) ∧ w'.cell? ⟨w.heap.size, 6, none⟩ = some (.int .i64 l)) (first | exact ⟨c0, c1, c2, c3, c4, c5, c6⟩) (first | (go_at_call 152; go_must (refine Calls.mono (HO.out _ (fun i hi => hT i hi)) ?_; rintro x w9 ⟨rfl, hseg, hbb⟩; (first | replace hb := hb.trans (hbb.mono hb.size) | replace hb := hb.drew.trans (hbb.mono hb.drew.size)); replace c0 := cell_kept hbb c0; replace c1 := cell_kept hbb c1; replace c2 := cell_kept hbb c2; replace c3 := cell_kept hbb c3; replace c4 := cell_kept hbb c4; replace c5 := cell_kept hbb c5; replace c6 := cell_kept hbb c6; replace hT := tabE_kept hbb (fun i hi => hT i hi); clear hbb)) | (go_at_call 151; go_must (refine Calls.mono (HG.out _ _ _ (fun h => hseg h)) ?_; rintro x w9 ⟨rfl, rfl⟩)) | (go_at_call 153; go_must (refine Calls.mono (HAA.out _) ?_; rintro x w9 ⟨rfl, hbb⟩; (first | replace hb := hb.trans (hbb.mono hb.size) | replace hb := hb.drew.trans (hbb.mono hb.drew.size)); replace c0 := cell_kept hbb c0; replace c1 := cell_kept hbb c1; replace c2 := cell_kept hbb c2; replace c3 := cell_kept hbb c3; replace c4 := cell_kept hbb c4; replace c5 := cell_kept hbb c5; replace c6 := cell_kept hbb c6; replace hT := tabE_kept hbb (fun i hi => hT i hi); (try replace hseg := seg_kept hbb (fun h => hseg h)); clear hbb)))
    all_goals go_wp2
    all_goals go_ret
    all_goals exact ⟨rfl, hb⟩
/-! ### The specification's -/
set_option maxHeartbeats 2000000 in
theorem spec_worstS (b m e s k t l : Int) (w : World) :
    Calls Tryz.prog 52 #[cst b m e s k t l] w fun r w' => r = .returned (.int .i64 (worstStep b m e s k t l)) ∧ Below w.heap.size w w' := by
  obtain ⟨q, Q⟩ : ∃ q, Hid (costsOk b m e s k t l = q) := ⟨_, rfl⟩
  obtain ⟨w0, HW⟩ : ∃ w0, Hid (w0 = (w.alloc (crow 35 b m e s k t l)).alloc (crow 35 b m e s k t l)) := ⟨_, rfl⟩
  have HB0 : Hid (Below w.heap.size w w0) := by show Below _ _ _; rw [HW.out]; exact ((Below.refl _ _).alloc (Nat.le_refl _) _).alloc (by simp) _
  have HR0 : Hid (∀ i v, (#[.int .i64 b, .int .i64 m, .int .i64 e, .int .i64 s, .int .i64 k, .int .i64 t, .int .i64 l] : Array Value)[i]? = some v → w0.cell? ⟨w.heap.size, i, none⟩ = some v) := fun i v h => by
    rw [HW.out]; exact cell_alloc (new_cell w _ 35 i v h)
  cases q with
  | false =>
    have HE : Hid (worstStep b m e s k t l = -1) := by show _ = _; unfold worstStep; rw [Q.out]; rfl
    rw [HE.out]
    go_enter Tryz.func52, Tryz.ntmps52
    go_wp2_with fail
    refine (spec_cok b m e s k t l _).mono ?_
    rintro r w1 ⟨rfl, rfl⟩
    rw [Q.out]
    rw [← HW.out]
    go_wp2
    go_ret
    exact ⟨rfl, HB0.out⟩
  | true =>
    have HE : Hid (worstStep b m e s k t l = mostOp b m e t + 2 * (s + k + l) + t) := by show _ = _; unfold worstStep; rw [Q.out]; rfl
    have HA : Hid (worstAccess b m e s k t l = s + k + l) := by show _ = _; unfold worstAccess; rw [Q.out]; rfl
    rw [HE.out]
    have hM := mostOp_range Q.out
    have hparts := costsOk_parts Q.out
    have HAA : Hid (∀ X, Calls Tryz.prog 69 #[cst b m e s k t l] X fun r w' => r = .returned (.int .i64 (s + k + l)) ∧ Below X.heap.size X w') := fun X => by rw [← HA.out]; exact spec_worstA b m e s k t l X
    have HOP : Hid (∀ (n : Nat) X, n < 33 → Calls Tryz.prog 68 #[cst b m e s k t l, .int .i64 n] X fun r w' => r = .returned (.int .i64 (opC b m e t n)) ∧ Below X.heap.size X w') := fun n X hn => by
      have := spec_op b m e s k t l n X
      unfold opCost at this
      rw [if_pos Q.out, if_pos ⟨by omega, by omega⟩, Int.toNat_natCast] at this
      exact this
    have HMD : Hid (mostOp b m e t = most 0 (ocs b m e t 33)) := rfl
    generalize mostOp b m e t = M at hM HMD
    obtain ⟨A, hA⟩ : ∃ A, A = s + k + l := ⟨_, rfl⟩
    have hA0 : 0 ≤ A ∧ A ≤ 150 := by omega
    have ht5 : 0 ≤ t ∧ t ≤ 50 := hparts.2.2.2.2.2.1
    rw [← hA] at HAA ⊢
    clear hA hparts HE HA
    have hw1 : IntKind.i64.wrap (2 * A) = 2 * A := by rw [IntKind.wrap_i64]; omega
    have hw2 : IntKind.i64.wrap (M + 2 * A) = M + 2 * A := by rw [IntKind.wrap_i64]; omega
    have hw3 : IntKind.i64.wrap (M + 2 * A + t) = M + 2 * A + t := by rw [IntKind.wrap_i64]; omega
    go_enter Tryz.func52, Tryz.ntmps52
    go_wp2_with fail
    refine (spec_cok b m e s k t l _).mono ?_
    rintro r w1 ⟨rfl, rfl⟩
    rw [Q.out]
    rw [← HW.out]
    clear HW
    go_wp2_with fail
    go_loopw [3, 4] (fun v i wr => ∃ n : Nat, n ≤ 33 ∧ i = .int .i64 n ∧ ∃ q, v = .int .i64 q ∧ Hid (most 0 (ocs b m e t n) = q) ∧ Hid (Below w.heap.size w wr ∧ ∀ i v, (#[.int .i64 b, .int .i64 m, .int .i64 e, .int .i64 s, .int .i64 k, .int .i64 t, .int .i64 l] : Array Value)[i]? = some v → wr.cell? ⟨w.heap.size, i, none⟩ = some v)) (fun _ i _ => 33 - (intOf i).toNat)
    case atStart => exact ⟨0, by omega, rfl, 0, rfl, rfl, HB0.out, HR0.out⟩
    case round =>
      obtain ⟨n, hn, rfl, q, rfl, HM, HR⟩ := hrel
      have hb := HR.out.1
      have c0 := HR.out.2 0 _ rfl
      have c1 := HR.out.2 1 _ rfl
      have c2 := HR.out.2 2 _ rfl
      have c3 := HR.out.2 3 _ rfl
      have c4 := HR.out.2 4 _ rfl
      have c5 := HR.out.2 5 _ rfl
      have c6 := HR.out.2 6 _ rfl
      by_cases hnt : n < 33
      · have hnt' : (n : Int) < 33 := by omega
        clear hb
        have HS : Hid _ := ocs_succ b m e t n
        have HZ : Hid (∀ X, Calls Tryz.prog 68 #[cst b m e s k t l, .int .i64 n] X fun r w' => r = .returned (.int .i64 (opC b m e t n)) ∧ Below X.heap.size X w') := fun X => HOP.out n X hnt
        generalize opC b m e t n = z at HS HZ
        go_wp2_with fail
        refine (HZ.out _).mono ?_
        rintro r w2 ⟨rfl, hbb⟩
        have HR2 : Hid _ := And.intro (HR.out.1.trans (hbb.mono HR.out.1.size)) (fun (i : Nat) (v : Value) (h : (#[.int .i64 b, .int .i64 m, .int .i64 e, .int .i64 s, .int .i64 k, .int .i64 t, .int .i64 l] : Array Value)[i]? = some v) => cell_kept hbb (HR.out.2 i v h))
        replace c0 := cell_kept hbb c0; replace c1 := cell_kept hbb c1; replace c2 := cell_kept hbb c2; replace c3 := cell_kept hbb c3; replace c4 := cell_kept hbb c4; replace c5 := cell_kept hbb c5; replace c6 := cell_kept hbb c6
        clear hbb HR
        by_cases hz : q < z
        · go_wp2_with fail
          refine (HZ.out _).mono ?_
          rintro r w3 ⟨rfl, hbb⟩
          have HR3 : Hid _ := And.intro (HR2.out.1.trans (hbb.mono HR2.out.1.size)) (fun (i : Nat) (v : Value) (h : (#[.int .i64 b, .int .i64 m, .int .i64 e, .int .i64 s, .int .i64 k, .int .i64 t, .int .i64 l] : Array Value)[i]? = some v) => cell_kept hbb (HR2.out.2 i v h))
          clear hbb
          go_wp2
          go_roundw
          case rel => exact ⟨n + 1, by omega, by go_num, z, rfl, by show _ = _; rw [HS.out, most_snoc, HM.out, if_pos hz], HR3.out⟩
          case measure => simp [intOf]; omega
        · go_wp2
          go_roundw
          case rel => exact ⟨n + 1, by omega, by go_num, q, rfl, by show _ = _; rw [HS.out, most_snoc, HM.out, if_neg (by omega)], HR2.out⟩
          case measure => simp [intOf]; omega
      · obtain rfl : n = 33 := by omega
        obtain rfl : q = M := by rw [← HM.out, HMD.out]
        clear HM HMD HR HB0 HR0
        go_wp2_with fail
        go_region_held3 (fun w' => w'.cell? ⟨w.heap.size, 0, none⟩ = some (.int .i64 b) ∧ w'.cell? ⟨w.heap.size, 1, none⟩ = some (.int .i64 m) ∧ w'.cell? ⟨w.heap.size, 2, none⟩ = some (.int .i64 e) ∧ w'.cell? ⟨w.heap.size, 3, none⟩ = some (.int .i64 s) ∧ w'.cell? ⟨w.heap.size, 4, none⟩ = some (.int .i64 k) ∧ w'.cell? ⟨w.heap.size, 5, none⟩ = some (.int .i64 t) ∧ w'.cell? ⟨w.heap.size, 6, none⟩ = some (.int .i64 l)) (first | exact ⟨c0, c1, c2, c3, c4, c5, c6⟩) (first | (go_at_call 69; go_must (refine Calls.mono (HAA.out _) ?_; rintro x w9 ⟨rfl, hbb⟩; (first | replace hb := hb.trans (hbb.mono hb.size) | replace hb := hb.drew.trans (hbb.mono hb.drew.size)); replace c0 := cell_kept hbb c0; replace c1 := cell_kept hbb c1; replace c2 := cell_kept hbb c2; replace c3 := cell_kept hbb c3; replace c4 := cell_kept hbb c4; replace c5 := cell_kept hbb c5; replace c6 := cell_kept hbb c6; clear hbb)))
        all_goals go_wp2
        all_goals go_ret
        all_goals exact ⟨rfl, hb⟩
end Go.Proofs.YtofibnmbgfggkaaGreatDoor
