/-
  What the specification's ReadLine returns at an instruction (b). Condition: the line is at most 1048576 bytes long.
-/
import Derived.Test.YtdjapcfejmhjnaaGreatDoorSrl
namespace Go.Proofs.YtdjapcfejmhjnaaGreatDoor
open Go.ChangeShapes Go.WideShapes Go.ChangeAt Go.RowKit Go.Deep
set_option linter.unusedVariables false
set_option maxRecDepth 20000

def pwb (j : Nat) : Int := match j with | 0 => 1 | 1 => 2 | 2 => 4 | _ => 8
set_option maxHeartbeats 8000000 in
theorem spec_rl_op_b (s w0 : ByteArray) (r : List ByteArray) (n : Nat) (k : Nat) (f : Int) (qa qb qc qm : Bool) (V : Value) (w : World) (h80 : s.size ≤ 80) (hs : s.size ≤ 1048576) (HW : Hid (Sp.texts 32 s = w0 :: r)) (HN : Hid (n = (w0 :: r).length)) (hn80 : n ≤ 81) (hsh : Short (w0 :: r)) (hw0 : w0 ≠ Rl.dotW) (hn1 : n = 1) (hs1 : s.size ≤ 1) (hw0s : w0 = s) (hk : k < 33) (hf0 : 0 ≤ f) (hf1 : f < 16) (HF : Hid (forms.getD k 0 = f))
    (HO : Hid (∀ X, Calls Tryz.prog 86 #[.string w0] X fun e w' => e = .returned (.int .i64 k) ∧ Below X.heap.size X w'))
    (HA : Hid ((f % 2 == 1) = qa)) (HB : Hid ((f / 2 % 2 == 1) = qb)) (HC : Hid ((f / 4 % 2 == 1) = qc)) (HM : Hid ((f / 8 % 2 == 1) = qm)) (HV : Hid ((kont qa qb qc qm k 0 0 0 0 r).val = V)) :
    Calls Tryz.prog 58 #[.string s] w fun e w' => e = .returned V ∧ Below w.heap.size w w' := by
  have HSH : Hid _ := hsh
  clear hsh
  have hdw : (w0.toList == [46, 119, 111, 114, 100]) = false := by
    have := Tx.list_ne w0 Rl.dotW hw0
    rw [dotW_list] at this
    exact this
  clear hw0
  subst hn1 hw0s
  have hg : decide (1 < (w0.size : Int)) = false := decide_eq_false (by omega)
  go_enter Tryz.func58, Tryz.ntmps58
  go_wp2_with fail
  refine (spec_split w0 _ hs).mono ?_
  rintro e w3 ⟨ad, cap, rfl, hcap, hfl, hb3⟩
  rw [HW.out] at hfl hcap ⊢
  rw [← HN.out] at hcap ⊢
  have HR : Hid _ := RS.mk' hb3 hfl
  have HFL : Hid _ := hfl
  obtain ⟨bb, oo, rfl, hbl, hcx⟩ := Flds.head hfl
  clear hfl hb3
  go_wp2
  first | go_quiet (fail) | fail
  go_wp2_with fail
  refine (HO.out _).mono ?_
  rintro e w4 ⟨rfl, hb4⟩
  have HR4 : Hid _ := RS.hop (RS.hop HR.out (below_drewN (Below.refl _ _) _)) hb4
  clear hb4 hcx hbl
  go_wp2_with fail
  refine (spec_form k f _ hk HF.out).mono ?_
  rintro e w5 ⟨rfl, hb5⟩
  have HR5 : Hid _ := RS.hop HR4.out hb5
  clear hb5
  have z0 : ∀ o, (w5.alloc o).cell? ⟨w.heap.size, 0, none⟩ = some (.int .i64 0) := fun o => cell_alloc (HR5.out.cell 0 _ rfl)
  have n0 : ∀ o, (w5.alloc o).cell? ⟨w.heap.size + 1, 0, none⟩ = some (.int .i64 0) := fun o => cell_alloc (HR5.out.non 0 _ rfl)
  have z1 : ∀ o, (w5.alloc o).cell? ⟨w.heap.size, 1, none⟩ = some (.int .i64 0) := fun o => cell_alloc (HR5.out.cell 1 _ rfl)
  have n1 : ∀ o, (w5.alloc o).cell? ⟨w.heap.size + 1, 1, none⟩ = some (.int .i64 0) := fun o => cell_alloc (HR5.out.non 1 _ rfl)
  have z2 : ∀ o, (w5.alloc o).cell? ⟨w.heap.size, 2, none⟩ = some (.int .i64 0) := fun o => cell_alloc (HR5.out.cell 2 _ rfl)
  have n2 : ∀ o, (w5.alloc o).cell? ⟨w.heap.size + 1, 2, none⟩ = some (.int .i64 0) := fun o => cell_alloc (HR5.out.non 2 _ rfl)
  have z3 : ∀ o, (w5.alloc o).cell? ⟨w.heap.size, 3, none⟩ = some (.int .i64 0) := fun o => cell_alloc (HR5.out.cell 3 _ rfl)
  have n3 : ∀ o, (w5.alloc o).cell? ⟨w.heap.size + 1, 3, none⟩ = some (.int .i64 0) := fun o => cell_alloc (HR5.out.non 3 _ rfl)
  have z4 : ∀ o, (w5.alloc o).cell? ⟨w.heap.size, 4, none⟩ = some (.int .i64 0) := fun o => cell_alloc (HR5.out.cell 4 _ rfl)
  have n4 : ∀ o, (w5.alloc o).cell? ⟨w.heap.size + 1, 4, none⟩ = some (.int .i64 0) := fun o => cell_alloc (HR5.out.non 4 _ rfl)
  have z5 : ∀ o, (w5.alloc o).cell? ⟨w.heap.size, 5, none⟩ = some (.int .i64 0) := fun o => cell_alloc (HR5.out.cell 5 _ rfl)
  have n5 : ∀ o, (w5.alloc o).cell? ⟨w.heap.size + 1, 5, none⟩ = some (.int .i64 0) := fun o => cell_alloc (HR5.out.non 5 _ rfl)
  have z6 : ∀ o, (w5.alloc o).cell? ⟨w.heap.size, 6, none⟩ = some (.int .u32 0) := fun o => cell_alloc (HR5.out.cell 6 _ rfl)
  have n6 : ∀ o, (w5.alloc o).cell? ⟨w.heap.size + 1, 6, none⟩ = some (.int .u32 0) := fun o => cell_alloc (HR5.out.non 6 _ rfl)
  have z7 : ∀ o, (w5.alloc o).cell? ⟨w.heap.size, 7, none⟩ = some (.string ⟨#[]⟩) := fun o => cell_alloc (HR5.out.cell 7 _ rfl)
  have n7 : ∀ o, (w5.alloc o).cell? ⟨w.heap.size + 1, 7, none⟩ = some (.string ⟨#[]⟩) := fun o => cell_alloc (HR5.out.non 7 _ rfl)
  have hf : ∀ o i, (w5.alloc o).frozen? ⟨w.heap.size, i, none⟩ = false := fun o i => (((Below.refl _ w5).alloc (Nat.le_refl _) o).frozen (p := ⟨w.heap.size, i, none⟩) (by have := HR5.out.lt; simp; omega)).trans (HR5.out.free i)
  have hbz := HR5.out.below
  have HFC : Hid (∀ o i x, (w0 :: r)[i]? = some x → (w5.alloc o).cell? ⟨bb, oo + i, none⟩ = some (.string x)) := fun o i x hi => by
    obtain ⟨b', o', e', _, hc'⟩ := Flds.at HR5.out.fl (by simp)
    injection e' with e'
    injection e' with e1 e2
    subst e1 e2
    exact cell_alloc (hc' i x hi)
  have HN0 : Hid (1 ≤ 1) := by exact Nat.le_refl 1
  go_wp2
  go_loopw [11, 12] (fun at' bit wr => ∃ (j p : Nat) (x y z : Int) (rs : List ByteArray), bit = .int .i64 (pwb j) ∧ j ≤ 3 ∧ at' = .int .i64 p ∧ p ≤ 1 ∧ wr = w5.alloc (.cells #[.int .i64 3, .int .i64 k, .int .i64 x, .int .i64 y, .int .i64 z, .int .i64 0, .int .u32 0, .string ⟨#[]⟩] 114) ∧ Hid (rs = (w0 :: r).drop p) ∧ Hid ((kont qa qb qc qm k j x y z rs).val = V) ∧
      Hid (j = 0 → x = 0 ∧ y = 0 ∧ z = 0) ∧ Hid (j = 1 → y = 0 ∧ z = 0) ∧ Hid (j = 2 → z = 0)) (fun _ bit _ => (8 - intOf bit).toNat)
  case atStart => exact ⟨0, 1, 0, 0, 0, r, rfl, by omega, rfl, HN0.out, rfl, rfl, HV, fun _ => ⟨rfl, rfl, rfl⟩, fun h => absurd h (by omega), fun h => absurd h (by omega)⟩
  case round =>
    obtain ⟨j, p, x, y, z, rs, hbit, hj, rfl, hp, rfl, HRS, HK, HZ0, HZ1, HZ2⟩ := hrel
    have HLN : Hid (rs.length = 1 - p) := by show _ = _; rw [HRS.out, List.length_drop, ← HN.out]
    obtain rfl | rfl | rfl | rfl : j = 0 ∨ j = 1 ∨ j = 2 ∨ j = 3 := by omega
    · change _ = Value.int .i64 1 at hbit
      subst hbit
      obtain ⟨h1, h2, h3⟩ := HZ0.out rfl
      subst h1 h2 h3
      clear HZ0 HZ1 HZ2
      have hq := HA.out
      cases qa
      · have HK2 : Hid ((kont false qb qc qm k 1 0 0 0 rs).val = V) := HK.out
        go_wp2
        go_roundw
        case rel => exact ⟨1, p, 0, 0, 0, rs, by rfl, by omega, rfl, hp, rfl, HRS, HK2, fun h => absurd h (by omega), fun _ => ⟨rfl, rfl⟩, fun h => absurd h (by omega)⟩
        case measure => simp [intOf]
      · cases rs with
        | nil =>
          have hpn : ¬ (p : Int) < (1 : Int) := by have h := HLN.out; simp at h; omega
          have hpn2 : (1 : Int) ≤ (p : Int) := by omega
          have HV2 : Hid (Rl.no.val = V) := HK.out
          go_wp2
          exact bodyPost_ret (v := Rl.A8.val Rl.no) (by simp [results, Tryz.results58, go_sem, Rl.A8.val, z0, z1, z2, z3, z4, z5, z6, z7]) rfl ⟨ret_val HV2.out, ((((((((hbz.alloc hbz.size _).setCell (Nat.le_refl _) _).setCell (Nat.le_refl _) _).setCell (Nat.le_refl _) _).setCell (Nat.le_refl _) _).setCell (Nat.le_refl _) _).setCell (Nat.le_refl _) _).setCell (Nat.le_refl _) _).setCell (Nat.le_refl _) _⟩
        | cons g rs2 =>
          have hpn : (p : Int) < (1 : Int) := by have h := HLN.out; simp at h; omega
          have hpn2 : ¬ (1 : Int) ≤ (p : Int) := by omega
          have hwp : (w0 :: r)[p]? = some g := by
            have : ((w0 :: r).drop p)[0]? = some g := by rw [← HRS.out]; rfl
            simpa using this
          have HD2 : Hid (rs2 = (w0 :: r).drop (p + 1)) := by
            show _ = _
            rw [← List.tail_drop, ← HRS.out]
            rfl
          have hcg : ∀ o, (w5.alloc o).cell? ⟨bb, oo + p, none⟩ = some (.string g) := fun o => HFC.out o p g hwp
          have hgs : g.size ≤ 1048576 := HSH.out g (List.mem_of_getElem? hwp)
          clear hwp
          cases hr : Rl.reg g with
          | none =>
            have HG : Hid (∀ X, Calls Tryz.prog 87 #[.string g] X fun e w' => e = .returned (.int .i64 (-1)) ∧ w' = X) := fun X => by
              have := spec_reg g X hgs
              rw [hr] at this
              exact this
            have HV2 : Hid (Rl.no.val = V) := by
              show _ = _
              rw [← HK.out]
              simp only [kont, Rl.k0, Rl.take1, hr, Option.map_none]
            clear hr
            go_wp2_with fail
            refine (HG.out _).mono ?_
            rintro e w6 ⟨rfl, rfl⟩
            go_wp2
            exact bodyPost_ret (v := Rl.A8.val Rl.no) (by simp [results, Tryz.results58, go_sem, Rl.A8.val, z0, z1, z2, z3, z4, z5, z6, z7]) rfl ⟨ret_val HV2.out, ((((((((hbz.alloc hbz.size _).setCell (Nat.le_refl _) _).setCell (Nat.le_refl _) _).setCell (Nat.le_refl _) _).setCell (Nat.le_refl _) _).setCell (Nat.le_refl _) _).setCell (Nat.le_refl _) _).setCell (Nat.le_refl _) _).setCell (Nat.le_refl _) _⟩
          | some v =>
            have hvv := Rl.reg_back g v hr
            have hv0 := hvv.1
            have hv1 := hvv.2.1
            clear hvv
            have HG : Hid (∀ X, Calls Tryz.prog 87 #[.string g] X fun e w' => e = .returned (.int .i64 v) ∧ w' = X) := fun X => by
              have := spec_reg g X hgs
              rw [hr] at this
              exact this
            have HK2 : Hid ((kont true qb qc qm k 1 v 0 0 rs2).val = V) := by
              show _ = _
              rw [← HK.out]
              simp only [kont, Rl.k0, Rl.take1, hr, Option.map_some]
            clear hr
            go_wp2_with fail
            refine (HG.out _).mono ?_
            rintro e w6 ⟨rfl, rfl⟩
            go_wp2_with fail
            refine (HG.out _).mono ?_
            rintro e w6 ⟨rfl, rfl⟩
            go_wp2
            go_roundw
            case rel => exact ⟨1, p + 1, v, 0, 0, rs2, by rfl, by omega, by go_num, by omega, rfl, HD2, HK2, fun h => absurd h (by omega), fun _ => ⟨rfl, rfl⟩, fun h => absurd h (by omega)⟩
            case measure => simp [intOf]
    · change _ = Value.int .i64 2 at hbit
      subst hbit
      obtain ⟨h2, h3⟩ := HZ1.out rfl
      subst h2 h3
      clear HZ0 HZ1 HZ2
      have hq := HB.out
      cases qb
      · have HK2 : Hid ((kont qa false qc qm k 2 x 0 0 rs).val = V) := HK.out
        go_wp2
        go_roundw
        case rel => exact ⟨2, p, x, 0, 0, rs, by rfl, by omega, rfl, hp, rfl, HRS, HK2, fun h => absurd h (by omega), fun h => absurd h (by omega), fun _ => rfl⟩
        case measure => simp [intOf]
      · cases rs with
        | nil =>
          have hpn : ¬ (p : Int) < (1 : Int) := by have h := HLN.out; simp at h; omega
          have hpn2 : (1 : Int) ≤ (p : Int) := by omega
          have HV2 : Hid (Rl.no.val = V) := HK.out
          go_wp2
          exact bodyPost_ret (v := Rl.A8.val Rl.no) (by simp [results, Tryz.results58, go_sem, Rl.A8.val, z0, z1, z2, z3, z4, z5, z6, z7]) rfl ⟨ret_val HV2.out, ((((((((hbz.alloc hbz.size _).setCell (Nat.le_refl _) _).setCell (Nat.le_refl _) _).setCell (Nat.le_refl _) _).setCell (Nat.le_refl _) _).setCell (Nat.le_refl _) _).setCell (Nat.le_refl _) _).setCell (Nat.le_refl _) _).setCell (Nat.le_refl _) _⟩
        | cons g rs2 =>
          have hpn : (p : Int) < (1 : Int) := by have h := HLN.out; simp at h; omega
          have hpn2 : ¬ (1 : Int) ≤ (p : Int) := by omega
          have hwp : (w0 :: r)[p]? = some g := by
            have : ((w0 :: r).drop p)[0]? = some g := by rw [← HRS.out]; rfl
            simpa using this
          have HD2 : Hid (rs2 = (w0 :: r).drop (p + 1)) := by
            show _ = _
            rw [← List.tail_drop, ← HRS.out]
            rfl
          have hcg : ∀ o, (w5.alloc o).cell? ⟨bb, oo + p, none⟩ = some (.string g) := fun o => HFC.out o p g hwp
          have hgs : g.size ≤ 1048576 := HSH.out g (List.mem_of_getElem? hwp)
          clear hwp
          cases hr : Rl.reg g with
          | none =>
            have HG : Hid (∀ X, Calls Tryz.prog 87 #[.string g] X fun e w' => e = .returned (.int .i64 (-1)) ∧ w' = X) := fun X => by
              have := spec_reg g X hgs
              rw [hr] at this
              exact this
            have HV2 : Hid (Rl.no.val = V) := by
              show _ = _
              rw [← HK.out]
              simp only [kont, Rl.k1, Rl.take1, hr, Option.map_none]
            clear hr
            go_wp2_with fail
            refine (HG.out _).mono ?_
            rintro e w6 ⟨rfl, rfl⟩
            go_wp2
            exact bodyPost_ret (v := Rl.A8.val Rl.no) (by simp [results, Tryz.results58, go_sem, Rl.A8.val, z0, z1, z2, z3, z4, z5, z6, z7]) rfl ⟨ret_val HV2.out, ((((((((hbz.alloc hbz.size _).setCell (Nat.le_refl _) _).setCell (Nat.le_refl _) _).setCell (Nat.le_refl _) _).setCell (Nat.le_refl _) _).setCell (Nat.le_refl _) _).setCell (Nat.le_refl _) _).setCell (Nat.le_refl _) _).setCell (Nat.le_refl _) _⟩
          | some v =>
            have hvv := Rl.reg_back g v hr
            have hv0 := hvv.1
            have hv1 := hvv.2.1
            clear hvv
            have HG : Hid (∀ X, Calls Tryz.prog 87 #[.string g] X fun e w' => e = .returned (.int .i64 v) ∧ w' = X) := fun X => by
              have := spec_reg g X hgs
              rw [hr] at this
              exact this
            have HK2 : Hid ((kont qa true qc qm k 2 x v 0 rs2).val = V) := by
              show _ = _
              rw [← HK.out]
              simp only [kont, Rl.k1, Rl.take1, hr, Option.map_some]
            clear hr
            go_wp2_with fail
            refine (HG.out _).mono ?_
            rintro e w6 ⟨rfl, rfl⟩
            go_wp2_with fail
            refine (HG.out _).mono ?_
            rintro e w6 ⟨rfl, rfl⟩
            go_wp2
            go_roundw
            case rel => exact ⟨2, p + 1, x, v, 0, rs2, by rfl, by omega, by go_num, by omega, rfl, HD2, HK2, fun h => absurd h (by omega), fun h => absurd h (by omega), fun _ => rfl⟩
            case measure => simp [intOf]
    · change _ = Value.int .i64 4 at hbit
      subst hbit
      have h3 := HZ2.out rfl
      subst h3
      clear HZ0 HZ1 HZ2
      have hq := HC.out
      cases qc
      · have HK2 : Hid ((kont qa qb false qm k 3 x y 0 rs).val = V) := HK.out
        go_wp2
        go_roundw
        case rel => exact ⟨3, p, x, y, 0, rs, by rfl, by omega, rfl, hp, rfl, HRS, HK2, fun h => absurd h (by omega), fun h => absurd h (by omega), fun h => absurd h (by omega)⟩
        case measure => simp [intOf]
      · cases rs with
        | nil =>
          have hpn : ¬ (p : Int) < (1 : Int) := by have h := HLN.out; simp at h; omega
          have hpn2 : (1 : Int) ≤ (p : Int) := by omega
          have HV2 : Hid (Rl.no.val = V) := HK.out
          go_wp2
          exact bodyPost_ret (v := Rl.A8.val Rl.no) (by simp [results, Tryz.results58, go_sem, Rl.A8.val, z0, z1, z2, z3, z4, z5, z6, z7]) rfl ⟨ret_val HV2.out, ((((((((hbz.alloc hbz.size _).setCell (Nat.le_refl _) _).setCell (Nat.le_refl _) _).setCell (Nat.le_refl _) _).setCell (Nat.le_refl _) _).setCell (Nat.le_refl _) _).setCell (Nat.le_refl _) _).setCell (Nat.le_refl _) _).setCell (Nat.le_refl _) _⟩
        | cons g rs2 =>
          have hpn : (p : Int) < (1 : Int) := by have h := HLN.out; simp at h; omega
          have hpn2 : ¬ (1 : Int) ≤ (p : Int) := by omega
          have hwp : (w0 :: r)[p]? = some g := by
            have : ((w0 :: r).drop p)[0]? = some g := by rw [← HRS.out]; rfl
            simpa using this
          have HD2 : Hid (rs2 = (w0 :: r).drop (p + 1)) := by
            show _ = _
            rw [← List.tail_drop, ← HRS.out]
            rfl
          have hcg : ∀ o, (w5.alloc o).cell? ⟨bb, oo + p, none⟩ = some (.string g) := fun o => HFC.out o p g hwp
          have hgs : g.size ≤ 1048576 := HSH.out g (List.mem_of_getElem? hwp)
          clear hwp
          cases hr : Rl.reg g with
          | none =>
            have HG : Hid (∀ X, Calls Tryz.prog 87 #[.string g] X fun e w' => e = .returned (.int .i64 (-1)) ∧ w' = X) := fun X => by
              have := spec_reg g X hgs
              rw [hr] at this
              exact this
            have HV2 : Hid (Rl.no.val = V) := by
              show _ = _
              rw [← HK.out]
              simp only [kont, Rl.k2, Rl.take1, hr, Option.map_none]
            clear hr
            go_wp2_with fail
            refine (HG.out _).mono ?_
            rintro e w6 ⟨rfl, rfl⟩
            go_wp2
            exact bodyPost_ret (v := Rl.A8.val Rl.no) (by simp [results, Tryz.results58, go_sem, Rl.A8.val, z0, z1, z2, z3, z4, z5, z6, z7]) rfl ⟨ret_val HV2.out, ((((((((hbz.alloc hbz.size _).setCell (Nat.le_refl _) _).setCell (Nat.le_refl _) _).setCell (Nat.le_refl _) _).setCell (Nat.le_refl _) _).setCell (Nat.le_refl _) _).setCell (Nat.le_refl _) _).setCell (Nat.le_refl _) _).setCell (Nat.le_refl _) _⟩
          | some v =>
            have hvv := Rl.reg_back g v hr
            have hv0 := hvv.1
            have hv1 := hvv.2.1
            clear hvv
            have HG : Hid (∀ X, Calls Tryz.prog 87 #[.string g] X fun e w' => e = .returned (.int .i64 v) ∧ w' = X) := fun X => by
              have := spec_reg g X hgs
              rw [hr] at this
              exact this
            have HK2 : Hid ((kont qa qb true qm k 3 x y v rs2).val = V) := by
              show _ = _
              rw [← HK.out]
              simp only [kont, Rl.k2, Rl.take1, hr, Option.map_some]
            clear hr
            go_wp2_with fail
            refine (HG.out _).mono ?_
            rintro e w6 ⟨rfl, rfl⟩
            go_wp2_with fail
            refine (HG.out _).mono ?_
            rintro e w6 ⟨rfl, rfl⟩
            go_wp2
            go_roundw
            case rel => exact ⟨3, p + 1, x, y, v, rs2, by rfl, by omega, by go_num, by omega, rfl, HD2, HK2, fun h => absurd h (by omega), fun h => absurd h (by omega), fun h => absurd h (by omega)⟩
            case measure => simp [intOf]
    · change _ = Value.int .i64 8 at hbit
      subst hbit
      clear HZ0 HZ1 HZ2
      have hq := HM.out
      cases qm
      · cases rs with
        | nil =>
          have hpn : ((p : Int) != (1 : Int)) = false := by have h := HLN.out; simp at h; rw [bne_eq_false_iff_eq]; omega
          have HV2 : Hid (Rl.A8.val ⟨3, k, x, y, z, 0, 0, ⟨#[]⟩⟩ = V) := HK.out
          go_wp2
          exact bodyPost_ret (v := Rl.A8.val ⟨3, k, x, y, z, 0, 0, ⟨#[]⟩⟩) (by simp [results, Tryz.results58, go_sem, Rl.A8.val, z0, z1, z2, z3, z4, z5, z6, z7]) rfl ⟨ret_val HV2.out, ((((((((hbz.alloc hbz.size _).setCell (Nat.le_refl _) _).setCell (Nat.le_refl _) _).setCell (Nat.le_refl _) _).setCell (Nat.le_refl _) _).setCell (Nat.le_refl _) _).setCell (Nat.le_refl _) _).setCell (Nat.le_refl _) _).setCell (Nat.le_refl _) _⟩
        | cons g rs2 =>
          have hpn : ((p : Int) != (1 : Int)) = true := by have h := HLN.out; simp at h; rw [bne_iff_ne]; omega
          have HV2 : Hid (Rl.no.val = V) := HK.out
          go_wp2
          exact bodyPost_ret (v := Rl.A8.val Rl.no) (by simp [results, Tryz.results58, go_sem, Rl.A8.val, z0, z1, z2, z3, z4, z5, z6, z7]) rfl ⟨ret_val HV2.out, ((((((((hbz.alloc hbz.size _).setCell (Nat.le_refl _) _).setCell (Nat.le_refl _) _).setCell (Nat.le_refl _) _).setCell (Nat.le_refl _) _).setCell (Nat.le_refl _) _).setCell (Nat.le_refl _) _).setCell (Nat.le_refl _) _).setCell (Nat.le_refl _) _⟩
      · cases rs with
        | nil =>
          have hpn2 : (1 : Int) ≤ (p : Int) := by have h := HLN.out; simp at h; omega
          have HV2 : Hid (Rl.no.val = V) := HK.out
          go_wp2
          exact bodyPost_ret (v := Rl.A8.val Rl.no) (by simp [results, Tryz.results58, go_sem, Rl.A8.val, z0, z1, z2, z3, z4, z5, z6, z7]) rfl ⟨ret_val HV2.out, ((((((((hbz.alloc hbz.size _).setCell (Nat.le_refl _) _).setCell (Nat.le_refl _) _).setCell (Nat.le_refl _) _).setCell (Nat.le_refl _) _).setCell (Nat.le_refl _) _).setCell (Nat.le_refl _) _).setCell (Nat.le_refl _) _).setCell (Nat.le_refl _) _⟩
        | cons g rs2 =>
          have hpn : (p : Int) < (1 : Int) := by have h := HLN.out; simp at h; omega
          have hpn2 : ¬ (1 : Int) ≤ (p : Int) := by omega
          have hwp : (w0 :: r)[p]? = some g := by
            have : ((w0 :: r).drop p)[0]? = some g := by rw [← HRS.out]; rfl
            simpa using this
          have hcg : ∀ o, (w5.alloc o).cell? ⟨bb, oo + p, none⟩ = some (.string g) := fun o => HFC.out o p g hwp
          have hgs : g.size ≤ 1048576 := HSH.out g (List.mem_of_getElem? hwp)
          clear hwp
          have HL2 : Hid (rs2 = [] ↔ p + 1 = 1) := by
            have h := HLN.out
            simp at h
            constructor
            · intro e; subst e; simp at h; omega
            · intro e; exact List.length_eq_zero_iff.1 (by omega)
          by_cases hi : (∃ v, Dc.ans (Tx.nums g) 8192 = some v ∧ v ≤ 8191)
          · obtain ⟨v, hv, hv1⟩ := hi
            have hlab : Lab.ok (Tx.nums g) = false := by
              cases hl : Lab.ok (Tx.nums g) with
              | false => rfl
              | true => rw [Rl.ok_num _ 8192 hl] at hv; cases hv
            have HT : Hid (tell (Dc.ans (Tx.nums g) 8192) = .returned (.tuple #[.int .i64 v, .bool true])) := by show _ = _; rw [hv]; rfl
            by_cases h2 : rs2 = []
            · have hpn3 : p + 1 = 1 := HL2.out.1 h2
              have hpn4 : (((p : Int) + 1) != (1 : Int)) = false := by rw [bne_eq_false_iff_eq]; omega
              have HV2 : Hid (Rl.A8.val ⟨3, k, x, y, z, v, 0, ⟨#[]⟩⟩ = V) := by
                show _ = _
                rw [← HK.out, h2]
                simp [kont, Rl.fin, Rl.immOf, hlab, hv, hv1]
              clear h2 hv hlab
              go_wp2_with fail
              refine (spec_num g 8192 _ hgs).mono ?_
              rintro e w6 ⟨rfl, rfl⟩
              rw [HT.out]
              go_wp2
              exact bodyPost_ret (v := Rl.A8.val ⟨3, k, x, y, z, v, 0, ⟨#[]⟩⟩) (by simp [results, Tryz.results58, go_sem, Rl.A8.val, z0, z1, z2, z3, z4, z5, z6, z7]) rfl ⟨ret_val HV2.out, ((((((((hbz.alloc hbz.size _).setCell (Nat.le_refl _) _).setCell (Nat.le_refl _) _).setCell (Nat.le_refl _) _).setCell (Nat.le_refl _) _).setCell (Nat.le_refl _) _).setCell (Nat.le_refl _) _).setCell (Nat.le_refl _) _).setCell (Nat.le_refl _) _⟩
            · exact absurd (HL2.out.2 (by omega)) h2
          · obtain ⟨v, t, HT, ht⟩ : ∃ (v : Int) (t : Bool), Hid (tell (Dc.ans (Tx.nums g) 8192) = .returned (.tuple #[.int .i64 v, .bool t])) ∧ (t = true → 8191 < v) := by
              cases ha : Dc.ans (Tx.nums g) 8192 with
              | none => exact ⟨0, false, rfl, fun h => by cases h⟩
              | some v => exact ⟨v, true, rfl, fun _ => by
                  by_cases c : v ≤ 8191
                  · exact absurd ⟨v, ha, c⟩ hi
                  · omega⟩
            have HNO : Hid (¬ (Rl.isBr k = true ∧ Lab.ok (Tx.nums g) = true) → Rl.immOf k x y z g = Rl.no) := fun h => by
              unfold Rl.immOf
              rw [if_neg (by rw [Bool.and_eq_true]; exact h)]
              split
              · rename_i n hn
                rw [if_neg (fun c => hi ⟨n, hn, c⟩)]
              · rfl
            clear hi
            have HIN : Hid (∀ X, Calls Tryz.prog 61 #[.int .i64 k, .int .i64 19, .int .i64 22] X fun e w' => e = .returned (.bool (Rl.isBr k)) ∧ w' = X) := fun X => by
              have := lin_any k 19 22 X
              rw [show decide ((19 : Int) ≤ k ∧ (k : Int) ≤ 22) = Rl.isBr k from by unfold Rl.isBr; congr 1; simp only [eq_iff_iff]; omega] at this
              exact this
            have htt : t = false ∨ (t = true ∧ 8191 < v) := by cases t; exact .inl rfl; exact .inr ⟨rfl, ht rfl⟩
            clear ht
            cases hbr : Rl.isBr k with
            | false =>
              have HV2 : Hid (Rl.no.val = V) := by
                show _ = _
                rw [← HK.out]
                cases rs2 with
                | nil => exact congrArg Rl.A8.val (HNO.out (by rw [hbr]; simp)).symm
                | cons _ _ => rfl
              rcases htt with rfl | ⟨rfl, hv⟩
              all_goals
                go_wp2_with fail
                refine (spec_num g 8192 _ hgs).mono ?_
                rintro e w6 ⟨rfl, rfl⟩
                rw [HT.out]
                go_wp2_with fail
                refine (HIN.out _).mono ?_
                rintro e w6 ⟨rfl, rfl⟩
                rw [hbr]
                go_wp2
                exact bodyPost_ret (v := Rl.A8.val Rl.no) (by simp [results, Tryz.results58, go_sem, Rl.A8.val, z0, z1, z2, z3, z4, z5, z6, z7]) rfl ⟨ret_val HV2.out, ((((((((hbz.alloc hbz.size _).setCell (Nat.le_refl _) _).setCell (Nat.le_refl _) _).setCell (Nat.le_refl _) _).setCell (Nat.le_refl _) _).setCell (Nat.le_refl _) _).setCell (Nat.le_refl _) _).setCell (Nat.le_refl _) _).setCell (Nat.le_refl _) _⟩
            | true =>
              cases hlb : Lab.ok (Tx.nums g) with
              | false =>
                have HV2 : Hid (Rl.no.val = V) := by
                  show _ = _
                  rw [← HK.out]
                  cases rs2 with
                  | nil => exact congrArg Rl.A8.val (HNO.out (by rw [hlb]; simp)).symm
                  | cons _ _ => rfl
                rcases htt with rfl | ⟨rfl, hv⟩
                all_goals
                  go_wp2_with fail
                  refine (spec_num g 8192 _ hgs).mono ?_
                  rintro e w6 ⟨rfl, rfl⟩
                  rw [HT.out]
                  go_wp2_with fail
                  refine (HIN.out _).mono ?_
                  rintro e w6 ⟨rfl, rfl⟩
                  rw [hbr]
                  go_wp2_with fail
                  refine (spec_lab g _ hgs).mono ?_
                  rintro e w6 ⟨rfl, rfl⟩
                  rw [hlb]
                  go_wp2
                  exact bodyPost_ret (v := Rl.A8.val Rl.no) (by simp [results, Tryz.results58, go_sem, Rl.A8.val, z0, z1, z2, z3, z4, z5, z6, z7]) rfl ⟨ret_val HV2.out, ((((((((hbz.alloc hbz.size _).setCell (Nat.le_refl _) _).setCell (Nat.le_refl _) _).setCell (Nat.le_refl _) _).setCell (Nat.le_refl _) _).setCell (Nat.le_refl _) _).setCell (Nat.le_refl _) _).setCell (Nat.le_refl _) _).setCell (Nat.le_refl _) _⟩
              | true =>
                by_cases h2 : rs2 = []
                · have hpn3 : p + 1 = 1 := HL2.out.1 h2
                  have hpn4 : (((p : Int) + 1) != (1 : Int)) = false := by rw [bne_eq_false_iff_eq]; omega
                  have HV2 : Hid (Rl.A8.val ⟨4, k, x, y, z, 0, 0, g⟩ = V) := by
                    show _ = _
                    rw [← HK.out, h2]
                    simp [kont, Rl.fin, Rl.immOf, hlb, hbr]
                  clear h2
                  rcases htt with rfl | ⟨rfl, hv⟩
                  all_goals
                    go_wp2_with fail
                    refine (spec_num g 8192 _ hgs).mono ?_
                    rintro e w6 ⟨rfl, rfl⟩
                    rw [HT.out]
                    go_wp2_with fail
                    refine (HIN.out _).mono ?_
                    rintro e w6 ⟨rfl, rfl⟩
                    rw [hbr]
                    go_wp2_with fail
                    refine (spec_lab g _ hgs).mono ?_
                    rintro e w6 ⟨rfl, rfl⟩
                    rw [hlb]
                    go_wp2
                    exact bodyPost_ret (v := Rl.A8.val ⟨4, k, x, y, z, 0, 0, g⟩) (by simp [results, Tryz.results58, go_sem, Rl.A8.val, z0, z1, z2, z3, z4, z5, z6, z7]) rfl ⟨ret_val HV2.out, ((((((((hbz.alloc hbz.size _).setCell (Nat.le_refl _) _).setCell (Nat.le_refl _) _).setCell (Nat.le_refl _) _).setCell (Nat.le_refl _) _).setCell (Nat.le_refl _) _).setCell (Nat.le_refl _) _).setCell (Nat.le_refl _) _).setCell (Nat.le_refl _) _⟩
                · exact absurd (HL2.out.2 (by omega)) h2
end Go.Proofs.YtdjapcfejmhjnaaGreatDoor
