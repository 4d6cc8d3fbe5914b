/-
  What the program's own reader of an instruction's words returns: the registers, one behind the other, and what follows them. Conditions: the table of forms lies in memory as its text lays it; the words are texts that are at most 1048576 bytes long.
-/
import Derived.Test.YtdjapcfejmhjnaaGreatDoorRdi
import Derived.Deep.QuietTactic
import Derived.BigQuiet
namespace Go.Proofs.YtdjapcfejmhjnaaGreatDoor
open Go.ChangeShapes Go.WideShapes Go.ChangeAt Go.RowKit Go.Deep
set_option linter.unusedVariables false
set_option maxRecDepth 20000

set_option maxHeartbeats 4000000 in
theorem impl_rdi_at (k n cap cnt : Nat) (f : Int) (qa qb qc qm : Bool) (a : Option Addr) (ws : List ByteArray) (V : Value) (w : World) (hk : k < 33) (hf0 : 0 ≤ f) (hf1 : f < 16) (hcf : w.cell? ⟨1, k, none⟩ = some (.int .i64 f))
    (Hn : Hid (n = ws.length)) (hn : n ≤ cap) (hcap : cap ≤ 1048576) (hfl : Flds w a ws) (hsh : Short ws) (hc : cnt ≤ 4) (heq : n = cnt) (hct : Hid (cnt = left qa qb qc qm 0))
    (HO : Hid (∀ w, Calls Tryz.prog 123 #[.int .u64 f] w fun e w' => e = .returned (.int .i64 cnt) ∧ w' = w))
    (HA : Hid ((bits .and .i64 f 1 == 0) = !qa)) (HB : Hid ((bits .and .i64 f 2 == 0) = !qb)) (HC : Hid ((bits .and .i64 f 4 == 0) = !qc))
    (HV : Hid ((kont qa qb qc qm k 0 0 0 0 ws).val = V)) :
    Calls Tryz.prog 100 #[.int .i64 k, .slice a n cap] w fun e w' => e = .returned V ∧ Below w.heap.size w w' := by
  have hne2 : ((n : Int) != (cnt : Int)) = false := by rw [bne_eq_false_iff_eq]; omega
  have hcf2 := (((Below.refl _ w).alloc (Nat.le_refl _) (.cells #[Value.int .i64 0, .int .i64 0, .int .i64 0, .int .i64 0, .int .i64 0, .int .i64 0, .int .u32 0, .string ⟨#[]⟩] 114)).cell (p := ⟨1, k, none⟩) (World.block_lt_of_cell? w _ hcf)).trans hcf
  have HCF : Hid _ := hcf
  have HF : Hid (Flds w a ws) := hfl
  have HSH : Hid _ := hsh
  have HS : Hid _ := RI.start w
  have HL : Hid (ws.length = left qa qb qc qm 0) := by show _ = _; rw [← Hn.out, heq, hct.out]
  clear hcf hfl hsh heq
  go_enter Tryz.func100, Tryz.ntmps100
  go_wp2_with fail
  refine (isOp_yes _ _ (by omega) (by omega)).mono ?_
  rintro e w1 ⟨rfl, rfl⟩
  go_wp2_with fail
  refine (HO.out _).mono ?_
  rintro e w1 ⟨rfl, rfl⟩
  go_wp2
  go_loopw [1, 6, 7, 8, 24] (fun fl at' r ok i wr => ∃ (j : Nat) (rs : List ByteArray) (ad : Option Addr) (m cp : Nat) (x y z : Int), i = .int .i64 j ∧ j ≤ 3 ∧ fl = .slice ad m cp ∧ m ≤ cp ∧ cp ≤ 1048576 ∧ Hid (m = rs.length) ∧ Hid (Flds w ad rs) ∧ Hid (Short rs) ∧ Hid (RI w wr x y z) ∧
      Hid (rs.length = left qa qb qc qm j) ∧ Hid ((kont qa qb qc qm k j x y z rs).val = V) ∧ Hid (j = 0 → x = 0 ∧ y = 0 ∧ z = 0) ∧ Hid (j = 1 → y = 0 ∧ z = 0) ∧ Hid (j = 2 → z = 0)) (fun _ _ _ _ i _ => (3 - intOf i).toNat)
  case atStart => exact ⟨0, ws, a, n, cap, 0, 0, 0, rfl, by omega, rfl, hn, hcap, Hn, HF, HSH, HS, HL, HV, fun _ => ⟨rfl, rfl, rfl⟩, fun h => absurd h (by omega), fun h => absurd h (by omega)⟩
  case round =>
    obtain ⟨j, rs, ad, m, cp, x, y, z, rfl, hj, rfl, hm, hcp, HM, HFL, HSHR, HR, HLL, HK, HZ0, HZ1, HZ2⟩ := hrel
    have hlt := HR.out.lt
    have cf := (HR.out.below.cell (p := ⟨1, k, none⟩) (World.block_lt_of_cell? w _ HCF.out)).trans HCF.out
    obtain rfl | rfl | rfl | rfl : j = 0 ∨ j = 1 ∨ j = 2 ∨ j = 3 := by omega
    · obtain ⟨h1, h2, h3⟩ := HZ0.out rfl
      subst h1 h2 h3
      clear HZ0 HZ1 HZ2
      cases qa
      · have hq := HA.out
        have HK2 : Hid ((kont false qb qc qm k 1 0 0 0 rs).val = V) := by
          show _ = _
          rw [← HK.out]
          rfl
        have HL2 : Hid (rs.length = left false qb qc qm 1) := by
          show _ = _
          rw [HLL.out]
          simp [left, Rl.one]
        go_wp2
        go_quiet (fail)
        go_wp2
        go_roundw
        case rel =>
          refine ⟨1, rs, ad, m, cp, 0, 0, 0, by go_num, by omega, rfl, hm, hcp, HM, HFL, HSHR, HR.out.hop (below_drewN (Below.refl _ _) _), HL2, HK2, ?_, ?_, ?_⟩
          · exact fun h => absurd h (by omega)
          · exact fun _ => ⟨rfl, rfl⟩
          · exact fun h => absurd h (by omega)
        case measure => simp [intOf]
      · have hq := HA.out
        obtain ⟨g, rs2, rfl⟩ : ∃ g rs2, rs = g :: rs2 := by
          cases rs with
          | nil => have h := HLL.out; simp [left, Rl.one] at h <;> omega
          | cons g rs2 => exact ⟨g, rs2, rfl⟩
        obtain ⟨bb, oo, rfl, hbl, hcg⟩ := Flds.head (Flds.below HFL.out HR.out.below)
        have hg := Short.head HSHR.out
        have hm1 : 1 ≤ m := by rw [HM.out]; simp
        obtain ⟨v, t, HT, ht1, ht0⟩ := fixT (Rl.reg g)
        have HT1 : Hid _ := ht1
        have HT0 : Hid _ := ht0
        clear ht1 ht0
        go_wp2
        go_quiet (fail)
        go_wp2_with fail
        refine (impl_reg g _ hg).mono ?_
        rintro e w2 ⟨rfl, hb2⟩
        rw [HT.out]
        have HR2 : Hid _ := RI.hop (RI.hop HR.out (below_drewN (Below.refl _ _) _)) hb2
        have hlt2 := HR2.out.lt
        clear hb2
        cases t
        · have HV2 : Hid (Rl.no.val = V) := by
            show _ = _
            rw [← HK.out]
            simp only [kont, Rl.k0, Rl.take1, HT0.out rfl, Option.map_none]
          have z0 := (HR2.out).cell 0 (.int .i64 0) rfl
          have z1 := (HR2.out).cell 1 (.int .i64 0) rfl
          have z2 := (HR2.out).cell 2 (.int .i64 0) rfl
          have z3 := (HR2.out).cell 3 (.int .i64 0) rfl
          have z4 := (HR2.out).cell 4 (.int .i64 0) rfl
          have z5 := (HR2.out).cell 5 (.int .i64 0) rfl
          have z6 := (HR2.out).cell 6 (.int .u32 0) rfl
          have z7 := (HR2.out).cell 7 (.string ⟨#[]⟩) rfl
          have hf := (HR2.out).free
          have hb3 := HR2.out.below
          go_wp2
          exact bodyPost_ret (v := Rl.A8.val Rl.no) (by simp [results, Tryz.results100, go_sem, Rl.A8.val, z0, z1, z2, z3, z4, z5, z6, z7]) rfl ⟨ret_val HV2.out, ((((((((hb3).setCell (Nat.le_refl _) _).setCell (Nat.le_refl _) _).setCell (Nat.le_refl _) _).setCell (Nat.le_refl _) _).setCell (Nat.le_refl _) _).setCell (Nat.le_refl _) _).setCell (Nat.le_refl _) _).setCell (Nat.le_refl _) _⟩
        · have r0 := HR2.out.reg 0 _ rfl
          have hrf := HR2.out.rfree
          have HR3 : Hid _ := RI.set (n := v) 0 HR2.out (by omega) (show _ = (#[.int .i64 v, .int .i64 0, .int .i64 0] : Array Value) from rfl)
          have HF3 : Hid _ := (Flds.rest (cap := cp) HFL.out (by rw [← HM.out]; exact hm))
          have HK2 : Hid ((kont true qb qc qm k 1 v 0 0 rs2).val = V) := by
            show _ = _
            rw [← HK.out]
            simp only [kont, Rl.k0, Rl.take1, HT1.out rfl, Option.map_some]
          have HL2 : Hid (rs2.length = left true qb qc qm 1) := by
            have := HLL.out
            show _ = _
            simp only [left, Rl.one, List.length_cons, if_true] at this ⊢
            omega
          go_wp2
          go_roundw
          case rel =>
            refine ⟨1, rs2, _, m - 1, cp - 1, v, 0, 0, by go_num, by omega, cut1 _ _ _, by omega, by omega, by rw [HM.out]; rfl, HF3, Short.tail HSHR.out, HR3, HL2, HK2, ?_, ?_, ?_⟩
            · exact fun h => absurd h (by omega)
            · exact fun _ => ⟨rfl, rfl⟩
            · exact fun h => absurd h (by omega)
          case measure => simp [intOf]
    · obtain ⟨h2, h3⟩ := HZ1.out rfl
      subst h2 h3
      clear HZ0 HZ1 HZ2
      cases qb
      · have hq := HB.out
        have HK2 : Hid ((kont qa false qc qm k 2 x 0 0 rs).val = V) := by
          show _ = _
          rw [← HK.out]
          rfl
        have HL2 : Hid (rs.length = left qa false qc qm 2) := by
          show _ = _
          rw [HLL.out]
          simp [left, Rl.one]
        go_wp2
        go_quiet (fail)
        go_wp2
        go_roundw
        case rel =>
          refine ⟨2, rs, ad, m, cp, x, 0, 0, by go_num, by omega, rfl, hm, hcp, HM, HFL, HSHR, HR.out.hop (below_drewN (Below.refl _ _) _), HL2, HK2, ?_, ?_, ?_⟩
          · exact fun h => absurd h (by omega)
          · exact fun h => absurd h (by omega)
          · exact fun _ => rfl
        case measure => simp [intOf]
      · have hq := HB.out
        obtain ⟨g, rs2, rfl⟩ : ∃ g rs2, rs = g :: rs2 := by
          cases rs with
          | nil => have h := HLL.out; simp [left, Rl.one] at h <;> omega
          | cons g rs2 => exact ⟨g, rs2, rfl⟩
        obtain ⟨bb, oo, rfl, hbl, hcg⟩ := Flds.head (Flds.below HFL.out HR.out.below)
        have hg := Short.head HSHR.out
        have hm1 : 1 ≤ m := by rw [HM.out]; simp
        obtain ⟨v, t, HT, ht1, ht0⟩ := fixT (Rl.reg g)
        have HT1 : Hid _ := ht1
        have HT0 : Hid _ := ht0
        clear ht1 ht0
        go_wp2
        go_quiet (fail)
        go_wp2_with fail
        refine (impl_reg g _ hg).mono ?_
        rintro e w2 ⟨rfl, hb2⟩
        rw [HT.out]
        have HR2 : Hid _ := RI.hop (RI.hop HR.out (below_drewN (Below.refl _ _) _)) hb2
        have hlt2 := HR2.out.lt
        clear hb2
        cases t
        · have HV2 : Hid (Rl.no.val = V) := by
            show _ = _
            rw [← HK.out]
            simp only [kont, Rl.k1, Rl.take1, HT0.out rfl, Option.map_none]
          have z0 := (HR2.out).cell 0 (.int .i64 0) rfl
          have z1 := (HR2.out).cell 1 (.int .i64 0) rfl
          have z2 := (HR2.out).cell 2 (.int .i64 0) rfl
          have z3 := (HR2.out).cell 3 (.int .i64 0) rfl
          have z4 := (HR2.out).cell 4 (.int .i64 0) rfl
          have z5 := (HR2.out).cell 5 (.int .i64 0) rfl
          have z6 := (HR2.out).cell 6 (.int .u32 0) rfl
          have z7 := (HR2.out).cell 7 (.string ⟨#[]⟩) rfl
          have hf := (HR2.out).free
          have hb3 := HR2.out.below
          go_wp2
          exact bodyPost_ret (v := Rl.A8.val Rl.no) (by simp [results, Tryz.results100, go_sem, Rl.A8.val, z0, z1, z2, z3, z4, z5, z6, z7]) rfl ⟨ret_val HV2.out, ((((((((hb3).setCell (Nat.le_refl _) _).setCell (Nat.le_refl _) _).setCell (Nat.le_refl _) _).setCell (Nat.le_refl _) _).setCell (Nat.le_refl _) _).setCell (Nat.le_refl _) _).setCell (Nat.le_refl _) _).setCell (Nat.le_refl _) _⟩
        · have r1 := HR2.out.reg 1 _ rfl
          have hrf := HR2.out.rfree
          have HR3 : Hid _ := RI.set (n := v) 1 HR2.out (by omega) (show _ = (#[.int .i64 x, .int .i64 v, .int .i64 0] : Array Value) from rfl)
          have HF3 : Hid _ := (Flds.rest (cap := cp) HFL.out (by rw [← HM.out]; exact hm))
          have HK2 : Hid ((kont qa true qc qm k 2 x v 0 rs2).val = V) := by
            show _ = _
            rw [← HK.out]
            simp only [kont, Rl.k1, Rl.take1, HT1.out rfl, Option.map_some]
          have HL2 : Hid (rs2.length = left qa true qc qm 2) := by
            have := HLL.out
            show _ = _
            simp only [left, Rl.one, List.length_cons, if_true] at this ⊢
            omega
          go_wp2
          go_roundw
          case rel =>
            refine ⟨2, rs2, _, m - 1, cp - 1, x, v, 0, by go_num, by omega, cut1 _ _ _, by omega, by omega, by rw [HM.out]; rfl, HF3, Short.tail HSHR.out, HR3, HL2, HK2, ?_, ?_, ?_⟩
            · exact fun h => absurd h (by omega)
            · exact fun h => absurd h (by omega)
            · exact fun _ => rfl
          case measure => simp [intOf]
    · have h3 := HZ2.out rfl
      subst h3
      clear HZ0 HZ1 HZ2
      cases qc
      · have hq := HC.out
        have HK2 : Hid ((kont qa qb false qm k 3 x y 0 rs).val = V) := by
          show _ = _
          rw [← HK.out]
          rfl
        have HL2 : Hid (rs.length = left qa qb false qm 3) := by
          show _ = _
          rw [HLL.out]
          simp [left, Rl.one]
        go_wp2
        go_quiet (fail)
        go_wp2
        go_roundw
        case rel =>
          refine ⟨3, rs, ad, m, cp, x, y, 0, by go_num, by omega, rfl, hm, hcp, HM, HFL, HSHR, HR.out.hop (below_drewN (Below.refl _ _) _), HL2, HK2, ?_, ?_, ?_⟩
          · exact fun h => absurd h (by omega)
          · exact fun h => absurd h (by omega)
          · exact fun h => absurd h (by omega)
        case measure => simp [intOf]
      · have hq := HC.out
        obtain ⟨g, rs2, rfl⟩ : ∃ g rs2, rs = g :: rs2 := by
          cases rs with
          | nil => have h := HLL.out; simp [left, Rl.one] at h <;> omega
          | cons g rs2 => exact ⟨g, rs2, rfl⟩
        obtain ⟨bb, oo, rfl, hbl, hcg⟩ := Flds.head (Flds.below HFL.out HR.out.below)
        have hg := Short.head HSHR.out
        have hm1 : 1 ≤ m := by rw [HM.out]; simp
        obtain ⟨v, t, HT, ht1, ht0⟩ := fixT (Rl.reg g)
        have HT1 : Hid _ := ht1
        have HT0 : Hid _ := ht0
        clear ht1 ht0
        go_wp2
        go_quiet (fail)
        go_wp2_with fail
        refine (impl_reg g _ hg).mono ?_
        rintro e w2 ⟨rfl, hb2⟩
        rw [HT.out]
        have HR2 : Hid _ := RI.hop (RI.hop HR.out (below_drewN (Below.refl _ _) _)) hb2
        have hlt2 := HR2.out.lt
        clear hb2
        cases t
        · have HV2 : Hid (Rl.no.val = V) := by
            show _ = _
            rw [← HK.out]
            simp only [kont, Rl.k2, Rl.take1, HT0.out rfl, Option.map_none]
          have z0 := (HR2.out).cell 0 (.int .i64 0) rfl
          have z1 := (HR2.out).cell 1 (.int .i64 0) rfl
          have z2 := (HR2.out).cell 2 (.int .i64 0) rfl
          have z3 := (HR2.out).cell 3 (.int .i64 0) rfl
          have z4 := (HR2.out).cell 4 (.int .i64 0) rfl
          have z5 := (HR2.out).cell 5 (.int .i64 0) rfl
          have z6 := (HR2.out).cell 6 (.int .u32 0) rfl
          have z7 := (HR2.out).cell 7 (.string ⟨#[]⟩) rfl
          have hf := (HR2.out).free
          have hb3 := HR2.out.below
          go_wp2
          exact bodyPost_ret (v := Rl.A8.val Rl.no) (by simp [results, Tryz.results100, go_sem, Rl.A8.val, z0, z1, z2, z3, z4, z5, z6, z7]) rfl ⟨ret_val HV2.out, ((((((((hb3).setCell (Nat.le_refl _) _).setCell (Nat.le_refl _) _).setCell (Nat.le_refl _) _).setCell (Nat.le_refl _) _).setCell (Nat.le_refl _) _).setCell (Nat.le_refl _) _).setCell (Nat.le_refl _) _).setCell (Nat.le_refl _) _⟩
        · have r2 := HR2.out.reg 2 _ rfl
          have hrf := HR2.out.rfree
          have HR3 : Hid _ := RI.set (n := v) 2 HR2.out (by omega) (show _ = (#[.int .i64 x, .int .i64 y, .int .i64 v] : Array Value) from rfl)
          have HF3 : Hid _ := (Flds.rest (cap := cp) HFL.out (by rw [← HM.out]; exact hm))
          have HK2 : Hid ((kont qa qb true qm k 3 x y v rs2).val = V) := by
            show _ = _
            rw [← HK.out]
            simp only [kont, Rl.k2, Rl.take1, HT1.out rfl, Option.map_some]
          have HL2 : Hid (rs2.length = left qa qb true qm 3) := by
            have := HLL.out
            show _ = _
            simp only [left, Rl.one, List.length_cons, if_true] at this ⊢
            omega
          go_wp2
          go_roundw
          case rel =>
            refine ⟨3, rs2, _, m - 1, cp - 1, x, y, v, by go_num, by omega, cut1 _ _ _, by omega, by omega, by rw [HM.out]; rfl, HF3, Short.tail HSHR.out, HR3, HL2, HK2, ?_, ?_, ?_⟩
            · exact fun h => absurd h (by omega)
            · exact fun h => absurd h (by omega)
            · exact fun h => absurd h (by omega)
          case measure => simp [intOf]
    · clear HZ0 HZ1 HZ2
      have r0 := HR.out.reg 0 _ rfl
      have r1 := HR.out.reg 1 _ rfl
      have r2 := HR.out.reg 2 _ rfl
      have z0 : ∀ o, (wr.alloc o).cell? ⟨w.heap.size, 0, none⟩ = some (.int .i64 0) := fun o => cell_alloc ((HR.out).cell 0 _ rfl)
      have z1 : ∀ o, (wr.alloc o).cell? ⟨w.heap.size, 1, none⟩ = some (.int .i64 0) := fun o => cell_alloc ((HR.out).cell 1 _ rfl)
      have z2 : ∀ o, (wr.alloc o).cell? ⟨w.heap.size, 2, none⟩ = some (.int .i64 0) := fun o => cell_alloc ((HR.out).cell 2 _ rfl)
      have z3 : ∀ o, (wr.alloc o).cell? ⟨w.heap.size, 3, none⟩ = some (.int .i64 0) := fun o => cell_alloc ((HR.out).cell 3 _ rfl)
      have z4 : ∀ o, (wr.alloc o).cell? ⟨w.heap.size, 4, none⟩ = some (.int .i64 0) := fun o => cell_alloc ((HR.out).cell 4 _ rfl)
      have z5 : ∀ o, (wr.alloc o).cell? ⟨w.heap.size, 5, none⟩ = some (.int .i64 0) := fun o => cell_alloc ((HR.out).cell 5 _ rfl)
      have z6 : ∀ o, (wr.alloc o).cell? ⟨w.heap.size, 6, none⟩ = some (.int .u32 0) := fun o => cell_alloc ((HR.out).cell 6 _ rfl)
      have z7 : ∀ o, (wr.alloc o).cell? ⟨w.heap.size, 7, none⟩ = some (.string ⟨#[]⟩) := fun o => cell_alloc ((HR.out).cell 7 _ rfl)
      have hf : ∀ o i, (wr.alloc o).frozen? ⟨w.heap.size, i, none⟩ = false := fun o i => (((Below.refl _ wr).alloc (Nat.le_refl _) o).frozen (p := ⟨w.heap.size, i, none⟩) (by have := (HR.out).lt; simp; omega)).trans ((HR.out).free i)
      have hbw := HR.out.below
      cases qm
      · obtain rfl : rs = [] := by
          have h := HLL.out
          simp [left, Rl.one] at h
          exact h
        obtain rfl : m = 0 := HM.out
        have HV2 : Hid (Rl.A8.val ⟨3, k, x, y, z, 0, 0, ⟨#[]⟩⟩ = V) := HK.out
        go_wp2
        exact bodyPost_ret (v := Rl.A8.val ⟨3, k, x, y, z, 0, 0, ⟨#[]⟩⟩) (by simp [results, Tryz.results100, go_sem, Rl.A8.val, z0, z1, z2, z3, z4, z5, z6, z7]) rfl ⟨ret_val HV2.out, ((((((((hbw.alloc hbw.size _).setCell (Nat.le_refl _) _).setCell (Nat.le_refl _) _).setCell (Nat.le_refl _) _).setCell (Nat.le_refl _) _).setCell (Nat.le_refl _) _).setCell (Nat.le_refl _) _).setCell (Nat.le_refl _) _).setCell (Nat.le_refl _) _⟩
      · obtain ⟨g, rfl⟩ : ∃ g, rs = [g] := by
          have h := HLL.out
          simp [left, Rl.one] at h
          cases rs with
          | nil => cases h
          | cons g r =>
            cases r with
            | nil => exact ⟨g, rfl⟩
            | cons _ _ => simp at h
        obtain rfl : m = 1 := HM.out
        obtain ⟨bb, oo, rfl, hbl, hcg0⟩ := Flds.head (Flds.below HFL.out HR.out.below)
        have hcg : ∀ o, (wr.alloc o).cell? ⟨bb, oo, none⟩ = some (.string g) := fun o => cell_alloc hcg0
        have hg := Short.head HSHR.out
        obtain ⟨⟨k1, o1, a1, b1, c1, m1, wd1, lab1⟩, hA⟩ : ∃ A, Rl.immOf k x y z g = A := ⟨_, rfl⟩
        have HI : Hid (∀ w, Calls Tryz.prog 125 #[ins k x y z 0, .string g] w fun e w' => e = .returned (.agg #[.int .i64 k1, .int .i64 o1, .int .i64 a1, .int .i64 b1, .int .i64 c1, .int .i64 m1, .int .u32 wd1, .string lab1]) ∧ Below w.heap.size w w') := fun w => by
          have := impl_imm k x y z g w hk hg
          rw [hA] at this
          exact this
        have HV2 : Hid (Rl.A8.val ⟨k1, o1, a1, b1, c1, m1, wd1, lab1⟩ = V) := by
          show _ = _
          rw [← HK.out, ← hA]
          rfl
        clear hA hcg0
        go_wp2
        go_region_with (go_at_call 125; refine Calls.mono (HI.out _) ?_; rintro e w2 ⟨rfl, hb2⟩; obtain ⟨y0, y1, y2, y3, y4, y5, y6, y7, yf, hb3⟩ := RI.res (RI.hop (RI.hop HR.out (below_drewN ((Below.refl _ wr).alloc (Nat.le_refl _) _) _)) hb2); clear z0 z1 z2 z3 z4 z5 z6 z7 hf hb2)
        all_goals
          go_wp2
          exact bodyPost_ret (v := Rl.A8.val ⟨k1, o1, a1, b1, c1, m1, wd1, lab1⟩) (by simp [results, Tryz.results100, go_sem, Rl.A8.val, y0, y1, y2, y3, y4, y5, y6, y7]) rfl ⟨ret_val HV2.out, ((((((((hb3).setCell (Nat.le_refl _) _).setCell (Nat.le_refl _) _).setCell (Nat.le_refl _) _).setCell (Nat.le_refl _) _).setCell (Nat.le_refl _) _).setCell (Nat.le_refl _) _).setCell (Nat.le_refl _) _).setCell (Nat.le_refl _) _⟩
end Go.Proofs.YtdjapcfejmhjnaaGreatDoor
