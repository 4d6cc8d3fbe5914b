/-
  What an instruction does to a step's own guest, by the program. Conditions: the guest is of the call's own, its registers are words.
  What an instruction does to a step's own guest, by the program. Conditions: the guest is of the call's own, its registers are words.
  What an instruction does to a step's own guest, by the program. Conditions: the guest is of the call's own, its registers are words.
-/
import Derived.Test.YtjlhkjiccibgdaaGreatDoorCsp
namespace Go.Proofs.YtjlhkjiccibgdaaGreatDoor
open Go.ChangeShapes Go.WideShapes Go.ChangeAt Go.RowKit Go.Deep
set_option linter.unusedVariables false

set_option maxRecDepth 20000 in
set_option maxHeartbeats 4000000 in
theorem do22 (Sb lo mm hi rc n mc A B C cap : Nat) (ra ma a : Option Addr) (pc m cy : Int) (rs : List Int) (D : Nat → List Int) (w : World)
    (hB : Bk w Sb (srow ra 16 rc pc ma n mc 0 22 (-1) false false)) (hS : OGst w lo mm hi ra ma rs n D) (hl : rs.length = 16) (hw : ∀ z ∈ rs, (Lit.int .u32 z).wf = true) (hA : A ≤ 15) (hBB : B ≤ 15) (hC : C ≤ 15) (hm0 : -8192 ≤ m) (hm1 : m ≤ 8191) (hp0 : 0 ≤ pc) (hp1 : pc ≤ 4294967295) (hSb : Sb < lo) (hlm : lo ≤ mm) (hmh : mm ≤ hi) (hhi : hi ≤ w.heap.size) :
    Calls Tryz.prog 56 #[.pointer (some ⟨Sb, 0, none⟩), .slice a n cap, Is.ins 22 A B C m, .int .i64 cy] w fun e w' => e = .returned (.tuple #[]) ∧ Betw Sb hi w w' ∧ Bk w' Sb (srow ra 16 rc ((((pc + 4) % 4294967296) + 4 * (m % 4294967296) % 4294967296) % 4294967296) ma n mc 0 22 (-1) false false) ∧ OGst w' lo mm hi ra ma (setR rs A ((pc + 4) % 4294967296)) n D := by
  obtain ⟨R, off, rfl, hR, hR1, hR2, hc⟩ := regs_at hS hl
  have e1 := hc A (by omega)
  have e2 := hc B (by omega)
  have e3 := hc C (by omega)
  obtain ⟨a1, a2⟩ := wf_reg hw hl A (by omega)
  obtain ⟨b1, b2⟩ := wf_reg hw hl B (by omega)
  obtain ⟨c1, c2⟩ := wf_reg hw hl C (by omega)
  have s0 := hB.cell 0 _ rfl
  have s1 := hB.cell 1 _ rfl
  have s2 := hB.cell 2 _ rfl
  have sl := hB.lt
  have f1 := hB.free 1
  have HB : Hid (Bk w Sb (srow (some ⟨R, off, none⟩) 16 rc pc ma n mc 0 22 (-1) false false)) := hB
  have HS : Hid (OGst w lo mm hi (some ⟨R, off, none⟩) ma rs n D) := hS
  have hA' : (A : Int) < 16 := by omega
  have hB' : (B : Int) < 16 := by omega
  have hC' : (C : Int) < 16 := by omega
  generalize rs.getD A 0 = ua at *
  generalize rs.getD B 0 = ub at *
  generalize rs.getD C 0 = uc at *
  clear hB hS hc hw
  go_enter Tryz.func56, Tryz.ntmps56
  go_wp2
  go_quiet (fail)
  go_wp2
  have hbW : Below w.heap.size w ((w.alloc (.cells #[.int .i64 22, .int .i64 A, .int .i64 B, .int .i64 C, .int .i64 m] 66)).drewN nq) := below_drewN ((Below.refl _ _).alloc (Nat.le_refl _) _) _
  have hI : Bk ((w.alloc (.cells #[.int .i64 22, .int .i64 A, .int .i64 B, .int .i64 C, .int .i64 m] 66)).drewN nq) w.heap.size #[.int .i64 22, .int .i64 A, .int .i64 B, .int .i64 C, .int .i64 m] := (Bk.new w _ 66 w.heap.size rfl).below (below_drewN (Below.refl _ _) _)
  revert hbW hI
  generalize (w.alloc (.cells #[.int .i64 22, .int .i64 A, .int .i64 B, .int .i64 C, .int .i64 m] 66)).drewN nq = W
  intro hbW hI
  replace HB : Hid (Bk W Sb (srow (some ⟨R, off, none⟩) 16 rc pc ma n mc 0 22 (-1) false false)) := HB.out.below hbW
  replace HS : Hid (OGst W lo mm hi (some ⟨R, off, none⟩) ma rs n D) := OGst.below HS.out hbW
  replace hbW : Hid (Below w.heap.size w W) := hbW
  replace s0 := HB.out.cell 0 _ rfl
  replace s1 := HB.out.cell 1 _ rfl
  replace s2 := HB.out.cell 2 _ rfl
  have i0 := hI.cell 0 _ rfl
  have i1 := hI.cell 1 _ rfl
  clear hI e1 e2 e3 f1
  go_region_with (go_loud (go_at_call 78; (first | rw [IntKind.wrap_u32] | skip); refine (put_i _ ma rc n mc A lo mm hi pc _ rs D _ (by first | exact HS.out | exact OGst.below HS.out (Below.refl _ _).drew) hl hA hlm hmh).mono ?_; rintro e9 w9 ⟨rfl, hbt, hsp⟩; have HF : Hid (Betw Sb hi w w9) := (by first | exact (Below.betw hbW.out).trans (hbt.wide (by omega) (Nat.le_refl _)) | exact (Below.betw hbW.out.drew).trans (hbt.wide (by omega) (Nat.le_refl _))); have HK9 : Hid (Bk w9 Sb (srow (some ⟨R, off, none⟩) 16 rc pc ma n mc 0 22 (-1) false false)) := (by first | exact HB.out.betw hbt (.inl hSb) | exact (HB.out.below (Below.refl _ _).drew).betw hbt (.inl hSb)); have HS9 : Hid (OGst w9 lo mm hi (some ⟨R, off, none⟩) ma _ n D) := hsp; clear hbt hsp HB HS hbW))
  all_goals
    clear s0 s1 s2 i0 i1
    have s1 := HK9.out.cell 1 _ rfl
    have f1 := HK9.out.free 1
    have sl9 := HK9.out.lt
    go_wp2
    go_end0
    exact ⟨rfl, HF.out.setCell (p := ⟨Sb, 1, none⟩) (Nat.le_refl _) (by show Sb < hi; omega) _, HK9.out.set 1 _ (by simp) (srow_pc (by first | rfl | omega)), OGst.betw HS9.out ((Betw.refl Sb (Sb + 1) w9).setCell (p := ⟨Sb, 1, none⟩) (Nat.le_refl _) (Nat.lt_succ_self _) _) (.inr (by omega)) hlm hmh⟩
end Go.Proofs.YtjlhkjiccibgdaaGreatDoor
namespace Go.Proofs.YtjlhkjiccibgdaaGreatDoor
open Go.ChangeShapes Go.WideShapes Go.ChangeAt Go.RowKit Go.Deep
set_option linter.unusedVariables false

set_option maxRecDepth 20000 in
set_option maxHeartbeats 4000000 in
theorem do23 (Sb lo mm hi rc n mc A B C cap : Nat) (ra ma a : Option Addr) (pc m cy : Int) (rs : List Int) (D : Nat → List Int) (w : World)
    (hB : Bk w Sb (srow ra 16 rc pc ma n mc 0 23 (-1) false false)) (hS : OGst w lo mm hi ra ma rs n D) (hl : rs.length = 16) (hw : ∀ z ∈ rs, (Lit.int .u32 z).wf = true) (hA : A ≤ 15) (hBB : B ≤ 15) (hC : C ≤ 15) (hm0 : -8192 ≤ m) (hm1 : m ≤ 8191) (hp0 : 0 ≤ pc) (hp1 : pc ≤ 4294967295) (hSb : Sb < lo) (hlm : lo ≤ mm) (hmh : mm ≤ hi) (hhi : hi ≤ w.heap.size) :
    Calls Tryz.prog 56 #[.pointer (some ⟨Sb, 0, none⟩), .slice a n cap, Is.ins 23 A B C m, .int .i64 cy] w fun e w' => e = .returned (.tuple #[]) ∧ Betw Sb hi w w' ∧ Bk w' Sb (srow ra 16 rc ((rs.getD B 0 + m % 4294967296) % 4294967296) ma n mc 0 23 (-1) false false) ∧ OGst w' lo mm hi ra ma rs n D := by
  obtain ⟨R, off, rfl, hR, hR1, hR2, hc⟩ := regs_at hS hl
  have e1 := hc A (by omega)
  have e2 := hc B (by omega)
  have e3 := hc C (by omega)
  obtain ⟨a1, a2⟩ := wf_reg hw hl A (by omega)
  obtain ⟨b1, b2⟩ := wf_reg hw hl B (by omega)
  obtain ⟨c1, c2⟩ := wf_reg hw hl C (by omega)
  have s0 := hB.cell 0 _ rfl
  have s1 := hB.cell 1 _ rfl
  have s2 := hB.cell 2 _ rfl
  have sl := hB.lt
  have f1 := hB.free 1
  have HB : Hid (Bk w Sb (srow (some ⟨R, off, none⟩) 16 rc pc ma n mc 0 23 (-1) false false)) := hB
  have HS : Hid (OGst w lo mm hi (some ⟨R, off, none⟩) ma rs n D) := hS
  have hA' : (A : Int) < 16 := by omega
  have hB' : (B : Int) < 16 := by omega
  have hC' : (C : Int) < 16 := by omega
  generalize rs.getD A 0 = ua at *
  generalize rs.getD B 0 = ub at *
  generalize rs.getD C 0 = uc at *
  clear hB hS hc hw
  go_enter Tryz.func56, Tryz.ntmps56
  go_wp2
  go_quiet (fail)
  have hbW : Below w.heap.size w ((w.alloc (.cells #[.int .i64 23, .int .i64 A, .int .i64 B, .int .i64 C, .int .i64 m] 66)).drewN nq) := below_drewN ((Below.refl _ _).alloc (Nat.le_refl _) _) _
  have hI : Bk ((w.alloc (.cells #[.int .i64 23, .int .i64 A, .int .i64 B, .int .i64 C, .int .i64 m] 66)).drewN nq) w.heap.size #[.int .i64 23, .int .i64 A, .int .i64 B, .int .i64 C, .int .i64 m] := (Bk.new w _ 66 w.heap.size rfl).below (below_drewN (Below.refl _ _) _)
  revert hbW hI
  generalize (w.alloc (.cells #[.int .i64 23, .int .i64 A, .int .i64 B, .int .i64 C, .int .i64 m] 66)).drewN nq = W
  intro hbW hI
  replace HB : Hid (Bk W Sb (srow (some ⟨R, off, none⟩) 16 rc pc ma n mc 0 23 (-1) false false)) := HB.out.below hbW
  replace HS : Hid (OGst W lo mm hi (some ⟨R, off, none⟩) ma rs n D) := OGst.below HS.out hbW
  replace hbW : Hid (Below w.heap.size w W) := hbW
  replace s0 := HB.out.cell 0 _ rfl
  replace s1 := HB.out.cell 1 _ rfl
  replace s2 := HB.out.cell 2 _ rfl
  have i0 := hI.cell 0 _ rfl
  have i1 := hI.cell 1 _ rfl
  clear hI e1 e2 e3 f1
  have f1 := HB.out.free 1
  have slW := HB.out.lt
  go_wp2
  go_end0
  exact ⟨rfl, (Below.betw hbW.out : Betw Sb hi w W).setCell (p := ⟨Sb, 1, none⟩) (Nat.le_refl _) (by show Sb < hi; omega) _, HB.out.set 1 _ (by simp) (srow_pc (by first | rfl | omega)), OGst.betw HS.out ((Betw.refl Sb (Sb + 1) W).setCell (p := ⟨Sb, 1, none⟩) (Nat.le_refl _) (Nat.lt_succ_self _) _) (.inr (by omega)) hlm hmh⟩
end Go.Proofs.YtjlhkjiccibgdaaGreatDoor
namespace Go.Proofs.YtjlhkjiccibgdaaGreatDoor
open Go.ChangeShapes Go.WideShapes Go.ChangeAt Go.RowKit Go.Deep
set_option linter.unusedVariables false

set_option maxRecDepth 20000 in
set_option maxHeartbeats 4000000 in
theorem do24 (Sb lo mm hi rc n mc A B C cap : Nat) (ra ma a : Option Addr) (pc m cy : Int) (rs : List Int) (D : Nat → List Int) (w : World)
    (hB : Bk w Sb (srow ra 16 rc pc ma n mc 0 24 (-1) false false)) (hS : OGst w lo mm hi ra ma rs n D) (hl : rs.length = 16) (hw : ∀ z ∈ rs, (Lit.int .u32 z).wf = true) (hA : A ≤ 15) (hBB : B ≤ 15) (hC : C ≤ 15) (hm0 : -8192 ≤ m) (hm1 : m ≤ 8191) (hp0 : 0 ≤ pc) (hp1 : pc ≤ 4294967295) (hSb : Sb < lo) (hlm : lo ≤ mm) (hmh : mm ≤ hi) (hhi : hi ≤ w.heap.size) :
    Calls Tryz.prog 56 #[.pointer (some ⟨Sb, 0, none⟩), .slice a n cap, Is.ins 24 A B C m, .int .i64 cy] w fun e w' => e = .returned (.tuple #[]) ∧ Betw Sb hi w w' ∧ Bk w' Sb (srow ra 16 rc ((pc + 4) % 4294967296) ma n mc 0 24 (-1) false false) ∧ OGst w' lo mm hi ra ma (setR rs A (cy % 4294967296)) n D := by
  obtain ⟨R, off, rfl, hR, hR1, hR2, hc⟩ := regs_at hS hl
  have e1 := hc A (by omega)
  have e2 := hc B (by omega)
  have e3 := hc C (by omega)
  obtain ⟨a1, a2⟩ := wf_reg hw hl A (by omega)
  obtain ⟨b1, b2⟩ := wf_reg hw hl B (by omega)
  obtain ⟨c1, c2⟩ := wf_reg hw hl C (by omega)
  have s0 := hB.cell 0 _ rfl
  have s1 := hB.cell 1 _ rfl
  have s2 := hB.cell 2 _ rfl
  have sl := hB.lt
  have f1 := hB.free 1
  have HB : Hid (Bk w Sb (srow (some ⟨R, off, none⟩) 16 rc pc ma n mc 0 24 (-1) false false)) := hB
  have HS : Hid (OGst w lo mm hi (some ⟨R, off, none⟩) ma rs n D) := hS
  have hA' : (A : Int) < 16 := by omega
  have hB' : (B : Int) < 16 := by omega
  have hC' : (C : Int) < 16 := by omega
  generalize rs.getD A 0 = ua at *
  generalize rs.getD B 0 = ub at *
  generalize rs.getD C 0 = uc at *
  clear hB hS hc hw
  go_enter Tryz.func56, Tryz.ntmps56
  go_wp2
  go_quiet (fail)
  go_wp2
  have hbW : Below w.heap.size w ((w.alloc (.cells #[.int .i64 24, .int .i64 A, .int .i64 B, .int .i64 C, .int .i64 m] 66)).drewN nq) := below_drewN ((Below.refl _ _).alloc (Nat.le_refl _) _) _
  have hI : Bk ((w.alloc (.cells #[.int .i64 24, .int .i64 A, .int .i64 B, .int .i64 C, .int .i64 m] 66)).drewN nq) w.heap.size #[.int .i64 24, .int .i64 A, .int .i64 B, .int .i64 C, .int .i64 m] := (Bk.new w _ 66 w.heap.size rfl).below (below_drewN (Below.refl _ _) _)
  revert hbW hI
  generalize (w.alloc (.cells #[.int .i64 24, .int .i64 A, .int .i64 B, .int .i64 C, .int .i64 m] 66)).drewN nq = W
  intro hbW hI
  replace HB : Hid (Bk W Sb (srow (some ⟨R, off, none⟩) 16 rc pc ma n mc 0 24 (-1) false false)) := HB.out.below hbW
  replace HS : Hid (OGst W lo mm hi (some ⟨R, off, none⟩) ma rs n D) := OGst.below HS.out hbW
  replace hbW : Hid (Below w.heap.size w W) := hbW
  replace s0 := HB.out.cell 0 _ rfl
  replace s1 := HB.out.cell 1 _ rfl
  replace s2 := HB.out.cell 2 _ rfl
  have i0 := hI.cell 0 _ rfl
  have i1 := hI.cell 1 _ rfl
  clear hI e1 e2 e3 f1
  go_region_with (go_loud (go_at_call 78; (first | rw [IntKind.wrap_u32] | skip); refine (put_i _ ma rc n mc A lo mm hi pc _ rs D _ (by first | exact HS.out | exact OGst.below HS.out (Below.refl _ _).drew) hl hA hlm hmh).mono ?_; rintro e9 w9 ⟨rfl, hbt, hsp⟩; have HF : Hid (Betw Sb hi w w9) := (by first | exact (Below.betw hbW.out).trans (hbt.wide (by omega) (Nat.le_refl _)) | exact (Below.betw hbW.out.drew).trans (hbt.wide (by omega) (Nat.le_refl _))); have HK9 : Hid (Bk w9 Sb (srow (some ⟨R, off, none⟩) 16 rc pc ma n mc 0 24 (-1) false false)) := (by first | exact HB.out.betw hbt (.inl hSb) | exact (HB.out.below (Below.refl _ _).drew).betw hbt (.inl hSb)); have HS9 : Hid (OGst w9 lo mm hi (some ⟨R, off, none⟩) ma _ n D) := hsp; clear hbt hsp HB HS hbW))
  all_goals
    clear s0 s1 s2 i0 i1
    have s1 := HK9.out.cell 1 _ rfl
    have f1 := HK9.out.free 1
    have sl9 := HK9.out.lt
    go_wp2
    go_end0
    exact ⟨rfl, HF.out.setCell (p := ⟨Sb, 1, none⟩) (Nat.le_refl _) (by show Sb < hi; omega) _, HK9.out.set 1 _ (by simp) (srow_pc (by first | rfl | omega)), OGst.betw HS9.out ((Betw.refl Sb (Sb + 1) w9).setCell (p := ⟨Sb, 1, none⟩) (Nat.le_refl _) (Nat.lt_succ_self _) _) (.inr (by omega)) hlm hmh⟩
end Go.Proofs.YtjlhkjiccibgdaaGreatDoor
