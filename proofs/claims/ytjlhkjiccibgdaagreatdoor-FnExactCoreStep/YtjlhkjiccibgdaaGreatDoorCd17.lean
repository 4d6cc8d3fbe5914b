
/-
  What an instruction does to a step's own guest, by the program. Conditions: the guest is of the call's own, its registers are words.
-/
import Derived.Test.YtjlhkjiccibgdaaGreatDoorCsp
namespace Go.Proofs.YtjlhkjiccibgdaaGreatDoor
open Go.ChangeShapes Go.WideShapes Go.ChangeAt Go.RowKit Go.Deep
set_option linter.unusedVariables false

set_option maxRecDepth 20000 in
set_option maxHeartbeats 4000000 in
theorem do17 (Sb lo mm hi rc n mc A B C cap : Nat) (ra ma a : Option Addr) (pc m cy : Int) (rs : List Int) (D : Nat → List Int) (w : World)
    (hB : Bk w Sb (srow ra 16 rc pc ma n mc 0 17 (-1) false false)) (hS : OGst w lo mm hi ra ma rs n D) (hl : rs.length = 16) (hw : ∀ z ∈ rs, (Lit.int .u32 z).wf = true) (hA : A ≤ 15) (hBB : B ≤ 15) (hC : C ≤ 15) (hm0 : -8192 ≤ m) (hm1 : m ≤ 8191) (hp0 : 0 ≤ pc) (hp1 : pc ≤ 4294967295) (hSb : Sb < lo) (hlm : lo ≤ mm) (hmh : mm ≤ hi) (hhi : hi ≤ w.heap.size) (v : Int) (hld : ∀ X, Below w.heap.size w X → Calls Tryz.prog 54 #[gst ra 16 rc pc ma n mc, .slice a n cap, .int .u32 ((rs.getD B 0 + m % 4294967296) % 4294967296), .int .i64 1, .int .i64 1] X fun e w' => e = .returned (.int .u32 v) ∧ Below X.heap.size X w') :
    Calls Tryz.prog 56 #[.pointer (some ⟨Sb, 0, none⟩), .slice a n cap, Is.ins 17 A B C m, .int .i64 cy] w fun e w' => e = .returned (.tuple #[]) ∧ Betw Sb hi w w' ∧ Bk w' Sb (srow ra 16 rc ((pc + 4) % 4294967296) ma n mc 0 17 ((rs.getD B 0 + m % 4294967296) % 4294967296) false false) ∧ OGst w' lo mm hi ra ma (setR rs A v) n D := by
  obtain ⟨R, off, rfl, hR, hR1, hR2, hc⟩ := regs_at hS hl
  have e1 := hc A (by omega)
  have e2 := hc B (by omega)
  have e3 := hc C (by omega)
  obtain ⟨a1, a2⟩ := wf_reg hw hl A (by omega)
  obtain ⟨b1, b2⟩ := wf_reg hw hl B (by omega)
  obtain ⟨c1, c2⟩ := wf_reg hw hl C (by omega)
  have s0 := hB.cell 0 _ rfl
  have s1 := hB.cell 1 _ rfl
  have s2 := hB.cell 2 _ rfl
  have sl := hB.lt
  have f1 := hB.free 1
  have HB : Hid (Bk w Sb (srow (some ⟨R, off, none⟩) 16 rc pc ma n mc 0 17 (-1) false false)) := hB
  have HS : Hid (OGst w lo mm hi (some ⟨R, off, none⟩) ma rs n D) := hS
  have hA' : (A : Int) < 16 := by omega
  have hB' : (B : Int) < 16 := by omega
  have hC' : (C : Int) < 16 := by omega
  generalize rs.getD A 0 = ua at *
  generalize rs.getD B 0 = ub at *
  generalize rs.getD C 0 = uc at *
  have HLD : Hid (∀ X, Below w.heap.size w X → Calls Tryz.prog 54 #[gst (some ⟨R, off, none⟩) 16 rc pc ma n mc, .slice a n cap, .int .u32 ((ub + m % 4294967296) % 4294967296), .int .i64 1, .int .i64 1] X fun e w' => e = .returned (.int .u32 v) ∧ Below X.heap.size X w') := hld
  clear hB hS hc hw hld
  go_enter Tryz.func56, Tryz.ntmps56
  go_wp2
  go_quiet (fail)
  have hbW : Below w.heap.size w ((w.alloc (.cells #[.int .i64 17, .int .i64 A, .int .i64 B, .int .i64 C, .int .i64 m] 66)).drewN nq) := below_drewN ((Below.refl _ _).alloc (Nat.le_refl _) _) _
  have hI : Bk ((w.alloc (.cells #[.int .i64 17, .int .i64 A, .int .i64 B, .int .i64 C, .int .i64 m] 66)).drewN nq) w.heap.size #[.int .i64 17, .int .i64 A, .int .i64 B, .int .i64 C, .int .i64 m] := (Bk.new w _ 66 w.heap.size rfl).below (below_drewN (Below.refl _ _) _)
  revert hbW hI
  generalize (w.alloc (.cells #[.int .i64 17, .int .i64 A, .int .i64 B, .int .i64 C, .int .i64 m] 66)).drewN nq = W
  intro hbW hI
  replace HB : Hid (Bk W Sb (srow (some ⟨R, off, none⟩) 16 rc pc ma n mc 0 17 (-1) false false)) := HB.out.below hbW
  replace HS : Hid (OGst W lo mm hi (some ⟨R, off, none⟩) ma rs n D) := OGst.below HS.out hbW
  replace hbW : Hid (Below w.heap.size w W) := hbW
  replace s0 := HB.out.cell 0 _ rfl
  replace s1 := HB.out.cell 1 _ rfl
  replace s2 := HB.out.cell 2 _ rfl
  have i0 := hI.cell 0 _ rfl
  have i1 := hI.cell 1 _ rfl
  clear hI e1 e2 e3 f1
  go_wp2
  go_region_with (first | (go_at_call 54; (first | rw [IntKind.wrap_u32] | skip); refine (HLD.out _ (by first | exact hbW.out | exact hbW.out.drew)).mono ?_; rintro e8 w8 ⟨rfl, hb8⟩; replace hbW : Hid (Below w.heap.size w w8) := (by first | exact hbW.out.trans (hb8.mono hbW.out.size) | exact hbW.out.drew.trans (hb8.mono hbW.out.drew.size)); replace HB : Hid (Bk w8 Sb (srow (some ⟨R, off, none⟩) 16 rc pc ma n mc 0 17 (-1) false false)) := (by first | exact HB.out.below hb8 | exact (HB.out.below (Below.refl _ _).drew).below hb8); replace HS : Hid (OGst w8 lo mm hi (some ⟨R, off, none⟩) ma rs n D) := (by first | exact OGst.below HS.out hb8 | exact OGst.below (OGst.below HS.out (Below.refl _ _).drew) hb8); replace s0 := kept_cell hb8 s0; replace s1 := kept_cell hb8 s1; replace s2 := kept_cell hb8 s2; replace i0 := kept_cell hb8 i0; replace i1 := kept_cell hb8 i1; clear hb8) | (go_at_call 78; (first | rw [IntKind.wrap_u32] | skip); refine (put_i _ ma rc n mc A lo mm hi pc _ rs D _ (by first | exact HS.out | exact OGst.below HS.out (Below.refl _ _).drew) hl hA hlm hmh).mono ?_; rintro e9 w9 ⟨rfl, hbt, hsp⟩; have HF : Hid (Betw Sb hi w w9) := (by first | exact (Below.betw hbW.out).trans (hbt.wide (by omega) (Nat.le_refl _)) | exact (Below.betw hbW.out.drew).trans (hbt.wide (by omega) (Nat.le_refl _))); have HK9 : Hid (Bk w9 Sb (srow (some ⟨R, off, none⟩) 16 rc pc ma n mc 0 17 (-1) false false)) := (by first | exact HB.out.betw hbt (.inl hSb) | exact (HB.out.below (Below.refl _ _).drew).betw hbt (.inl hSb)); have HS9 : Hid (OGst w9 lo mm hi (some ⟨R, off, none⟩) ma _ n D) := hsp; clear hbt hsp HB HS hbW))
  all_goals
    clear s0 s1 s2 i0 i1
    have s1 := HK9.out.cell 1 _ rfl
    have f1 := HK9.out.free 1
    have sl9 := HK9.out.lt
    have s5 := HK9.out.cell 5 _ rfl
    have f5 := HK9.out.free 5
    go_wp2
    go_end0
    exact ⟨rfl, ((HF.out.setCell (p := ⟨Sb, 5, none⟩) (Nat.le_refl _) (by show Sb < hi; omega) _).setCell (p := ⟨Sb, 1, none⟩) (Nat.le_refl _) (by show Sb < hi; omega) _), ((HK9.out.set 5 _ (by simp) (srow_to (by first | rfl | omega))).set 1 _ (by simp) (srow_pc (by first | rfl | omega))), OGst.betw HS9.out (((Betw.refl Sb (Sb + 1) w9).setCell (p := ⟨Sb, 5, none⟩) (Nat.le_refl _) (Nat.lt_succ_self _) _).setCell (p := ⟨Sb, 1, none⟩) (Nat.le_refl _) (Nat.lt_succ_self _) _) (.inr (by omega)) hlm hmh⟩
set_option maxRecDepth 20000 in
set_option maxHeartbeats 4000000 in
theorem do17b (Sb lo mm hi rc n mc A B C cap : Nat) (ra ma a : Option Addr) (pc m cy : Int) (rs : List Int) (D : Nat → List Int) (w : World)
    (hB : Bk w Sb (srow ra 16 rc pc ma n mc 0 17 (-1) false false)) (hS : OGst w lo mm hi ra ma rs n D) (hl : rs.length = 16) (hw : ∀ z ∈ rs, (Lit.int .u32 z).wf = true) (hA : A ≤ 15) (hBB : B ≤ 15) (hC : C ≤ 15) (hm0 : -8192 ≤ m) (hm1 : m ≤ 8191) (hp0 : 0 ≤ pc) (hp1 : pc ≤ 4294967295) (hSb : Sb < lo) (hlm : lo ≤ mm) (hmh : mm ≤ hi) (hhi : hi ≤ w.heap.size) (r : Int) (hld : ∀ X, Below w.heap.size w X → Calls Tryz.prog 54 #[gst ra 16 rc pc ma n mc, .slice a n cap, .int .u32 ((rs.getD B 0 + m % 4294967296) % 4294967296), .int .i64 1, .int .i64 1] X fun e w' => e = .panicked [fltP r] ∧ Below X.heap.size X w') :
    Calls Tryz.prog 56 #[.pointer (some ⟨Sb, 0, none⟩), .slice a n cap, Is.ins 17 A B C m, .int .i64 cy] w fun e w' => e = .panicked [fltP r] ∧ Below w.heap.size w w' := by
  obtain ⟨R, off, rfl, hR, hR1, hR2, hc⟩ := regs_at hS hl
  have e1 := hc A (by omega)
  have e2 := hc B (by omega)
  have e3 := hc C (by omega)
  obtain ⟨a1, a2⟩ := wf_reg hw hl A (by omega)
  obtain ⟨b1, b2⟩ := wf_reg hw hl B (by omega)
  obtain ⟨c1, c2⟩ := wf_reg hw hl C (by omega)
  have s0 := hB.cell 0 _ rfl
  have s1 := hB.cell 1 _ rfl
  have s2 := hB.cell 2 _ rfl
  have sl := hB.lt
  have f1 := hB.free 1
  have HB : Hid (Bk w Sb (srow (some ⟨R, off, none⟩) 16 rc pc ma n mc 0 17 (-1) false false)) := hB
  have HS : Hid (OGst w lo mm hi (some ⟨R, off, none⟩) ma rs n D) := hS
  have hA' : (A : Int) < 16 := by omega
  have hB' : (B : Int) < 16 := by omega
  have hC' : (C : Int) < 16 := by omega
  generalize rs.getD A 0 = ua at *
  generalize rs.getD B 0 = ub at *
  generalize rs.getD C 0 = uc at *
  have HLD : Hid (∀ X, Below w.heap.size w X → Calls Tryz.prog 54 #[gst (some ⟨R, off, none⟩) 16 rc pc ma n mc, .slice a n cap, .int .u32 ((ub + m % 4294967296) % 4294967296), .int .i64 1, .int .i64 1] X fun e w' => e = .panicked [fltP r] ∧ Below X.heap.size X w') := hld
  clear hB hS hc hw hld
  go_enter Tryz.func56, Tryz.ntmps56
  go_wp2
  go_quiet (fail)
  have hbW : Below w.heap.size w ((w.alloc (.cells #[.int .i64 17, .int .i64 A, .int .i64 B, .int .i64 C, .int .i64 m] 66)).drewN nq) := below_drewN ((Below.refl _ _).alloc (Nat.le_refl _) _) _
  have hI : Bk ((w.alloc (.cells #[.int .i64 17, .int .i64 A, .int .i64 B, .int .i64 C, .int .i64 m] 66)).drewN nq) w.heap.size #[.int .i64 17, .int .i64 A, .int .i64 B, .int .i64 C, .int .i64 m] := (Bk.new w _ 66 w.heap.size rfl).below (below_drewN (Below.refl _ _) _)
  revert hbW hI
  generalize (w.alloc (.cells #[.int .i64 17, .int .i64 A, .int .i64 B, .int .i64 C, .int .i64 m] 66)).drewN nq = W
  intro hbW hI
  replace HB : Hid (Bk W Sb (srow (some ⟨R, off, none⟩) 16 rc pc ma n mc 0 17 (-1) false false)) := HB.out.below hbW
  replace HS : Hid (OGst W lo mm hi (some ⟨R, off, none⟩) ma rs n D) := OGst.below HS.out hbW
  replace hbW : Hid (Below w.heap.size w W) := hbW
  replace s0 := HB.out.cell 0 _ rfl
  replace s1 := HB.out.cell 1 _ rfl
  replace s2 := HB.out.cell 2 _ rfl
  have i0 := hI.cell 0 _ rfl
  have i1 := hI.cell 1 _ rfl
  clear hI e1 e2 e3 f1
  go_wp2
  go_region_held_law (fun w' => w'.cell? ⟨Sb, 0, none⟩ = some (.slice (some ⟨R, off, none⟩) 16 rc) ∧ w'.cell? ⟨Sb, 1, none⟩ = some (.int .u32 pc) ∧ w'.cell? ⟨Sb, 2, none⟩ = some (.slice ma n mc) ∧ w'.cell? ⟨w.heap.size, 1, none⟩ = some (.int .i64 (A : Int))) (first | exact ⟨s0, s1, s2, i1⟩)
    (first | (refine step_panics rfl (some 115) rfl (.int .u32 0) (by go_simp; go_at_call 54; (first | rw [IntKind.wrap_u32] | skip); refine Calls.mono (HLD.out _ (by first | exact hbW.out | exact hbW.out.drew)) ?_; rintro u w7 ⟨rfl, hb7⟩; have HB7 : Hid (Below w.heap.size w w7) := (by first | exact hbW.out.trans (hb7.mono hbW.out.size) | exact hbW.out.drew.trans (hb7.mono hbW.out.drew.size)); exact ⟨rfl, rfl, HB7.out⟩) ?_; intro hF) | (refine step_panics rfl (some 116) rfl (.tuple #[]) hF.out.elim ?_; intro hF2))
  all_goals exact hF.out.elim
end Go.Proofs.YtjlhkjiccibgdaaGreatDoor
