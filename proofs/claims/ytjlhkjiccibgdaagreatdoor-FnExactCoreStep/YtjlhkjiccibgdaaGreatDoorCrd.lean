/-
  The program's 'run': it fetches, decodes, and does or leaves to be done. Conditions: the guest is of the call's own.
  The program's 'run': it fetches, decodes, and does or leaves to be done. Conditions: the guest is of the call's own.
-/
import Derived.Test.YtjlhkjiccibgdaaGreatDoorCrn
import Derived.Deep.RegionHeldLaw
namespace Go.Proofs.YtjlhkjiccibgdaaGreatDoor
open Go.ChangeShapes Go.WideShapes Go.ChangeAt Go.RowKit Go.Deep
set_option linter.unusedVariables false

set_option maxRecDepth 20000 in
set_option maxHeartbeats 1200000 in
theorem run_ca (Sb rc n mc cap : Nat) (ra ma a : Option Addr) (pc cy v op A B C m : Int) (w : World) (lo mm hi : Nat) (rs : List Int) (D : Nat → List Int) (hS : OGst w lo mm hi ra ma rs n D) (hSb : Sb < lo) (hlm : lo ≤ mm) (hmh : mm ≤ hi) (h25 : 25 ≤ op)
    (hB : Bk w Sb (srow ra 16 rc pc ma n mc 0 (-1) (-1) false false))
    (hld : ∀ X, Below w.heap.size w X → Calls Tryz.prog 54 #[gst ra 16 rc pc ma n mc, .slice a n cap, .int .u32 pc, .int .i64 4, .int .i64 4] X fun e w' => e = .returned (.int .u32 v) ∧ Below X.heap.size X w')
    (hdc : ∀ X, Below w.heap.size w X → Calls Tryz.prog 53 #[.int .u32 v] X fun e w' => e = .returned (.tuple #[Is.ins op A B C m, .bool true]) ∧ Below X.heap.size X w') :
    Calls Tryz.prog 29 #[.pointer (some ⟨Sb, 0, none⟩), .slice a n cap, .int .i64 cy] w fun e w' => e = .returned (.tuple #[]) ∧ Betw Sb hi w w' ∧ Bk w' Sb (srow ra 16 rc pc ma n mc 0 op (-1) false true) ∧ OGst w' lo mm hi ra ma rs n D := by
  have HS : Hid (OGst w lo mm hi ra ma rs n D) := hS
  clear hS
  have sl := hB.lt
  have HLD : Hid (∀ X, Below w.heap.size w X → Calls Tryz.prog 54 #[gst ra 16 rc pc ma n mc, .slice a n cap, .int .u32 pc, .int .i64 4, .int .i64 4] X fun e w' => e = .returned (.int .u32 v) ∧ Below X.heap.size X w') := hld
  have HDC : Hid (∀ X, Below w.heap.size w X → Calls Tryz.prog 53 #[.int .u32 v] X fun e w' => e = .returned (.tuple #[Is.ins op A B C m, .bool true]) ∧ Below X.heap.size X w') := hdc
  have HK : Hid (Bk w Sb (srow ra 16 rc pc ma n mc 0 (-1) (-1) false false)) := hB
  have C0 : Hid (w.cell? ⟨Sb, 0, none⟩ = some (.slice ra 16 rc)) := HK.out.cell 0 _ rfl
  have C1 : Hid (w.cell? ⟨Sb, 1, none⟩ = some (.int .u32 pc)) := HK.out.cell 1 _ rfl
  have C2 : Hid (w.cell? ⟨Sb, 2, none⟩ = some (.slice ma n mc)) := HK.out.cell 2 _ rfl
  have c0 := C0.out
  have c1 := C1.out
  have c2 := C2.out
  have hb : Below w.heap.size w w := Below.refl _ _
  clear hB hld hdc
  go_enter Tryz.func29, Tryz.ntmps29
  go_wp2
  go_region_held_law (fun w' => w'.cell? ⟨Sb, 0, none⟩ = some (.slice ra 16 rc) ∧ w'.cell? ⟨Sb, 1, none⟩ = some (.int .u32 pc) ∧ w'.cell? ⟨Sb, 2, none⟩ = some (.slice ma n mc)) (first | with_reducible exact ⟨c0, c1, c2⟩ | with_reducible exact ⟨cell_drew c0, cell_drew c1, cell_drew c2⟩ | with_reducible exact ⟨cell_alloc_l _ c0, cell_alloc_l _ c1, cell_alloc_l _ c2⟩ | with_reducible exact ⟨st5 (by omega) c0, st5 (by omega) c1, st5 (by omega) c2⟩ | with_reducible exact ⟨cell_alloc_l _ (cell_drew c0), cell_alloc_l _ (cell_drew c1), cell_alloc_l _ (cell_drew c2)⟩ | with_reducible exact ⟨cell_drew (cell_alloc_l _ c0), cell_drew (cell_alloc_l _ c1), cell_drew (cell_alloc_l _ c2)⟩ | with_reducible exact ⟨st5 (by omega) (cell_alloc_l _ c0), st5 (by omega) (cell_alloc_l _ c1), st5 (by omega) (cell_alloc_l _ c2)⟩ | (trace_state; fail))
    (first | (go_at_call 54; refine Calls.mono (HLD.out _ (by first | exact hb | exact hb.drew | exact hb.alloc hb.size _ | exact (hb.alloc hb.size _).drew)) ?_; rintro u w99 ⟨rfl, hbb⟩; have hbn := (by first | exact hb.trans (hbb.mono hb.size) | exact hb.drew.trans (hbb.mono hb.drew.size) | exact (hb.alloc hb.size _).trans (hbb.mono (hb.alloc hb.size _).size) | exact ((hb.alloc hb.size _).drew).trans (hbb.mono ((hb.alloc hb.size _).drew).size)); replace hb := hbn; clear hbn; replace c0 := kept_cell hb C0.out; replace c1 := kept_cell hb C1.out; replace c2 := kept_cell hb C2.out; (first | replace hV := bk_kept hbb hV | have hV := bk_kept hbb (Bk.new _ #[.int .i64 0, .int .i64 0, .int .i64 0, .int .i64 0, .int .i64 0] 66 _ rfl) | have hV := bk_kept hbb (bk_kept (Below.refl _ _).drew (Bk.new _ #[.int .i64 0, .int .i64 0, .int .i64 0, .int .i64 0, .int .i64 0] 66 _ rfl)) | skip); have hz99 := hb.size; clear hbb) | (go_at_call 53; refine Calls.mono (HDC.out _ (by first | exact hb | exact hb.drew | exact hb.alloc hb.size _ | exact (hb.alloc hb.size _).drew)) ?_; rintro u w97 ⟨rfl, hbb⟩; (first | have hvz := hV.lt | skip); have hbn := (by first | exact hb.trans (hbb.mono hb.size) | exact hb.drew.trans (hbb.mono hb.drew.size) | exact (hb.alloc hb.size _).trans (hbb.mono (hb.alloc hb.size _).size) | exact ((hb.alloc hb.size _).drew).trans (hbb.mono ((hb.alloc hb.size _).drew).size)); replace hb := hbn; clear hbn; replace c0 := kept_cell hb C0.out; replace c1 := kept_cell hb C1.out; replace c2 := kept_cell hb C2.out; (first | replace hV := bk_kept hbb hV | have hV := bk_kept hbb (Bk.new _ #[.int .i64 0, .int .i64 0, .int .i64 0, .int .i64 0, .int .i64 0] 66 _ rfl) | have hV := bk_kept hbb (bk_kept (Below.refl _ _).drew (Bk.new _ #[.int .i64 0, .int .i64 0, .int .i64 0, .int .i64 0, .int .i64 0] 66 _ rfl)) | skip); have hz97 := hb.size; (first | (have v0 := hV.cell 0 _ rfl; have v1 := hV.cell 1 _ rfl; have v2 := hV.cell 2 _ rfl; have v3 := hV.cell 3 _ rfl; have v4 := hV.cell 4 _ rfl; have vf := hV.free) | skip); clear hbb))
  all_goals
    first
    | (have hf := rnf_set (k := w99.heap.size) hb hV (by omega) op A B C m
       generalize (((((w97.setCell ⟨w99.heap.size, 0, none⟩ (.int .i64 op)).setCell ⟨w99.heap.size, 1, none⟩ (.int .i64 A)).setCell ⟨w99.heap.size, 2, none⟩ (.int .i64 B)).setCell ⟨w99.heap.size, 3, none⟩ (.int .i64 C)).setCell ⟨w99.heap.size, 4, none⟩ (.int .i64 m)) = V at hf ⊢
       generalize w99.heap.size = k at hf ⊢)
    | (have hf := rnf_set (k := w.heap.size) hb hV (by omega) op A B C m
       generalize (((((w97.setCell ⟨w.heap.size, 0, none⟩ (.int .i64 op)).setCell ⟨w.heap.size, 1, none⟩ (.int .i64 A)).setCell ⟨w.heap.size, 2, none⟩ (.int .i64 B)).setCell ⟨w.heap.size, 3, none⟩ (.int .i64 C)).setCell ⟨w.heap.size, 4, none⟩ (.int .i64 m)) = V at hf ⊢
       generalize hkk : w.heap.size = k at hf ⊢)
    | (have hf := rnf_new hb op A B C m 66
       generalize w97.alloc (.cells #[.int .i64 op, .int .i64 A, .int .i64 B, .int .i64 C, .int .i64 m] 66) = V at hf ⊢
       generalize w97.heap.size = k at hf ⊢)
  all_goals
    have HBV : Hid (Below w.heap.size w V) := hf.1
    have HKV : Hid (Bk V Sb (srow ra 16 rc pc ma n mc 0 (-1) (-1) false false)) := HK.out.below hf.1
    have HIV : Hid (Bk V k #[.int .i64 op, .int .i64 A, .int .i64 B, .int .i64 C, .int .i64 m]) := hf.2.1
    have hkw : w.heap.size ≤ k := hf.2.2
    have hSk : Sb ≠ k := by omega
    have hkS : k ≠ Sb := by omega
    clear hf hb
    have i0 := HIV.out.cell 0 _ rfl
    have i1 := HIV.out.cell 1 _ rfl
    have i2 := HIV.out.cell 2 _ rfl
    have i3 := HIV.out.cell 3 _ rfl
    have i4 := HIV.out.cell 4 _ rfl
    have s4 := HKV.out.cell 4 _ rfl
    have f4 := HKV.out.free 4
    have s7 := HKV.out.cell 7 _ rfl
    have f7 := HKV.out.free 7
    go_wp2
    go_end0
    exact ⟨rfl, ((Below.betw HBV.out : Betw Sb hi w V).setCell (p := ⟨Sb, 4, none⟩) (Nat.le_refl _) (by show Sb < hi; omega) _).setCell (p := ⟨Sb, 7, none⟩) (Nat.le_refl _) (by show Sb < hi; omega) _, (HKV.out.set 4 _ (by simp) (srow_op rfl)).set 7 _ (by simp) srow_ca, OGst.betw (OGst.below HS.out HBV.out) (((Betw.refl Sb (Sb + 1) V).setCell (p := ⟨Sb, 4, none⟩) (Nat.le_refl _) (Nat.lt_succ_self _) _).setCell (p := ⟨Sb, 7, none⟩) (Nat.le_refl _) (Nat.lt_succ_self _) _) (.inr (by omega)) hlm hmh⟩
end Go.Proofs.YtjlhkjiccibgdaaGreatDoor
namespace Go.Proofs.YtjlhkjiccibgdaaGreatDoor
open Go.ChangeShapes Go.WideShapes Go.ChangeAt Go.RowKit Go.Deep
set_option linter.unusedVariables false

set_option maxRecDepth 20000 in
set_option maxHeartbeats 1200000 in
theorem run_do (Sb rc n mc cap : Nat) (ra ma a : Option Addr) (pc cy v op A B C m : Int) (w : World) (h25 : ¬ 25 ≤ op) (fa : Int) (Q1 Q2 : World → Prop) (hdo : ∀ X V, Below w.heap.size w V → Betw Sb (Sb + 1) V X → Bk X Sb (srow ra 16 rc pc ma n mc 0 op (-1) false false) → Calls Tryz.prog 56 #[.pointer (some ⟨Sb, 0, none⟩), .slice a n cap, Is.ins op A B C m, .int .i64 cy] X fun e w' => (fa = 0 ∧ e = .returned (.tuple #[]) ∧ Q1 w') ∨ (¬ fa = 0 ∧ e = .panicked [fltP fa] ∧ Q2 w'))
    (hB : Bk w Sb (srow ra 16 rc pc ma n mc 0 (-1) (-1) false false))
    (hld : ∀ X, Below w.heap.size w X → Calls Tryz.prog 54 #[gst ra 16 rc pc ma n mc, .slice a n cap, .int .u32 pc, .int .i64 4, .int .i64 4] X fun e w' => e = .returned (.int .u32 v) ∧ Below X.heap.size X w')
    (hdc : ∀ X, Below w.heap.size w X → Calls Tryz.prog 53 #[.int .u32 v] X fun e w' => e = .returned (.tuple #[Is.ins op A B C m, .bool true]) ∧ Below X.heap.size X w') :
    Calls Tryz.prog 29 #[.pointer (some ⟨Sb, 0, none⟩), .slice a n cap, .int .i64 cy] w fun e w' => (fa = 0 ∧ e = .returned (.tuple #[]) ∧ Q1 w') ∨ (¬ fa = 0 ∧ e = .panicked [fltP fa] ∧ Q2 w') := by
  have HDO : Hid (∀ X V, Below w.heap.size w V → Betw Sb (Sb + 1) V X → Bk X Sb (srow ra 16 rc pc ma n mc 0 op (-1) false false) → Calls Tryz.prog 56 #[.pointer (some ⟨Sb, 0, none⟩), .slice a n cap, Is.ins op A B C m, .int .i64 cy] X fun e w' => (fa = 0 ∧ e = .returned (.tuple #[]) ∧ Q1 w') ∨ (¬ fa = 0 ∧ e = .panicked [fltP fa] ∧ Q2 w')) := hdo
  clear hdo
  have sl := hB.lt
  have HLD : Hid (∀ X, Below w.heap.size w X → Calls Tryz.prog 54 #[gst ra 16 rc pc ma n mc, .slice a n cap, .int .u32 pc, .int .i64 4, .int .i64 4] X fun e w' => e = .returned (.int .u32 v) ∧ Below X.heap.size X w') := hld
  have HDC : Hid (∀ X, Below w.heap.size w X → Calls Tryz.prog 53 #[.int .u32 v] X fun e w' => e = .returned (.tuple #[Is.ins op A B C m, .bool true]) ∧ Below X.heap.size X w') := hdc
  have HK : Hid (Bk w Sb (srow ra 16 rc pc ma n mc 0 (-1) (-1) false false)) := hB
  have C0 : Hid (w.cell? ⟨Sb, 0, none⟩ = some (.slice ra 16 rc)) := HK.out.cell 0 _ rfl
  have C1 : Hid (w.cell? ⟨Sb, 1, none⟩ = some (.int .u32 pc)) := HK.out.cell 1 _ rfl
  have C2 : Hid (w.cell? ⟨Sb, 2, none⟩ = some (.slice ma n mc)) := HK.out.cell 2 _ rfl
  have c0 := C0.out
  have c1 := C1.out
  have c2 := C2.out
  have hb : Below w.heap.size w w := Below.refl _ _
  clear hB hld hdc
  go_enter Tryz.func29, Tryz.ntmps29
  go_wp2
  go_region_held_law (fun w' => w'.cell? ⟨Sb, 0, none⟩ = some (.slice ra 16 rc) ∧ w'.cell? ⟨Sb, 1, none⟩ = some (.int .u32 pc) ∧ w'.cell? ⟨Sb, 2, none⟩ = some (.slice ma n mc)) (first | with_reducible exact ⟨c0, c1, c2⟩ | with_reducible exact ⟨cell_drew c0, cell_drew c1, cell_drew c2⟩ | with_reducible exact ⟨cell_alloc_l _ c0, cell_alloc_l _ c1, cell_alloc_l _ c2⟩ | with_reducible exact ⟨st5 (by omega) c0, st5 (by omega) c1, st5 (by omega) c2⟩ | with_reducible exact ⟨cell_alloc_l _ (cell_drew c0), cell_alloc_l _ (cell_drew c1), cell_alloc_l _ (cell_drew c2)⟩ | with_reducible exact ⟨cell_drew (cell_alloc_l _ c0), cell_drew (cell_alloc_l _ c1), cell_drew (cell_alloc_l _ c2)⟩ | with_reducible exact ⟨st5 (by omega) (cell_alloc_l _ c0), st5 (by omega) (cell_alloc_l _ c1), st5 (by omega) (cell_alloc_l _ c2)⟩ | (trace_state; fail))
    (first | (go_at_call 54; refine Calls.mono (HLD.out _ (by first | exact hb | exact hb.drew | exact hb.alloc hb.size _ | exact (hb.alloc hb.size _).drew)) ?_; rintro u w99 ⟨rfl, hbb⟩; have hbn := (by first | exact hb.trans (hbb.mono hb.size) | exact hb.drew.trans (hbb.mono hb.drew.size) | exact (hb.alloc hb.size _).trans (hbb.mono (hb.alloc hb.size _).size) | exact ((hb.alloc hb.size _).drew).trans (hbb.mono ((hb.alloc hb.size _).drew).size)); replace hb := hbn; clear hbn; replace c0 := kept_cell hb C0.out; replace c1 := kept_cell hb C1.out; replace c2 := kept_cell hb C2.out; (first | replace hV := bk_kept hbb hV | have hV := bk_kept hbb (Bk.new _ #[.int .i64 0, .int .i64 0, .int .i64 0, .int .i64 0, .int .i64 0] 66 _ rfl) | have hV := bk_kept hbb (bk_kept (Below.refl _ _).drew (Bk.new _ #[.int .i64 0, .int .i64 0, .int .i64 0, .int .i64 0, .int .i64 0] 66 _ rfl)) | skip); have hz99 := hb.size; clear hbb) | (go_at_call 53; refine Calls.mono (HDC.out _ (by first | exact hb | exact hb.drew | exact hb.alloc hb.size _ | exact (hb.alloc hb.size _).drew)) ?_; rintro u w97 ⟨rfl, hbb⟩; (first | have hvz := hV.lt | skip); have hbn := (by first | exact hb.trans (hbb.mono hb.size) | exact hb.drew.trans (hbb.mono hb.drew.size) | exact (hb.alloc hb.size _).trans (hbb.mono (hb.alloc hb.size _).size) | exact ((hb.alloc hb.size _).drew).trans (hbb.mono ((hb.alloc hb.size _).drew).size)); replace hb := hbn; clear hbn; replace c0 := kept_cell hb C0.out; replace c1 := kept_cell hb C1.out; replace c2 := kept_cell hb C2.out; (first | replace hV := bk_kept hbb hV | have hV := bk_kept hbb (Bk.new _ #[.int .i64 0, .int .i64 0, .int .i64 0, .int .i64 0, .int .i64 0] 66 _ rfl) | have hV := bk_kept hbb (bk_kept (Below.refl _ _).drew (Bk.new _ #[.int .i64 0, .int .i64 0, .int .i64 0, .int .i64 0, .int .i64 0] 66 _ rfl)) | skip); have hz97 := hb.size; (first | (have v0 := hV.cell 0 _ rfl; have v1 := hV.cell 1 _ rfl; have v2 := hV.cell 2 _ rfl; have v3 := hV.cell 3 _ rfl; have v4 := hV.cell 4 _ rfl; have vf := hV.free) | skip); clear hbb))
  all_goals
    first
    | (have hf := rnf_set (k := w99.heap.size) hb hV (by omega) op A B C m
       generalize (((((w97.setCell ⟨w99.heap.size, 0, none⟩ (.int .i64 op)).setCell ⟨w99.heap.size, 1, none⟩ (.int .i64 A)).setCell ⟨w99.heap.size, 2, none⟩ (.int .i64 B)).setCell ⟨w99.heap.size, 3, none⟩ (.int .i64 C)).setCell ⟨w99.heap.size, 4, none⟩ (.int .i64 m)) = V at hf ⊢
       generalize w99.heap.size = k at hf ⊢)
    | (have hf := rnf_set (k := w.heap.size) hb hV (by omega) op A B C m
       generalize (((((w97.setCell ⟨w.heap.size, 0, none⟩ (.int .i64 op)).setCell ⟨w.heap.size, 1, none⟩ (.int .i64 A)).setCell ⟨w.heap.size, 2, none⟩ (.int .i64 B)).setCell ⟨w.heap.size, 3, none⟩ (.int .i64 C)).setCell ⟨w.heap.size, 4, none⟩ (.int .i64 m)) = V at hf ⊢
       generalize hkk : w.heap.size = k at hf ⊢)
    | (have hf := rnf_new hb op A B C m 66
       generalize w97.alloc (.cells #[.int .i64 op, .int .i64 A, .int .i64 B, .int .i64 C, .int .i64 m] 66) = V at hf ⊢
       generalize w97.heap.size = k at hf ⊢)
  all_goals
    have HBV : Hid (Below w.heap.size w V) := hf.1
    have HKV : Hid (Bk V Sb (srow ra 16 rc pc ma n mc 0 (-1) (-1) false false)) := HK.out.below hf.1
    have HIV : Hid (Bk V k #[.int .i64 op, .int .i64 A, .int .i64 B, .int .i64 C, .int .i64 m]) := hf.2.1
    have hkw : w.heap.size ≤ k := hf.2.2
    have hSk : Sb ≠ k := by omega
    have hkS : k ≠ Sb := by omega
    clear hf hb
    have i0 := HIV.out.cell 0 _ rfl
    have i1 := HIV.out.cell 1 _ rfl
    have i2 := HIV.out.cell 2 _ rfl
    have i3 := HIV.out.cell 3 _ rfl
    have i4 := HIV.out.cell 4 _ rfl
    have s4 := HKV.out.cell 4 _ rfl
    have f4 := HKV.out.free 4
    have s7 := HKV.out.cell 7 _ rfl
    have f7 := HKV.out.free 7
    go_wp2_with fail
    rotate_left
    · exfalso
      rename_i hh
      have hh2 := hh
      simp at hh2
      omega
    rw [show decide (25 ≤ op) = false from decide_eq_false (by omega)]
    refine (HDO.out _ V HBV.out (((Betw.refl Sb (Sb + 1) V).setCell (p := ⟨Sb, 4, none⟩) (Nat.le_refl _) (Nat.lt_succ_self _) _).setCell (p := ⟨Sb, 7, none⟩) (Nat.le_refl _) (Nat.lt_succ_self _) _) ((HKV.out.set 4 _ (by simp) (srow_op rfl)).set 7 _ (by simp) srow_ca)).mono ?_
    rintro e9 w9 (⟨h0, rfl, hq⟩ | ⟨h0, rfl, hq⟩)
    · have HQ : Hid (Q1 w9) := hq
      have H0 : Hid (fa = 0) := h0
      clear hq h0
      go_wp2
      go_end0
      exact .inl ⟨H0.out, rfl, HQ.out⟩
    · have HQ : Hid (Q2 w9) := hq
      have H0 : Hid (¬ fa = 0) := h0
      clear hq h0
      go_wp2
      exact ⟨rfl, .inr ⟨H0.out, rfl, HQ.out⟩⟩
end Go.Proofs.YtjlhkjiccibgdaaGreatDoor
