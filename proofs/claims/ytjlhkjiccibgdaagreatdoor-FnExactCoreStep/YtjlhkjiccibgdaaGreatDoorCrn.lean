/-
  The program's 'run': it fetches, decodes, and does or leaves to be done. Conditions: the guest is of the call's own.
  The program's 'run': it fetches, decodes, and does or leaves to be done. Conditions: the guest is of the call's own.
  The program's 'run': it fetches, decodes, and does or leaves to be done. Conditions: the guest is of the call's own.
-/
import Derived.Test.YtjlhkjiccibgdaaGreatDoorCsp
import Derived.Deep.RegionHeldLaw
namespace Go.Proofs.YtjlhkjiccibgdaaGreatDoor
open Go.ChangeShapes Go.WideShapes Go.ChangeAt Go.RowKit Go.Deep
set_option linter.unusedVariables false

theorem st5 {w : World} {b k : Nat} {i : Nat} {v a0 a1 a2 a3 a4 : Value} (hn : b ≠ k) (h : w.cell? ⟨b, i, none⟩ = some v) : (((((w.setCell ⟨k, 0, none⟩ a0).setCell ⟨k, 1, none⟩ a1).setCell ⟨k, 2, none⟩ a2).setCell ⟨k, 3, none⟩ a3).setCell ⟨k, 4, none⟩ a4).cell? ⟨b, i, none⟩ = some v :=
  st1 hn (st1 hn (st1 hn (st1 hn (st1 hn h))))
theorem cell_drew {w : World} {p : Addr} {v : Value} (h : w.cell? p = some v) : w.drew.cell? p = some v := h
/-- What is known behind the variable's store: nothing that was there is another, and the variable holds the instruction. -/
def RnF (w V : World) (k : Nat) (op A B C m : Int) : Prop := Below w.heap.size w V ∧ Bk V k #[.int .i64 op, .int .i64 A, .int .i64 B, .int .i64 C, .int .i64 m] ∧ w.heap.size ≤ k
theorem rnf_new {w W : World} (hb : Below w.heap.size w W) (op A B C m : Int) (T : TypeId) : RnF w (W.alloc (.cells #[.int .i64 op, .int .i64 A, .int .i64 B, .int .i64 C, .int .i64 m] T)) W.heap.size op A B C m :=
  ⟨hb.alloc hb.size _, Bk.new W _ T W.heap.size rfl, hb.size⟩
theorem rnf_set {w W : World} {k : Nat} (hb : Below w.heap.size w W) (hV : Bk W k #[.int .i64 0, .int .i64 0, .int .i64 0, .int .i64 0, .int .i64 0]) (hk : w.heap.size ≤ k) (op A B C m : Int) :
    RnF w (((((W.setCell ⟨k, 0, none⟩ (.int .i64 op)).setCell ⟨k, 1, none⟩ (.int .i64 A)).setCell ⟨k, 2, none⟩ (.int .i64 B)).setCell ⟨k, 3, none⟩ (.int .i64 C)).setCell ⟨k, 4, none⟩ (.int .i64 m)) k op A B C m := by
  refine ⟨?_, ?_, hk⟩
  · have g0 := hb.setCell (p := ⟨k, 0, none⟩) hk (.int .i64 op)
    have g1 := g0.setCell (p := ⟨k, 1, none⟩) hk (.int .i64 A)
    have g2 := g1.setCell (p := ⟨k, 2, none⟩) hk (.int .i64 B)
    have g3 := g2.setCell (p := ⟨k, 3, none⟩) hk (.int .i64 C)
    exact g3.setCell (p := ⟨k, 4, none⟩) hk (.int .i64 m)
  · have g0 := hV.set 0 (.int .i64 op) (by simp) (cs' := #[.int .i64 op, .int .i64 0, .int .i64 0, .int .i64 0, .int .i64 0]) rfl
    have g1 := g0.set 1 (.int .i64 A) (by simp) (cs' := #[.int .i64 op, .int .i64 A, .int .i64 0, .int .i64 0, .int .i64 0]) rfl
    have g2 := g1.set 2 (.int .i64 B) (by simp) (cs' := #[.int .i64 op, .int .i64 A, .int .i64 B, .int .i64 0, .int .i64 0]) rfl
    have g3 := g2.set 3 (.int .i64 C) (by simp) (cs' := #[.int .i64 op, .int .i64 A, .int .i64 B, .int .i64 C, .int .i64 0]) rfl
    exact g3.set 4 (.int .i64 m) (by simp) rfl
end Go.Proofs.YtjlhkjiccibgdaaGreatDoor
namespace Go.Proofs.YtjlhkjiccibgdaaGreatDoor
open Go.ChangeShapes Go.WideShapes Go.ChangeAt Go.RowKit Go.Deep
set_option linter.unusedVariables false

set_option maxRecDepth 20000 in
set_option maxHeartbeats 1200000 in
theorem run_no (Sb rc n mc cap : Nat) (ra ma a : Option Addr) (pc cy v op A B C m : Int) (w : World)
    (hB : Bk w Sb (srow ra 16 rc pc ma n mc 0 (-1) (-1) false false))
    (hld : ∀ X, Below w.heap.size w X → Calls Tryz.prog 54 #[gst ra 16 rc pc ma n mc, .slice a n cap, .int .u32 pc, .int .i64 4, .int .i64 4] X fun e w' => e = .returned (.int .u32 v) ∧ Below X.heap.size X w')
    (hdc : ∀ X, Below w.heap.size w X → Calls Tryz.prog 53 #[.int .u32 v] X fun e w' => e = .returned (.tuple #[Is.ins op A B C m,   .bool false]) ∧ Below X.heap.size X w') :
    Calls Tryz.prog 29 #[.pointer (some ⟨Sb, 0, none⟩), .slice a n cap, .int .i64 cy] w fun e w' => e = .panicked [fltP 4] ∧ Below w.heap.size w w' := by
  have sl := hB.lt
  have HLD : Hid (∀ X, Below w.heap.size w X → Calls Tryz.prog 54 #[gst ra 16 rc pc ma n mc, .slice a n cap, .int .u32 pc, .int .i64 4, .int .i64 4] X fun e w' => e = .returned (.int .u32 v) ∧ Below X.heap.size X w') := hld
  have HDC : Hid (∀ X, Below w.heap.size w X → Calls Tryz.prog 53 #[.int .u32 v] X fun e w' => e = .returned (.tuple #[Is.ins op A B C m, .bool false]) ∧ Below X.heap.size X w') := hdc
  have HK : Hid (Bk w Sb (srow ra 16 rc pc ma n mc 0 (-1) (-1) false false)) := hB
  have C0 : Hid (w.cell? ⟨Sb, 0, none⟩ = some (.slice ra 16 rc)) := HK.out.cell 0 _ rfl
  have C1 : Hid (w.cell? ⟨Sb, 1, none⟩ = some (.int .u32 pc)) := HK.out.cell 1 _ rfl
  have C2 : Hid (w.cell? ⟨Sb, 2, none⟩ = some (.slice ma n mc)) := HK.out.cell 2 _ rfl
  have c0 := C0.out
  have c1 := C1.out
  have c2 := C2.out
  have hb : Below w.heap.size w w := Below.refl _ _
  clear hB hld hdc
  go_enter Tryz.func29, Tryz.ntmps29
  go_wp2
  go_region_held_law (fun w' => w'.cell? ⟨Sb, 0, none⟩ = some (.slice ra 16 rc) ∧ w'.cell? ⟨Sb, 1, none⟩ = some (.int .u32 pc) ∧ w'.cell? ⟨Sb, 2, none⟩ = some (.slice ma n mc)) (first | with_reducible exact ⟨c0, c1, c2⟩ | with_reducible exact ⟨cell_drew c0, cell_drew c1, cell_drew c2⟩ | with_reducible exact ⟨cell_alloc_l _ c0, cell_alloc_l _ c1, cell_alloc_l _ c2⟩ | with_reducible exact ⟨st5 (by omega) c0, st5 (by omega) c1, st5 (by omega) c2⟩ | with_reducible exact ⟨cell_alloc_l _ (cell_drew c0), cell_alloc_l _ (cell_drew c1), cell_alloc_l _ (cell_drew c2)⟩ | with_reducible exact ⟨cell_drew (cell_alloc_l _ c0), cell_drew (cell_alloc_l _ c1), cell_drew (cell_alloc_l _ c2)⟩ | with_reducible exact ⟨st5 (by omega) (cell_alloc_l _ c0), st5 (by omega) (cell_alloc_l _ c1), st5 (by omega) (cell_alloc_l _ c2)⟩ | (trace_state; fail))
    (first | (go_at_call 54; refine Calls.mono (HLD.out _ (by first | exact hb | exact hb.drew | exact hb.alloc hb.size _ | exact (hb.alloc hb.size _).drew)) ?_; rintro u w99 ⟨rfl, hbb⟩; have hbn := (by first | exact hb.trans (hbb.mono hb.size) | exact hb.drew.trans (hbb.mono hb.drew.size) | exact (hb.alloc hb.size _).trans (hbb.mono (hb.alloc hb.size _).size) | exact ((hb.alloc hb.size _).drew).trans (hbb.mono ((hb.alloc hb.size _).drew).size)); replace hb := hbn; clear hbn; replace c0 := kept_cell hb C0.out; replace c1 := kept_cell hb C1.out; replace c2 := kept_cell hb C2.out; (first | replace hV := bk_kept hbb hV | have hV := bk_kept hbb (Bk.new _ #[.int .i64 0, .int .i64 0, .int .i64 0, .int .i64 0, .int .i64 0] 66 _ rfl) | have hV := bk_kept hbb (bk_kept (Below.refl _ _).drew (Bk.new _ #[.int .i64 0, .int .i64 0, .int .i64 0, .int .i64 0, .int .i64 0] 66 _ rfl)) | skip); have hz99 := hb.size; clear hbb) | (go_at_call 53; refine Calls.mono (HDC.out _ (by first | exact hb | exact hb.drew | exact hb.alloc hb.size _ | exact (hb.alloc hb.size _).drew)) ?_; rintro u w97 ⟨rfl, hbb⟩; (first | have hvz := hV.lt | skip); have hbn := (by first | exact hb.trans (hbb.mono hb.size) | exact hb.drew.trans (hbb.mono hb.drew.size) | exact (hb.alloc hb.size _).trans (hbb.mono (hb.alloc hb.size _).size) | exact ((hb.alloc hb.size _).drew).trans (hbb.mono ((hb.alloc hb.size _).drew).size)); replace hb := hbn; clear hbn; replace c0 := kept_cell hb C0.out; replace c1 := kept_cell hb C1.out; replace c2 := kept_cell hb C2.out; (first | replace hV := bk_kept hbb hV | have hV := bk_kept hbb (Bk.new _ #[.int .i64 0, .int .i64 0, .int .i64 0, .int .i64 0, .int .i64 0] 66 _ rfl) | have hV := bk_kept hbb (bk_kept (Below.refl _ _).drew (Bk.new _ #[.int .i64 0, .int .i64 0, .int .i64 0, .int .i64 0, .int .i64 0] 66 _ rfl)) | skip); have hz97 := hb.size; (first | (have v0 := hV.cell 0 _ rfl; have v1 := hV.cell 1 _ rfl; have v2 := hV.cell 2 _ rfl; have v3 := hV.cell 3 _ rfl; have v4 := hV.cell 4 _ rfl; have vf := hV.free) | skip); clear hbb))
  all_goals
    first
    | (have hf := rnf_set (k := w99.heap.size) hb hV (by omega) op A B C m
       generalize (((((w97.setCell ⟨w99.heap.size, 0, none⟩ (.int .i64 op)).setCell ⟨w99.heap.size, 1, none⟩ (.int .i64 A)).setCell ⟨w99.heap.size, 2, none⟩ (.int .i64 B)).setCell ⟨w99.heap.size, 3, none⟩ (.int .i64 C)).setCell ⟨w99.heap.size, 4, none⟩ (.int .i64 m)) = V at hf ⊢
       generalize w99.heap.size = k at hf ⊢)
    | (have hf := rnf_set (k := w.heap.size) hb hV (by omega) op A B C m
       generalize (((((w97.setCell ⟨w.heap.size, 0, none⟩ (.int .i64 op)).setCell ⟨w.heap.size, 1, none⟩ (.int .i64 A)).setCell ⟨w.heap.size, 2, none⟩ (.int .i64 B)).setCell ⟨w.heap.size, 3, none⟩ (.int .i64 C)).setCell ⟨w.heap.size, 4, none⟩ (.int .i64 m)) = V at hf ⊢
       generalize hkk : w.heap.size = k at hf ⊢)
    | (have hf := rnf_new hb op A B C m 66
       generalize w97.alloc (.cells #[.int .i64 op, .int .i64 A, .int .i64 B, .int .i64 C, .int .i64 m] 66) = V at hf ⊢
       generalize w97.heap.size = k at hf ⊢)
  all_goals
    have HBV : Hid (Below w.heap.size w V) := hf.1
    have HKV : Hid (Bk V Sb (srow ra 16 rc pc ma n mc 0 (-1) (-1) false false)) := HK.out.below hf.1
    have HIV : Hid (Bk V k #[.int .i64 op, .int .i64 A, .int .i64 B, .int .i64 C, .int .i64 m]) := hf.2.1
    have hkw : w.heap.size ≤ k := hf.2.2
    have hSk : Sb ≠ k := by omega
    have hkS : k ≠ Sb := by omega
    clear hf hb
    have i0 := HIV.out.cell 0 _ rfl
    have i1 := HIV.out.cell 1 _ rfl
    have i2 := HIV.out.cell 2 _ rfl
    have i3 := HIV.out.cell 3 _ rfl
    have i4 := HIV.out.cell 4 _ rfl
    have s4 := HKV.out.cell 4 _ rfl
    have f4 := HKV.out.free 4
    have s7 := HKV.out.cell 7 _ rfl
    have f7 := HKV.out.free 7
    go_wp2_with fail
    refine (raise_yes 4 _ rfl).mono ?_
    rintro e9 w9 ⟨rfl, h9⟩
    rw [h9]
    clear h9
    go_wp2
    exact ⟨rfl, rfl, HBV.out⟩
end Go.Proofs.YtjlhkjiccibgdaaGreatDoor
namespace Go.Proofs.YtjlhkjiccibgdaaGreatDoor
open Go.ChangeShapes Go.WideShapes Go.ChangeAt Go.RowKit Go.Deep
set_option linter.unusedVariables false

set_option maxRecDepth 20000 in
set_option maxHeartbeats 1200000 in
theorem run_ft (Sb rc n mc cap : Nat) (ra ma a : Option Addr) (pc cy : Int) (w : World) (r : Int)
    (hB : Bk w Sb (srow ra 16 rc pc ma n mc 0 (-1) (-1) false false))
    (hld : ∀ X, Below w.heap.size w X → Calls Tryz.prog 54 #[gst ra 16 rc pc ma n mc, .slice a n cap, .int .u32 pc, .int .i64 4, .int .i64 4] X fun e w' => e = .panicked [fltP r] ∧ Below X.heap.size X w') :
    Calls Tryz.prog 29 #[.pointer (some ⟨Sb, 0, none⟩), .slice a n cap, .int .i64 cy] w fun e w' => e = .panicked [fltP r] ∧ Below w.heap.size w w' := by
  have sl := hB.lt
  have HLD : Hid (∀ X, Below w.heap.size w X → Calls Tryz.prog 54 #[gst ra 16 rc pc ma n mc, .slice a n cap, .int .u32 pc, .int .i64 4, .int .i64 4] X fun e w' => e = .panicked [fltP r] ∧ Below X.heap.size X w') := hld
  have HK : Hid (Bk w Sb (srow ra 16 rc pc ma n mc 0 (-1) (-1) false false)) := hB
  have C0 : Hid (w.cell? ⟨Sb, 0, none⟩ = some (.slice ra 16 rc)) := HK.out.cell 0 _ rfl
  have C1 : Hid (w.cell? ⟨Sb, 1, none⟩ = some (.int .u32 pc)) := HK.out.cell 1 _ rfl
  have C2 : Hid (w.cell? ⟨Sb, 2, none⟩ = some (.slice ma n mc)) := HK.out.cell 2 _ rfl
  have c0 := C0.out
  have c1 := C1.out
  have c2 := C2.out
  have hb : Below w.heap.size w w := Below.refl _ _
  clear hB hld
  go_enter Tryz.func29, Tryz.ntmps29
  go_wp2
  go_region_held_law (fun w' => w'.cell? ⟨Sb, 0, none⟩ = some (.slice ra 16 rc) ∧ w'.cell? ⟨Sb, 1, none⟩ = some (.int .u32 pc) ∧ w'.cell? ⟨Sb, 2, none⟩ = some (.slice ma n mc)) (first | with_reducible exact ⟨c0, c1, c2⟩ | with_reducible exact ⟨cell_drew c0, cell_drew c1, cell_drew c2⟩ | with_reducible exact ⟨cell_alloc_l _ c0, cell_alloc_l _ c1, cell_alloc_l _ c2⟩ | with_reducible exact ⟨st5 (by omega) c0, st5 (by omega) c1, st5 (by omega) c2⟩ | with_reducible exact ⟨cell_alloc_l _ (cell_drew c0), cell_alloc_l _ (cell_drew c1), cell_alloc_l _ (cell_drew c2)⟩ | with_reducible exact ⟨cell_drew (cell_alloc_l _ c0), cell_drew (cell_alloc_l _ c1), cell_drew (cell_alloc_l _ c2)⟩ | with_reducible exact ⟨st5 (by omega) (cell_alloc_l _ c0), st5 (by omega) (cell_alloc_l _ c1), st5 (by omega) (cell_alloc_l _ c2)⟩ | (trace_state; fail))
    (first | (refine step_panics rfl (some 19) rfl (.int .u32 0) (by go_simp; go_at_call 54; refine Calls.mono (HLD.out _ (by first | exact hb | exact hb.drew | exact hb.alloc hb.size _ | exact (hb.alloc hb.size _).drew)) ?_; rintro u w7 ⟨rfl, hb7⟩; have HB7 : Hid (Below w.heap.size w w7) := (by first | exact hb.trans (hb7.mono hb.size) | exact hb.drew.trans (hb7.mono hb.drew.size) | exact (hb.alloc hb.size _).trans (hb7.mono (hb.alloc hb.size _).size) | exact ((hb.alloc hb.size _).drew).trans (hb7.mono ((hb.alloc hb.size _).drew).size)); exact ⟨rfl, rfl, HB7.out⟩) ?_; intro hF) | (refine step_panics rfl (some 20) rfl (.tuple #[Is.ins 0 0 0 0 0, .bool false]) hF.out.elim ?_; intro hF2))
  all_goals exact hF.out.elim
end Go.Proofs.YtjlhkjiccibgdaaGreatDoor
