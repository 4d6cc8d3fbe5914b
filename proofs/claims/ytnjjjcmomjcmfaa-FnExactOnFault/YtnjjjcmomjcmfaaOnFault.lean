
/-
  At every policy, every health and every fault OnFault answers as its model: the law FnExactOnFault returns true and its arguments read as before. No conditions.
  Built over the program of the commit that COMMIT names.
-/
import Derived.Test.YtnjjjcmomjcmfaaRows
import Derived.WalkKit
import Derived.ProofKit
import Derived.OpenShut
import Derived.Below
import Derived.Test.YtnjjjcmomjcmfaaHoi
import Derived.ShutString
namespace Go.Proofs.Ytnjjjcmomjcmfaa.fnExactOnFault
open Go.ChangeShapes Go.WideShapes Go.ChangeAt Go.RowKit Go.Deep
set_option linter.unusedVariables false

theorem own : ownKnob Try.prog.godebug = none := by kernel_rfl

def OSF (w1 V : World) (k : Nat) (f r l : Int) (b : Bool) : Prop := Below w1.heap.size w1 V ∧ HC V k f r l b ∧ w1.heap.size ≤ k
theorem osf_new {w1 w7 : World} (f r l : Int) (b : Bool) (T : TypeId) (hb : Below w1.heap.size w1 w7) : OSF w1 (w7.alloc (.cells #[.int .i64 f, .int .i64 r, .int .i64 l, .bool b] T)) w7.heap.size f r l b :=
  ⟨hb.alloc hb.size _, HC.new _ _ _ _ _ _, hb.size⟩
theorem osf_set {w1 w7 : World} {k : Nat} {f r l : Int} {b : Bool} (hb : Below w1.heap.size w1 w7) (hV : Bk w7 k #[.int .i64 0, .int .i64 0, .int .i64 0, .bool false]) (hk : w1.heap.size ≤ k) :
    OSF w1 ((((w7.setCell ⟨k, 0, none⟩ (.int .i64 f)).setCell ⟨k, 1, none⟩ (.int .i64 r)).setCell ⟨k, 2, none⟩ (.int .i64 l)).setCell ⟨k, 3, none⟩ (.bool b)) k f r l b := by
  have g := bk4 hV (.int .i64 f) (.int .i64 r) (.int .i64 l) (.bool b)
  exact ⟨b4 hb hk _ _ _ _, ⟨g.cell 0 _ rfl, g.cell 1 _ rfl, g.cell 2 _ rfl, g.cell 3 _ rfl⟩, hk⟩
theorem bk_kept' {w w' : World} {b : Nat} {cs : Array Value} (hb : Below w.heap.size w w') (h : Bk w b cs) : Bk w' b cs := h.below hb
theorem onV_shape (k m f r l : Int) (b : Bool) (x : Int) : ∃ f' r' l' b' a, onV k m f r l b x = .tuple #[hlt f' r' l' b', .int .i64 a] := by
  unfold onV
  split
  · exact trF_shape _ _ _ _ _ _
  · exact ⟨_, _, _, _, _, rfl⟩

/-! ### The walk -/
set_option maxRecDepth 20000 in
set_option maxHeartbeats 2000000 in
theorem walk (pk pm : Int) (hf hr hl : Int) (hh : Bool) (x : Int) (w0 : polW pk pm) (w1 : hltW hf hr hl) (w2 : (Lit.int .i64 x).wf = true) (w : World) :
    Calls Try.prog 6 #[pol pk pm, hlt hf hr hl hh, .int .i64 x] w fun e w' => e = .returned (.bool true) ∧ Below w.heap.size w w' := by
  obtain ⟨f1, r1, l1, b1, a1, e⟩ := onV_shape pk pm hf hr hl hh x
  have SP : Hid (∀ X, Calls Try.prog 18 #[pol pk pm, hlt hf hr hl hh, .int .i64 x] X fun y w' => y = .returned (.tuple #[hlt f1 r1 l1 b1, .int .i64 a1]) ∧ Below X.heap.size X w') := fun X => spec_onf pk pm hf hr hl x hh _ X e
  have IM : Hid (∀ X, Calls Try.prog 19 #[pol pk pm, hlt hf hr hl hh, .int .i64 x] X fun y w' => y = .returned (.tuple #[hlt f1 r1 l1 b1, .int .i64 a1]) ∧ Below X.heap.size X w') := fun X => impl_onf pk pm hf hr hl x hh _ X e
  clear w0 w1 w2 e
  have hbW : Below w.heap.size w ((w.alloc (.cells (prow pk pm) 23)).alloc (.cells (hrow hf hr hl hh) 29)) := ((Below.refl _ w).alloc (Nat.le_refl _) _).alloc (by simp) _
  have hkW : Bk ((w.alloc (.cells (prow pk pm) 23)).alloc (.cells (hrow hf hr hl hh) 29)) w.heap.size (prow pk pm) ∧ Bk ((w.alloc (.cells (prow pk pm) 23)).alloc (.cells (hrow hf hr hl hh) 29)) (w.heap.size + 1) (hrow hf hr hl hh) := ⟨(Bk.new w _ _ w.heap.size rfl).alloc _, Bk.new _ _ _ _ (by simp)⟩
  go_enter Try.func6, Try.ntmps6
  go_wp2
  revert hbW hkW
  generalize ((w.alloc (.cells (prow pk pm) 23)).alloc (.cells (hrow hf hr hl hh) 29)) = W0
  intro hbW hkW
  have HB : Hid (Below w.heap.size w W0) := hbW
  have HK : Hid (Bk W0 w.heap.size (prow pk pm) ∧ Bk W0 (w.heap.size + 1) (hrow hf hr hl hh)) := hkW
  clear hbW hkW
  have C01 : Hid (W0.cell? ⟨w.heap.size, 0, none⟩ = some (.int .i64 pk)) := HK.out.1.cell 0 _ rfl
  have c0 := C01.out
  have C11 : Hid (W0.cell? ⟨w.heap.size, 1, none⟩ = some (.int .i64 pm)) := HK.out.1.cell 1 _ rfl
  have c1 := C11.out
  have D01 : Hid (W0.cell? ⟨w.heap.size + 1, 0, none⟩ = some (.int .i64 hf)) := HK.out.2.cell 0 _ rfl
  have d0 := D01.out
  have D11 : Hid (W0.cell? ⟨w.heap.size + 1, 1, none⟩ = some (.int .i64 hr)) := HK.out.2.cell 1 _ rfl
  have d1 := D11.out
  have D21 : Hid (W0.cell? ⟨w.heap.size + 1, 2, none⟩ = some (.int .i64 hl)) := HK.out.2.cell 2 _ rfl
  have d2 := D21.out
  have D31 : Hid (W0.cell? ⟨w.heap.size + 1, 3, none⟩ = some (.bool hh)) := HK.out.2.cell 3 _ rfl
  have d3 := D31.out
  have hb : Below W0.heap.size W0 W0 := Below.refl _ _
  have hzb : w.heap.size + 1 < W0.heap.size := HK.out.2.lt
  go_region_held_law (fun w' => w'.cell? ⟨w.heap.size, 0, none⟩ = some (.int .i64 pk) ∧ w'.cell? ⟨w.heap.size, 1, none⟩ = some (.int .i64 pm) ∧ w'.cell? ⟨w.heap.size + 1, 0, none⟩ = some (.int .i64 hf) ∧ w'.cell? ⟨w.heap.size + 1, 1, none⟩ = some (.int .i64 hr) ∧ w'.cell? ⟨w.heap.size + 1, 2, none⟩ = some (.int .i64 hl) ∧ w'.cell? ⟨w.heap.size + 1, 3, none⟩ = some (.bool hh)) (first | with_reducible exact ⟨c0, c1, d0, d1, d2, d3⟩ | with_reducible exact ⟨dr_c c0, dr_c c1, dr_c d0, dr_c d1, dr_c d2, dr_c d3⟩ | with_reducible exact ⟨al_c _ c0, al_c _ c1, al_c _ d0, al_c _ d1, al_c _ d2, al_c _ d3⟩ | with_reducible exact ⟨al_c _ (dr_c c0), al_c _ (dr_c c1), al_c _ (dr_c d0), al_c _ (dr_c d1), al_c _ (dr_c d2), al_c _ (dr_c d3)⟩ | with_reducible exact ⟨dr_c (al_c _ c0), dr_c (al_c _ c1), dr_c (al_c _ d0), dr_c (al_c _ d1), dr_c (al_c _ d2), dr_c (al_c _ d3)⟩ | with_reducible exact ⟨st4 (by omega) c0, st4 (by omega) c1, st4 (by omega) d0, st4 (by omega) d1, st4 (by omega) d2, st4 (by omega) d3⟩ | with_reducible exact ⟨st4 (by omega) (al_c _ c0), st4 (by omega) (al_c _ c1), st4 (by omega) (al_c _ d0), st4 (by omega) (al_c _ d1), st4 (by omega) (al_c _ d2), st4 (by omega) (al_c _ d3)⟩)
    (first | (go_at_call 10; refine Calls.mono (to_policy pk pm _) ?_; rintro u w11 ⟨rfl, hbb⟩; have hbn := (by first | exact hb.trans (hbb.mono hb.size) | exact hb.drew.trans (hbb.mono hb.drew.size) | exact (hb.alloc hb.size _).trans (hbb.mono (hb.alloc hb.size _).size) | exact ((hb.alloc hb.size _).drew).trans (hbb.mono ((hb.alloc hb.size _).drew).size)); replace hb := hbn; clear hbn; replace c0 := kept_c hb C01.out; replace c1 := kept_c hb C11.out; replace d0 := kept_c hb D01.out; replace d1 := kept_c hb D11.out; replace d2 := kept_c hb D21.out; replace d3 := kept_c hb D31.out; (first | replace hV := bk_kept' hbb hV | have hV := bk_kept' hbb (Bk.new _ #[.int .i64 0, .int .i64 0, .int .i64 0, .bool false] 31 _ rfl) | have hV := bk_kept' hbb (bk_kept' (Below.refl _ _).drew (Bk.new _ #[.int .i64 0, .int .i64 0, .int .i64 0, .bool false] 31 _ rfl)) | skip); have hz1 := hb.size; clear hbb) | (go_at_call 13; refine Calls.mono (to_health hf hr hl hh _) ?_; rintro u w12 ⟨rfl, hbb⟩; have hbn := (by first | exact hb.trans (hbb.mono hb.size) | exact hb.drew.trans (hbb.mono hb.drew.size) | exact (hb.alloc hb.size _).trans (hbb.mono (hb.alloc hb.size _).size) | exact ((hb.alloc hb.size _).drew).trans (hbb.mono ((hb.alloc hb.size _).drew).size)); replace hb := hbn; clear hbn; replace c0 := kept_c hb C01.out; replace c1 := kept_c hb C11.out; replace d0 := kept_c hb D01.out; replace d1 := kept_c hb D11.out; replace d2 := kept_c hb D21.out; replace d3 := kept_c hb D31.out; (first | replace hV := bk_kept' hbb hV | have hV := bk_kept' hbb (Bk.new _ #[.int .i64 0, .int .i64 0, .int .i64 0, .bool false] 31 _ rfl) | have hV := bk_kept' hbb (bk_kept' (Below.refl _ _).drew (Bk.new _ #[.int .i64 0, .int .i64 0, .int .i64 0, .bool false] 31 _ rfl)) | skip); have hz2 := hb.size; clear hbb) | (go_at_call 18; refine Calls.mono (SP.out _) ?_; rintro u w13 ⟨rfl, hbb⟩; (first | have hvz := hV.lt | skip); have hbn := (by first | exact hb.trans (hbb.mono hb.size) | exact hb.drew.trans (hbb.mono hb.drew.size) | exact (hb.alloc hb.size _).trans (hbb.mono (hb.alloc hb.size _).size) | exact ((hb.alloc hb.size _).drew).trans (hbb.mono ((hb.alloc hb.size _).drew).size)); replace hb := hbn; clear hbn; replace c0 := kept_c hb C01.out; replace c1 := kept_c hb C11.out; replace d0 := kept_c hb D01.out; replace d1 := kept_c hb D11.out; replace d2 := kept_c hb D21.out; replace d3 := kept_c hb D31.out; (first | replace hV := bk_kept' hbb hV | have hV := bk_kept' hbb (Bk.new _ #[.int .i64 0, .int .i64 0, .int .i64 0, .bool false] 31 _ rfl) | have hV := bk_kept' hbb (bk_kept' (Below.refl _ _).drew (Bk.new _ #[.int .i64 0, .int .i64 0, .int .i64 0, .bool false] 31 _ rfl)) | skip); have hz3 := hb.size; (first | (have v0 := hV.cell 0 _ rfl; have v1 := hV.cell 1 _ rfl; have v2 := hV.cell 2 _ rfl; have v3 := hV.cell 3 _ rfl; have vf := hV.free) | skip); clear hbb))
  all_goals
    first
    | (have hf := osf_set (f := f1) (r := r1) (l := l1) (b := b1) (k := w12.heap.size) hb hV (by omega)
       generalize ((((w13.setCell ⟨w12.heap.size, 0, none⟩ (.int .i64 f1)).setCell ⟨w12.heap.size, 1, none⟩ (.int .i64 r1)).setCell ⟨w12.heap.size, 2, none⟩ (.int .i64 l1)).setCell ⟨w12.heap.size, 3, none⟩ (.bool b1)) = V at hf ⊢
       generalize w12.heap.size = k at hf ⊢)
    | (have hf := osf_set (f := f1) (r := r1) (l := l1) (b := b1) (k := w11.heap.size) hb hV (by omega)
       generalize ((((w13.setCell ⟨w11.heap.size, 0, none⟩ (.int .i64 f1)).setCell ⟨w11.heap.size, 1, none⟩ (.int .i64 r1)).setCell ⟨w11.heap.size, 2, none⟩ (.int .i64 l1)).setCell ⟨w11.heap.size, 3, none⟩ (.bool b1)) = V at hf ⊢
       generalize w11.heap.size = k at hf ⊢)
    | (have hf := osf_set (f := f1) (r := r1) (l := l1) (b := b1) (k := W0.heap.size) hb hV (by omega)
       generalize ((((w13.setCell ⟨W0.heap.size, 0, none⟩ (.int .i64 f1)).setCell ⟨W0.heap.size, 1, none⟩ (.int .i64 r1)).setCell ⟨W0.heap.size, 2, none⟩ (.int .i64 l1)).setCell ⟨W0.heap.size, 3, none⟩ (.bool b1)) = V at hf ⊢
       generalize W0.heap.size = k at hf ⊢)
    | (have hf := osf_new f1 r1 l1 b1 31 hb
       generalize w13.alloc (.cells #[.int .i64 f1, .int .i64 r1, .int .i64 l1, .bool b1] 31) = V at hf ⊢
       generalize w13.heap.size = k at hf ⊢)
  all_goals
    try clear v0 v1 v2 v3 vf
    try clear hvz
    try clear hV
    rename_i hhh
    clear hhh
    clear hb c0 c1 d0 d1 d2 d3 hz1 hz2 hz3
    revert hf
    revert V k
    try clear w13
    try clear w12
    try clear w11
    try clear w12
    refine ?way1
  intro V1 k1 hf1
  clear C01 C11 D01 D11 D21 D31 hzb
  replace HK : Hid (Bk V1 w.heap.size (prow pk pm) ∧ Bk V1 (w.heap.size + 1) (hrow hf hr hl hh)) := ⟨HK.out.1.below hf1.1, HK.out.2.below hf1.1⟩
  replace HB : Hid (Below w.heap.size w V1) := HB.out.trans (hf1.1.mono HB.out.size)
  have HS : Hid (HC V1 k1 f1 r1 l1 b1) := hf1.2.1
  have hk1 : k1 < V1.heap.size := hf1.2.1.lt
  clear hf1
  have C02 : Hid (V1.cell? ⟨w.heap.size, 0, none⟩ = some (.int .i64 pk)) := HK.out.1.cell 0 _ rfl
  have c0 := C02.out
  have C12 : Hid (V1.cell? ⟨w.heap.size, 1, none⟩ = some (.int .i64 pm)) := HK.out.1.cell 1 _ rfl
  have c1 := C12.out
  have D02 : Hid (V1.cell? ⟨w.heap.size + 1, 0, none⟩ = some (.int .i64 hf)) := HK.out.2.cell 0 _ rfl
  have d0 := D02.out
  have D12 : Hid (V1.cell? ⟨w.heap.size + 1, 1, none⟩ = some (.int .i64 hr)) := HK.out.2.cell 1 _ rfl
  have d1 := D12.out
  have D22 : Hid (V1.cell? ⟨w.heap.size + 1, 2, none⟩ = some (.int .i64 hl)) := HK.out.2.cell 2 _ rfl
  have d2 := D22.out
  have D32 : Hid (V1.cell? ⟨w.heap.size + 1, 3, none⟩ = some (.bool hh)) := HK.out.2.cell 3 _ rfl
  have d3 := D32.out
  have hb : Below V1.heap.size V1 V1 := Below.refl _ _
  have hzb : w.heap.size + 1 < V1.heap.size := HK.out.2.lt
  go_wp2
  go_region_held_law (fun w' => w'.cell? ⟨w.heap.size, 0, none⟩ = some (.int .i64 pk) ∧ w'.cell? ⟨w.heap.size, 1, none⟩ = some (.int .i64 pm) ∧ w'.cell? ⟨w.heap.size + 1, 0, none⟩ = some (.int .i64 hf) ∧ w'.cell? ⟨w.heap.size + 1, 1, none⟩ = some (.int .i64 hr) ∧ w'.cell? ⟨w.heap.size + 1, 2, none⟩ = some (.int .i64 hl) ∧ w'.cell? ⟨w.heap.size + 1, 3, none⟩ = some (.bool hh)) (first | with_reducible exact ⟨c0, c1, d0, d1, d2, d3⟩ | with_reducible exact ⟨dr_c c0, dr_c c1, dr_c d0, dr_c d1, dr_c d2, dr_c d3⟩ | with_reducible exact ⟨al_c _ c0, al_c _ c1, al_c _ d0, al_c _ d1, al_c _ d2, al_c _ d3⟩ | with_reducible exact ⟨al_c _ (dr_c c0), al_c _ (dr_c c1), al_c _ (dr_c d0), al_c _ (dr_c d1), al_c _ (dr_c d2), al_c _ (dr_c d3)⟩ | with_reducible exact ⟨dr_c (al_c _ c0), dr_c (al_c _ c1), dr_c (al_c _ d0), dr_c (al_c _ d1), dr_c (al_c _ d2), dr_c (al_c _ d3)⟩ | with_reducible exact ⟨st4 (by omega) c0, st4 (by omega) c1, st4 (by omega) d0, st4 (by omega) d1, st4 (by omega) d2, st4 (by omega) d3⟩ | with_reducible exact ⟨st4 (by omega) (al_c _ c0), st4 (by omega) (al_c _ c1), st4 (by omega) (al_c _ d0), st4 (by omega) (al_c _ d1), st4 (by omega) (al_c _ d2), st4 (by omega) (al_c _ d3)⟩)
    (first | (go_at_call 10; refine Calls.mono (to_policy pk pm _) ?_; rintro u w21 ⟨rfl, hbb⟩; have hbn := (by first | exact hb.trans (hbb.mono hb.size) | exact hb.drew.trans (hbb.mono hb.drew.size) | exact (hb.alloc hb.size _).trans (hbb.mono (hb.alloc hb.size _).size) | exact ((hb.alloc hb.size _).drew).trans (hbb.mono ((hb.alloc hb.size _).drew).size)); replace hb := hbn; clear hbn; replace c0 := kept_c hb C02.out; replace c1 := kept_c hb C12.out; replace d0 := kept_c hb D02.out; replace d1 := kept_c hb D12.out; replace d2 := kept_c hb D22.out; replace d3 := kept_c hb D32.out; (first | replace hV := bk_kept' hbb hV | have hV := bk_kept' hbb (Bk.new _ #[.int .i64 0, .int .i64 0, .int .i64 0, .bool false] 31 _ rfl) | have hV := bk_kept' hbb (bk_kept' (Below.refl _ _).drew (Bk.new _ #[.int .i64 0, .int .i64 0, .int .i64 0, .bool false] 31 _ rfl)) | skip); have hz1 := hb.size; clear hbb) | (go_at_call 13; refine Calls.mono (to_health hf hr hl hh _) ?_; rintro u w22 ⟨rfl, hbb⟩; have hbn := (by first | exact hb.trans (hbb.mono hb.size) | exact hb.drew.trans (hbb.mono hb.drew.size) | exact (hb.alloc hb.size _).trans (hbb.mono (hb.alloc hb.size _).size) | exact ((hb.alloc hb.size _).drew).trans (hbb.mono ((hb.alloc hb.size _).drew).size)); replace hb := hbn; clear hbn; replace c0 := kept_c hb C02.out; replace c1 := kept_c hb C12.out; replace d0 := kept_c hb D02.out; replace d1 := kept_c hb D12.out; replace d2 := kept_c hb D22.out; replace d3 := kept_c hb D32.out; (first | replace hV := bk_kept' hbb hV | have hV := bk_kept' hbb (Bk.new _ #[.int .i64 0, .int .i64 0, .int .i64 0, .bool false] 31 _ rfl) | have hV := bk_kept' hbb (bk_kept' (Below.refl _ _).drew (Bk.new _ #[.int .i64 0, .int .i64 0, .int .i64 0, .bool false] 31 _ rfl)) | skip); have hz2 := hb.size; clear hbb) | (go_at_call 19; refine Calls.mono (IM.out _) ?_; rintro u w23 ⟨rfl, hbb⟩; (first | have hvz := hV.lt | skip); have hbn := (by first | exact hb.trans (hbb.mono hb.size) | exact hb.drew.trans (hbb.mono hb.drew.size) | exact (hb.alloc hb.size _).trans (hbb.mono (hb.alloc hb.size _).size) | exact ((hb.alloc hb.size _).drew).trans (hbb.mono ((hb.alloc hb.size _).drew).size)); replace hb := hbn; clear hbn; replace c0 := kept_c hb C02.out; replace c1 := kept_c hb C12.out; replace d0 := kept_c hb D02.out; replace d1 := kept_c hb D12.out; replace d2 := kept_c hb D22.out; replace d3 := kept_c hb D32.out; (first | replace hV := bk_kept' hbb hV | have hV := bk_kept' hbb (Bk.new _ #[.int .i64 0, .int .i64 0, .int .i64 0, .bool false] 31 _ rfl) | have hV := bk_kept' hbb (bk_kept' (Below.refl _ _).drew (Bk.new _ #[.int .i64 0, .int .i64 0, .int .i64 0, .bool false] 31 _ rfl)) | skip); have hz3 := hb.size; (first | (have v0 := hV.cell 0 _ rfl; have v1 := hV.cell 1 _ rfl; have v2 := hV.cell 2 _ rfl; have v3 := hV.cell 3 _ rfl; have vf := hV.free) | skip); clear hbb))
  all_goals
    first
    | (have hf := osf_set (f := f1) (r := r1) (l := l1) (b := b1) (k := w22.heap.size) hb hV (by omega)
       generalize ((((w23.setCell ⟨w22.heap.size, 0, none⟩ (.int .i64 f1)).setCell ⟨w22.heap.size, 1, none⟩ (.int .i64 r1)).setCell ⟨w22.heap.size, 2, none⟩ (.int .i64 l1)).setCell ⟨w22.heap.size, 3, none⟩ (.bool b1)) = V at hf ⊢
       generalize w22.heap.size = k at hf ⊢)
    | (have hf := osf_set (f := f1) (r := r1) (l := l1) (b := b1) (k := w21.heap.size) hb hV (by omega)
       generalize ((((w23.setCell ⟨w21.heap.size, 0, none⟩ (.int .i64 f1)).setCell ⟨w21.heap.size, 1, none⟩ (.int .i64 r1)).setCell ⟨w21.heap.size, 2, none⟩ (.int .i64 l1)).setCell ⟨w21.heap.size, 3, none⟩ (.bool b1)) = V at hf ⊢
       generalize w21.heap.size = k at hf ⊢)
    | (have hf := osf_set (f := f1) (r := r1) (l := l1) (b := b1) (k := V1.heap.size) hb hV (by omega)
       generalize ((((w23.setCell ⟨V1.heap.size, 0, none⟩ (.int .i64 f1)).setCell ⟨V1.heap.size, 1, none⟩ (.int .i64 r1)).setCell ⟨V1.heap.size, 2, none⟩ (.int .i64 l1)).setCell ⟨V1.heap.size, 3, none⟩ (.bool b1)) = V at hf ⊢
       generalize V1.heap.size = k at hf ⊢)
    | (have hf := osf_new f1 r1 l1 b1 31 hb
       generalize w23.alloc (.cells #[.int .i64 f1, .int .i64 r1, .int .i64 l1, .bool b1] 31) = V at hf ⊢
       generalize w23.heap.size = k at hf ⊢)
  all_goals
    try clear v0 v1 v2 v3 vf
    try clear hvz
    try clear hV
    rename_i hhh
    clear hhh
    clear hb c0 c1 d0 d1 d2 d3 hz1 hz2 hz3
    revert hf
    revert V k
    try clear w23
    try clear w22
    try clear w21
    try clear w22
    refine ?way2
  intro V2 k2 hf2
  clear C02 C12 D02 D12 D22 D32 hzb
  have s0 := (HS.out.kept hf2.1 hk1).c0
  have s1 := (HS.out.kept hf2.1 hk1).c1
  have s2 := (HS.out.kept hf2.1 hk1).c2
  have s3 := (HS.out.kept hf2.1 hk1).c3
  have g0 := hf2.2.1.c0
  have g1 := hf2.2.1.c1
  have g2 := hf2.2.1.c2
  have g3 := hf2.2.1.c3
  replace HB : Hid (Below w.heap.size w V2) := HB.out.trans (hf2.1.mono HB.out.size)
  clear hf2 HS HK
  go_wp2_with fail
  refine (eq_health f1 r1 l1 b1 _).mono ?_
  rintro u w5 ⟨rfl, hb5⟩
  replace HB : Hid (Below w.heap.size w w5) := HB.out.trans (hb5.mono HB.out.size)
  clear hb5 s0 s1 s2 s3 g0 g1 g2 g3
  go_wp2
  go_ret
  exact ⟨rfl, HB.out⟩


/-! ### The row -/
set_option maxRecDepth 100000 in
theorem lifted (os : Os) (started : os.Started) (H : Type) (enc : TypeId × Value → H) :
    ReturnsInHanded {} Try.checked os 6 .any (Rows.fnExactOnFaultSpec.pre6 enc Try.prog Try.f6 Rows.fnExactOnFaultRow.domain false) (Rows.fnExactOnFaultSpec.post enc Try.prog Try.f6 false true false false) := by
  refine returnsInHanded_of_change (C := Try.checked) own started (by kernel_rfl) Try.func6
    (ChangeSpec.witness6 (enc := enc) (C := Try.checked) false ⟨#[], #[pol 0 0, hlt 0 0 0 false, .int .i64 0], []⟩ 8 (by kernel_rfl) (by kernel_rfl) (by kernel_rfl) (by kernel_rfl)) ?_
  intro W base args ds gs before hval0 hW hcnd _
  have hval : ∀ (j : Nat) t v, Try.f6.params[j]? = some t → args[j]? = some v → Value.okWide Try.prog W .any base t v := hval0
  have hW' := hW
  obtain ⟨p, q, hA0, hV, rfl, hfz, hnd⟩ := hW
  have hA : DataW.TrodAll enc Try.prog W 0 (fun _ => true) true Try.f6.params.toList args.toList ds p := hA0
  rw [Try.params6] at hA hval
  obtain ⟨v0, vs0, d0, ds0, p0, q0, hargs, rfl, rfl, h0, r0⟩ := trodAll_cons hA
  obtain ⟨v1, vs1, d1, ds1, p1, q1, rfl, rfl, rfl, h1, r1⟩ := trodAll_cons r0
  obtain ⟨v2, vs2, d2, ds2, p2, q2, rfl, rfl, rfl, h2, r2⟩ := trodAll_cons r1
  obtain ⟨rfl, rfl, rfl⟩ := trodAll_nil r2
  obtain rfl : args = #[v0, v1, v2] := by cases args; simp_all
  obtain ⟨rfl, rfl⟩ := trodVars_none hV
  obtain ⟨pk, pm, rfl, rfl, rfl, w0⟩ := pol_open (hval 0 23 v0 rfl rfl) h0
  obtain ⟨hf, hr, hl, hh, rfl, rfl, rfl, w1⟩ := hlt_open (hval 1 29 v1 rfl rfl) h1
  obtain ⟨x, rfl, rfl, rfl, w2⟩ := open_int Try.underlying3 (hval 2 3 v2 rfl rfl) h2
  clear hA0 hval0
  simp only [List.append_nil] at hW'
  refine (walk pk pm hf hr hl hh x w0 w1 w2 W).mono fun e W' ⟨he, bel⟩ => ?_
  subst he
  exact ⟨_, rfl, _, _, _, [], [], [], hW', (trodAll_cons_mk (shut_bool Try.underlying4 _) trodAll_mk0), (trodAll_cons_mk (pol_reads w0) (trodAll_cons_mk (hlt_reads w1) (trodAll_cons_mk (shut_int Try.underlying3 w2) trodAll_mk0))), rfl, bel.frame _, fun h => by cases h⟩

theorem over : Rows.fnExactOnFaultRow.holds Try.pinned (OpenSpec.ofChange Rows.fnExactOnFaultSpec) :=
  OpenClaim.holds_of_wide 6 Try.f6 rfl rfl rfl rfl rfl rfl rfl ⟨rfl, rfl, rfl, rfl, rfl⟩ rfl rfl rfl rfl rfl (by kernel_rfl) Try.func6 (by kernel_rfl)
    (of_decide_eq_true (by kernel_rfl)) (by unfold Func.isWrapper; first | (rw [if_pos (by decide +kernel)]; kernel_rfl) | (rw [if_neg (by decide +kernel)]; exact ⟨rfl, rfl⟩))
    (fun os started H enc _ => lifted os started H enc)

end Go.Proofs.Ytnjjjcmomjcmfaa.fnExactOnFault
namespace Go.Proofs.Ytnjjjcmomjcmfaa
theorem FnExactOnFault_holds : Rows.FnExactOnFaultSaid := fnExactOnFault.over
end Go.Proofs.Ytnjjjcmomjcmfaa
