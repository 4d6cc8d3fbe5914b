
/-
  At every row of a channel and every end RecvOn answers as its model and leaves its arguments as they were: the law FnExactRecvOn returns true and its arguments read as before. No conditions.
  Built over the program of the commit that COMMIT names.
-/
import Derived.Test.YtoofjlfbedjbnaaRows
import Derived.WalkKit
import Derived.ProofKit
import Derived.OpenShut
import Derived.Below
import Derived.Carry
import Derived.Test.YtoofjlfbedjbnaaChx
import Derived.Test.YtoofjlfbedjbnaaChk
import Derived.ShutString
namespace Go.Proofs.Ytoofjlfbedjbnaa.fnExactRecvOn
open Go.ChangeShapes Go.WideShapes Go.ChangeAt Go.RowKit Go.Deep
set_option linter.unusedVariables false

theorem own : ownKnob Try.prog.godebug = none := by kernel_rfl

/-! ### The walk -/
set_option maxRecDepth 20000 in
set_option maxHeartbeats 16000000 in
theorem walk (rk rf rt rd : Int) (a : Option Addr) (cap n : Nat) (zs : List Int) (w : World) (hs : Seg .u32 w a zs) (hl : zs.length = n) (hn : n ≤ 9223372036854775807) :
    Calls Try.prog 9 #[crw rk rf rt rd, ien a n cap] w fun e w' => e = .returned (.bool true) ∧ Below w.heap.size w w' := by
  have hrb : n ≤ 9223372036854775807 := hn
  have HS0 : Hid (Seg .u32 w a zs) := hs
  have HL0 : Hid (zs.length = n) := hl
  clear hs hl hn
  have HB : Hid (Below w.heap.size w ((w.alloc (.cells (crow rk rf rt rd) 23)).alloc (.cells (irow a n cap) 38))) := ((Below.refl _ w).alloc (Nat.le_refl _) _).alloc (by simp) _
  have HR : Hid (Bk ((w.alloc (.cells (crow rk rf rt rd) 23)).alloc (.cells (irow a n cap) 38)) w.heap.size (crow rk rf rt rd)) := (Bk.new w _ _ _ rfl).alloc _
  have HE : Hid (Bk ((w.alloc (.cells (crow rk rf rt rd) 23)).alloc (.cells (irow a n cap) 38)) (w.heap.size + 1) (irow a n cap)) := Bk.new _ _ _ _ (by simp)
  go_enter Try.func9, Try.ntmps9
  go_wp2_with fail
  refine Calls.mono (sz_in a cap n 1048576 _ hrb (Nat.le_refl _)) ?_
  rintro u w11 ⟨⟨r, rfl, hr⟩, hb11⟩
  replace HB : Hid (Below w.heap.size w _) := HB.out.trans (hb11.mono HB.out.size)
  replace HR : Hid (Bk _ _ _) := Bk.below HR.out hb11
  replace HE : Hid (Bk _ _ _) := Bk.below HE.out hb11
  clear hb11
  rcases hr with hr | ⟨hr, hbig⟩
  · go_wp2
    go_ret
    exact ⟨rfl, HB.out⟩
  have hr0 : ¬ (r < 0) := by omega
  have hrow : w.heap.size + 1 < w11.heap.size := HE.out.lt
  have TO : Hid (∀ X, Below w.heap.size w X → Calls Try.prog 24 #[ien a n cap] X fun e w' => ∃ a', e = .returned (ien a' n n) ∧ Below X.heap.size X w' ∧ OE w' X.heap.size w'.heap.size a' zs) := fun X hX => to_in a cap n zs X (HS0.out.below hX) HL0.out hbig
  have EQ : Hid (∀ (X : World) a1 a2, Seg .u32 X a1 zs → Seg .u32 X a2 zs → Calls Try.prog 26 #[ien a1 n n, ien a2 n n] X fun e w' => e = .returned (.bool true) ∧ Below X.heap.size X w') := fun X a1 a2 h1 h2 => eq_in a1 a2 n n n zs X h1 h2 HL0.out hbig
  obtain ⟨ys, x, cd, HQ⟩ : ∃ ys x cd, Hid (rcvF rk rf rt rd (n : Int) zs = (ys, x, cd)) := ⟨_, _, _, rfl⟩
  have hy0 := rcv_len HQ.out HL0.out hbig
  obtain ⟨y, HYL⟩ : ∃ y, Hid (ys.length = y) := ⟨_, rfl⟩
  have hy : y ≤ 1048576 := by have := HYL.out; omega
  have SP : Hid (∀ (X : World) a1, Seg .u32 X a1 zs → Calls Try.prog 35 #[crw rk rf rt rd, ien a1 n n] X fun e w' => ∃ a' c', e = .returned (.tuple #[ien a' y c', .int .u32 x, .int .i64 cd]) ∧ Below X.heap.size X w' ∧ OE w' X.heap.size w'.heap.size a' ys) := fun X a1 h1 => by have g := spec_recv rk rf rt rd a1 n n zs ys x cd X h1 HL0.out hbig (Nat.le_refl _) HQ; rw [HYL.out] at g; exact g
  have IM : Hid (∀ (X : World) a1, Seg .u32 X a1 zs → Calls Try.prog 36 #[crw rk rf rt rd, ien a1 n n] X fun e w' => ∃ a' c', e = .returned (.tuple #[ien a' y c', .int .u32 x, .int .i64 cd]) ∧ Below X.heap.size X w' ∧ OE w' X.heap.size w'.heap.size a' ys) := fun X a1 h1 => by have g := impl_recv rk rf rt rd a1 n n zs ys x cd X h1 HL0.out hbig (Nat.le_refl _) HQ; rw [HYL.out] at g; exact g
  clear HQ hy0
  have hb : Below w11.heap.size w11 w11 := Below.refl _ _
  have HBX : Hid (∀ X, Below w11.heap.size w11 X → Below w.heap.size w X) := fun X hX => HB.out.trans (hX.mono HB.out.size)
  have AC0 : Hid (w11.cell? ⟨w.heap.size, 0, none⟩ = some (.int .i64 rk)) := HR.out.cell 0 _ rfl
  have ac0 := AC0.out
  have AC1 : Hid (w11.cell? ⟨w.heap.size, 1, none⟩ = some (.int .i64 rf)) := HR.out.cell 1 _ rfl
  have ac1 := AC1.out
  have AC2 : Hid (w11.cell? ⟨w.heap.size, 2, none⟩ = some (.int .i64 rt)) := HR.out.cell 2 _ rfl
  have ac2 := AC2.out
  have AC3 : Hid (w11.cell? ⟨w.heap.size, 3, none⟩ = some (.int .i64 rd)) := HR.out.cell 3 _ rfl
  have ac3 := AC3.out
  have BC0 : Hid (w11.cell? ⟨w.heap.size + 1, 0, none⟩ = some (.slice a n cap)) := HE.out.cell 0 _ rfl
  have bc0 := BC0.out
  try go_wp2
  go_region_held_law (fun w' => w'.cell? ⟨w.heap.size, 0, none⟩ = some (.int .i64 rk) ∧ w'.cell? ⟨w.heap.size, 1, none⟩ = some (.int .i64 rf) ∧ w'.cell? ⟨w.heap.size, 2, none⟩ = some (.int .i64 rt) ∧ w'.cell? ⟨w.heap.size, 3, none⟩ = some (.int .i64 rd) ∧ w'.cell? ⟨w.heap.size + 1, 0, none⟩ = some (.slice a n cap)) (first | with_reducible exact ⟨ac0, ac1, ac2, ac3, bc0⟩ | with_reducible exact ⟨dr_c ac0, dr_c ac1, dr_c ac2, dr_c ac3, dr_c bc0⟩ | with_reducible exact ⟨al_c _ ac0, al_c _ ac1, al_c _ ac2, al_c _ ac3, al_c _ bc0⟩ | with_reducible exact ⟨al_c _ (dr_c ac0), al_c _ (dr_c ac1), al_c _ (dr_c ac2), al_c _ (dr_c ac3), al_c _ (dr_c bc0)⟩ | with_reducible exact ⟨dr_c (al_c _ ac0), dr_c (al_c _ ac1), dr_c (al_c _ ac2), dr_c (al_c _ ac3), dr_c (al_c _ bc0)⟩ | with_reducible exact ⟨st1 (by omega) ac0, st1 (by omega) ac1, st1 (by omega) ac2, st1 (by omega) ac3, st1 (by omega) bc0⟩ | with_reducible exact ⟨st1 (by omega) (al_c _ ac0), st1 (by omega) (al_c _ ac1), st1 (by omega) (al_c _ ac2), st1 (by omega) (al_c _ ac3), st1 (by omega) (al_c _ bc0)⟩)
    (first | (go_at_call 15; refine Calls.mono (to_row rk rf rt rd _) ?_; rintro u w99 ⟨rfl, hbb⟩; have hbn := (by first | exact hb.trans (hbb.mono hb.size) | exact hb.drew.trans (hbb.mono hb.drew.size) | exact (hb.alloc hb.size _).trans (hbb.mono (hb.alloc hb.size _).size) | exact ((hb.alloc hb.size _).drew).trans (hbb.mono ((hb.alloc hb.size _).drew).size)); replace hb := hbn; clear hbn; replace ac0 := kept_c hb AC0.out; replace ac1 := kept_c hb AC1.out; replace ac2 := kept_c hb AC2.out; replace ac3 := kept_c hb AC3.out; replace bc0 := kept_c hb BC0.out; (first | replace hV := bk_kept hbb hV | have hV := bk_kept hbb (Bk.new _ #[.slice none 0 0] 41 _ rfl) | have hV := bk_kept hbb (bk_kept (Below.refl _ _).drew (Bk.new _ #[.slice none 0 0] 41 _ rfl)) | skip); (first | replace hsO := oe_kept hbb hsO | replace hsO := oe_kept hbb (oe_kept ((Below.refl _ _).alloc (Nat.le_refl _) _) hsO) | skip); have hz90 := hb.size; clear hbb) | (go_at_call 24; refine Calls.mono (TO.out _ (HBX.out _ (by first | exact hb | exact hb.drew | exact hb.alloc hb.size _ | exact (hb.alloc hb.size _).drew))) ?_; rintro u w98 ⟨a9, rfl, hbb, hsO⟩; have hbn := (by first | exact hb.trans (hbb.mono hb.size) | exact hb.drew.trans (hbb.mono hb.drew.size) | exact (hb.alloc hb.size _).trans (hbb.mono (hb.alloc hb.size _).size) | exact ((hb.alloc hb.size _).drew).trans (hbb.mono ((hb.alloc hb.size _).drew).size)); replace hb := hbn; clear hbn; replace ac0 := kept_c hb AC0.out; replace ac1 := kept_c hb AC1.out; replace ac2 := kept_c hb AC2.out; replace ac3 := kept_c hb AC3.out; replace bc0 := kept_c hb BC0.out; (first | replace hV := bk_kept hbb hV | have hV := bk_kept hbb (Bk.new _ #[.slice none 0 0] 41 _ rfl) | have hV := bk_kept hbb (bk_kept (Below.refl _ _).drew (Bk.new _ #[.slice none 0 0] 41 _ rfl)) | skip); have hz91 := hb.size; clear hbb) | (go_at_call 35; refine Calls.mono (SP.out _ a9 (by first | exact OE.seg hsO | exact OE.seg (oe_kept ((Below.refl _ _).alloc (Nat.le_refl _) _) hsO))) ?_; rintro u w97 ⟨a7, c7, rfl, hbb, ho7⟩; (first | have hvz := hV.lt | skip); have hbn := (by first | exact hb.trans (hbb.mono hb.size) | exact hb.drew.trans (hbb.mono hb.drew.size) | exact (hb.alloc hb.size _).trans (hbb.mono (hb.alloc hb.size _).size) | exact ((hb.alloc hb.size _).drew).trans (hbb.mono ((hb.alloc hb.size _).drew).size)); replace hb := hbn; clear hbn; replace ac0 := kept_c hb AC0.out; replace ac1 := kept_c hb AC1.out; replace ac2 := kept_c hb AC2.out; replace ac3 := kept_c hb AC3.out; replace bc0 := kept_c hb BC0.out; (first | replace hV := bk_kept hbb hV | have hV := bk_kept hbb (Bk.new _ #[.slice none 0 0] 41 _ rfl) | have hV := bk_kept hbb (bk_kept (Below.refl _ _).drew (Bk.new _ #[.slice none 0 0] 41 _ rfl)) | skip); have HO7 : Hid (OE _ _ _ _ _) := ho7; have hz7 := hbb.size; clear ho7; have hz92 := hb.size; (first | (have v0 := hV.cell 0 _ rfl; have vf := hV.free) | skip); clear hbb))
  all_goals
    first
    | (have hf := ef_set1 (v0 := (.slice a7 y c7)) (k := w98.heap.size) hb hV (by omega) HO7.out (by first | exact hvz | simp | omega) hz7
       generalize (w97.setCell ⟨w98.heap.size, 0, none⟩ (.slice a7 y c7)) = V at hf ⊢
       generalize w98.heap.size = k at hf ⊢)
    | (have hf := ef_set1 (v0 := (.slice a7 y c7)) (k := w99.heap.size) hb hV (by omega) HO7.out (by first | exact hvz | simp | omega) hz7
       generalize (w97.setCell ⟨w99.heap.size, 0, none⟩ (.slice a7 y c7)) = V at hf ⊢
       generalize w99.heap.size = k at hf ⊢)
    | (have hf := ef_set1 (v0 := (.slice a7 y c7)) (k := w11.heap.size) hb hV (by omega) HO7.out (by first | exact hvz | simp | omega) hz7
       generalize (w97.setCell ⟨w11.heap.size, 0, none⟩ (.slice a7 y c7)) = V at hf ⊢
       generalize w11.heap.size = k at hf ⊢)
    | (have hf := ef_new #[.slice a7 y c7] 41 hb HO7.out (by first | omega | (simp; omega)) hz7
       generalize w97.alloc (.cells #[.slice a7 y c7] 41) = V at hf ⊢
       generalize w97.heap.size = k at hf ⊢)
  all_goals
    rename_i hhh
    clear hhh
    try clear v0 vf
    try clear hvz
    try clear hV
    clear HO7 hz7 hb ac0 ac1 ac2 ac3 bc0
    clear hz90 hz91 hz92
    try clear hsO
    revert hf
    revert V k a7 c7
    try clear w97
    revert a9
    try clear w98
    try clear w99
    try clear w98
    refine ?wayS
  intro a9 a7 c7 V k hf
  clear HBX AC0 AC1 AC2 AC3 BC0
  have hbV := hf.1
  have hkS := hf.2.2.1
  have hlS := hf.2.1.lt
  have hmS := hbV.size
  replace HB : Hid (Below w.heap.size w _) := HB.out.trans (hbV.mono HB.out.size)
  replace HR : Hid (Bk _ _ _) := Bk.below HR.out hbV
  replace HE : Hid (Bk _ _ _) := Bk.below HE.out hbV
  obtain ⟨loS, hiS, hoS, h1S, h2S, h3S, h4S⟩ := hf.2.2.2
  have SV : Hid (Bk V k #[.slice a7 y c7]) := hf.2.1
  have SA : Hid (OE V loS hiS a7 ys) := hoS
  clear hbV hf hoS
  have g0 := HE.out.cell 0 _ rfl
  go_wp2_with fail
  refine Calls.mono (TO.out _ HB.out) ?_
  rintro u w12 ⟨a12, rfl, hb12, ho12⟩
  clear g0
  have hmX := hb12.size
  have hal : Below w12.heap.size w12 (w12.alloc (.cells (irow a12 n n) 41)) := (Below.refl _ _).alloc (Nat.le_refl _) _
  have hb12' := hb12.trans (hal.mono hb12.size)
  replace HB : Hid (Below w.heap.size w _) := HB.out.trans (hb12'.mono HB.out.size)
  replace HR : Hid (Bk _ _ _) := Bk.below HR.out hb12'
  replace HE : Hid (Bk _ _ _) := Bk.below HE.out hb12'
  replace SV : Hid (Bk _ _ _) := Bk.below SV.out hb12'
  replace SA : Hid (OE _ _ _ _ _) := OE.below SA.out hb12'
  have hXA : OE (w12.alloc (.cells (irow a12 n n) 41)) V.heap.size w12.heap.size a12 zs := ho12.below hal
  have hXV : Bk (w12.alloc (.cells (irow a12 n n) 41)) w12.heap.size (irow a12 n n) := Bk.new _ _ _ _ rfl
  clear hb12 hb12' hal ho12
  try go_wp2
  revert hmX hXA hXV HB HR HE SV SA
  generalize (w12.alloc (.cells (irow a12 n n) 41)) = V1
  generalize w12.heap.size = kx
  intro hmX HB HR HE SV SA hXA hXV
  have XA : Hid (OE V1 V.heap.size kx a12 zs) := hXA
  have XV : Hid (Bk V1 kx (irow a12 n n)) := hXV
  have hlX := hXV.lt
  clear hXA hXV
  have HXS : Hid (∀ X, Below V1.heap.size V1 X → Seg .u32 X a12 zs) := fun X hX => OE.seg (OE.below XA.out hX)
  have hb : Below V1.heap.size V1 V1 := Below.refl _ _
  have HBX : Hid (∀ X, Below V1.heap.size V1 X → Below w.heap.size w X) := fun X hX => HB.out.trans (hX.mono HB.out.size)
  have AC0 : Hid (V1.cell? ⟨w.heap.size, 0, none⟩ = some (.int .i64 rk)) := HR.out.cell 0 _ rfl
  have ac0 := AC0.out
  have AC1 : Hid (V1.cell? ⟨w.heap.size, 1, none⟩ = some (.int .i64 rf)) := HR.out.cell 1 _ rfl
  have ac1 := AC1.out
  have AC2 : Hid (V1.cell? ⟨w.heap.size, 2, none⟩ = some (.int .i64 rt)) := HR.out.cell 2 _ rfl
  have ac2 := AC2.out
  have AC3 : Hid (V1.cell? ⟨w.heap.size, 3, none⟩ = some (.int .i64 rd)) := HR.out.cell 3 _ rfl
  have ac3 := AC3.out
  have BC0 : Hid (V1.cell? ⟨kx, 0, none⟩ = some (.slice a12 n n)) := XV.out.cell 0 _ rfl
  have bc0 := BC0.out
  try go_wp2
  go_region_held_law (fun w' => w'.cell? ⟨w.heap.size, 0, none⟩ = some (.int .i64 rk) ∧ w'.cell? ⟨w.heap.size, 1, none⟩ = some (.int .i64 rf) ∧ w'.cell? ⟨w.heap.size, 2, none⟩ = some (.int .i64 rt) ∧ w'.cell? ⟨w.heap.size, 3, none⟩ = some (.int .i64 rd) ∧ w'.cell? ⟨kx, 0, none⟩ = some (.slice a12 n n)) (first | with_reducible exact ⟨ac0, ac1, ac2, ac3, bc0⟩ | with_reducible exact ⟨dr_c ac0, dr_c ac1, dr_c ac2, dr_c ac3, dr_c bc0⟩ | with_reducible exact ⟨al_c _ ac0, al_c _ ac1, al_c _ ac2, al_c _ ac3, al_c _ bc0⟩ | with_reducible exact ⟨al_c _ (dr_c ac0), al_c _ (dr_c ac1), al_c _ (dr_c ac2), al_c _ (dr_c ac3), al_c _ (dr_c bc0)⟩ | with_reducible exact ⟨dr_c (al_c _ ac0), dr_c (al_c _ ac1), dr_c (al_c _ ac2), dr_c (al_c _ ac3), dr_c (al_c _ bc0)⟩ | with_reducible exact ⟨st1 (by omega) ac0, st1 (by omega) ac1, st1 (by omega) ac2, st1 (by omega) ac3, st1 (by omega) bc0⟩ | with_reducible exact ⟨st1 (by omega) (al_c _ ac0), st1 (by omega) (al_c _ ac1), st1 (by omega) (al_c _ ac2), st1 (by omega) (al_c _ ac3), st1 (by omega) (al_c _ bc0)⟩)
    (first | (go_at_call 15; refine Calls.mono (to_row rk rf rt rd _) ?_; rintro u w99 ⟨rfl, hbb⟩; have hbn := (by first | exact hb.trans (hbb.mono hb.size) | exact hb.drew.trans (hbb.mono hb.drew.size) | exact (hb.alloc hb.size _).trans (hbb.mono (hb.alloc hb.size _).size) | exact ((hb.alloc hb.size _).drew).trans (hbb.mono ((hb.alloc hb.size _).drew).size)); replace hb := hbn; clear hbn; replace ac0 := kept_c hb AC0.out; replace ac1 := kept_c hb AC1.out; replace ac2 := kept_c hb AC2.out; replace ac3 := kept_c hb AC3.out; replace bc0 := kept_c hb BC0.out; (first | replace hV := bk_kept hbb hV | have hV := bk_kept hbb (Bk.new _ #[.slice none 0 0] 41 _ rfl) | have hV := bk_kept hbb (bk_kept (Below.refl _ _).drew (Bk.new _ #[.slice none 0 0] 41 _ rfl)) | skip); have hz90 := hb.size; clear hbb) | (go_at_call 36; refine Calls.mono (IM.out _ a12 (HXS.out _ (by first | exact hb | exact hb.drew | exact hb.alloc hb.size _ | exact (hb.alloc hb.size _).drew))) ?_; rintro u w97 ⟨b7, e7, rfl, hbb, ho7⟩; (first | have hvz := hV.lt | skip); have hbn := (by first | exact hb.trans (hbb.mono hb.size) | exact hb.drew.trans (hbb.mono hb.drew.size) | exact (hb.alloc hb.size _).trans (hbb.mono (hb.alloc hb.size _).size) | exact ((hb.alloc hb.size _).drew).trans (hbb.mono ((hb.alloc hb.size _).drew).size)); replace hb := hbn; clear hbn; replace ac0 := kept_c hb AC0.out; replace ac1 := kept_c hb AC1.out; replace ac2 := kept_c hb AC2.out; replace ac3 := kept_c hb AC3.out; replace bc0 := kept_c hb BC0.out; (first | replace hV := bk_kept hbb hV | have hV := bk_kept hbb (Bk.new _ #[.slice none 0 0] 41 _ rfl) | have hV := bk_kept hbb (bk_kept (Below.refl _ _).drew (Bk.new _ #[.slice none 0 0] 41 _ rfl)) | skip); have HO7 : Hid (OE _ _ _ _ _) := ho7; have hz7 := hbb.size; clear ho7; have hz91 := hb.size; (first | (have v0 := hV.cell 0 _ rfl; have vf := hV.free) | skip); clear hbb))
  all_goals
    first
    | (have hf := ef_set1 (v0 := (.slice b7 y e7)) (k := w99.heap.size) hb hV (by omega) HO7.out (by first | exact hvz | simp | omega) hz7
       generalize (w97.setCell ⟨w99.heap.size, 0, none⟩ (.slice b7 y e7)) = V2 at hf ⊢
       generalize w99.heap.size = kg at hf ⊢)
    | (have hf := ef_set1 (v0 := (.slice b7 y e7)) (k := V1.heap.size) hb hV (by omega) HO7.out (by first | exact hvz | simp | omega) hz7
       generalize (w97.setCell ⟨V1.heap.size, 0, none⟩ (.slice b7 y e7)) = V2 at hf ⊢
       generalize V1.heap.size = kg at hf ⊢)
    | (have hf := ef_new #[.slice b7 y e7] 41 hb HO7.out (by first | omega | (simp; omega)) hz7
       generalize w97.alloc (.cells #[.slice b7 y e7] 41) = V2 at hf ⊢
       generalize w97.heap.size = kg at hf ⊢)
  all_goals
    rename_i hhh
    clear hhh
    try clear v0 vf
    try clear hvz
    try clear hV
    clear HO7 hz7 hb ac0 ac1 ac2 ac3 bc0
    clear hz90 hz91
    try clear hsO
    revert hf
    revert V2 kg b7 e7
    try clear w97
    skip
    try clear w98
    try clear w99
    try clear w98
    refine ?wayI
  intro  b7 e7 V2 kg hf
  clear HBX AC0 AC1 AC2 AC3 BC0
  clear HXS
  have hbV := hf.1
  have hkG := hf.2.2.1
  have hlG := hf.2.1.lt
  have hmG := hbV.size
  replace HB : Hid (Below w.heap.size w _) := HB.out.trans (hbV.mono HB.out.size)
  replace HR : Hid (Bk _ _ _) := Bk.below HR.out hbV
  replace HE : Hid (Bk _ _ _) := Bk.below HE.out hbV
  replace SV : Hid (Bk _ _ _) := Bk.below SV.out hbV
  replace SA : Hid (OE _ _ _ _ _) := OE.below SA.out hbV
  replace XA : Hid (OE _ _ _ _ _) := OE.below XA.out hbV
  replace XV : Hid (Bk _ _ _) := Bk.below XV.out hbV
  obtain ⟨loG, hiG, hoG, h1G, h2G, h3G, h4G⟩ := hf.2.2.2
  have GV : Hid (Bk V2 kg #[.slice b7 y e7]) := hf.2.1
  have GA : Hid (OE V2 loG hiG b7 ys) := hoG
  clear hbV hf hoG
  have g0 := GV.out.cell 0 _ rfl
  have s0 := SV.out.cell 0 _ rfl
  go_wp2_with fail
  refine Calls.mono (eq_in b7 a7 e7 c7 y ys _ (OE.seg GA.out) (OE.seg SA.out) HYL.out hy) ?_
  rintro u w13 ⟨rfl, hb13⟩
  clear g0
  clear s0
  replace HB : Hid (Below w.heap.size w _) := HB.out.trans (hb13.mono HB.out.size)
  replace HR : Hid (Bk _ _ _) := Bk.below HR.out hb13
  replace HE : Hid (Bk _ _ _) := Bk.below HE.out hb13
  replace SV : Hid (Bk _ _ _) := Bk.below SV.out hb13
  replace SA : Hid (OE _ _ _ _ _) := OE.below SA.out hb13
  replace XA : Hid (OE _ _ _ _ _) := OE.below XA.out hb13
  replace XV : Hid (Bk _ _ _) := Bk.below XV.out hb13
  replace GV : Hid (Bk _ _ _) := Bk.below GV.out hb13
  replace GA : Hid (OE _ _ _ _ _) := OE.below GA.out hb13
  have hz13 := hb13.size
  clear hb13
  go_wp2
  have HXS : Hid (∀ X, Below w13.heap.size w13 X → Seg .u32 X a12 zs) := fun X hX => OE.seg (OE.below XA.out hX)
  have hb : Below w13.heap.size w13 w13 := Below.refl _ _
  have HBX : Hid (∀ X, Below w13.heap.size w13 X → Below w.heap.size w X) := fun X hX => HB.out.trans (hX.mono HB.out.size)
  have AC0 : Hid (w13.cell? ⟨kx, 0, none⟩ = some (.slice a12 n n)) := XV.out.cell 0 _ rfl
  have ac0 := AC0.out
  have BC0 : Hid (w13.cell? ⟨w.heap.size + 1, 0, none⟩ = some (.slice a n cap)) := HE.out.cell 0 _ rfl
  have bc0 := BC0.out
  try go_wp2
  go_region_held_law (fun w' => w'.cell? ⟨kx, 0, none⟩ = some (.slice a12 n n) ∧ w'.cell? ⟨w.heap.size + 1, 0, none⟩ = some (.slice a n cap)) (first | with_reducible exact ⟨ac0, bc0⟩ | with_reducible exact ⟨dr_c ac0, dr_c bc0⟩ | with_reducible exact ⟨al_c _ ac0, al_c _ bc0⟩ | with_reducible exact ⟨al_c _ (dr_c ac0), al_c _ (dr_c bc0)⟩ | with_reducible exact ⟨dr_c (al_c _ ac0), dr_c (al_c _ bc0)⟩)
    (first | (go_at_call 24; refine Calls.mono (TO.out _ (HBX.out _ (by first | exact hb | exact hb.drew | exact hb.alloc hb.size _ | exact (hb.alloc hb.size _).drew))) ?_; rintro u w78 ⟨a8, rfl, hbb, hsO⟩; have hbn := (by first | exact hb.trans (hbb.mono hb.size) | exact hb.drew.trans (hbb.mono hb.drew.size) | exact (hb.alloc hb.size _).trans (hbb.mono (hb.alloc hb.size _).size) | exact ((hb.alloc hb.size _).drew).trans (hbb.mono ((hb.alloc hb.size _).drew).size)); replace hb := hbn; clear hbn; replace ac0 := kept_c hb AC0.out; replace bc0 := kept_c hb BC0.out; have hz90 := hb.size; clear hbb) | (go_at_call 26; refine Calls.mono (EQ.out _ a12 a8 (HXS.out _ (by first | exact hb | exact hb.drew)) (by first | exact OE.seg hsO | exact OE.seg (oe_kept ((Below.refl _ _).alloc (Nat.le_refl _) _) hsO))) ?_; rintro u w77 ⟨rfl, hbb⟩; have hbn := (by first | exact hb.trans (hbb.mono hb.size) | exact hb.drew.trans (hbb.mono hb.drew.size) | exact (hb.alloc hb.size _).trans (hbb.mono (hb.alloc hb.size _).size) | exact ((hb.alloc hb.size _).drew).trans (hbb.mono ((hb.alloc hb.size _).drew).size)); replace hb := hbn; clear hbn; replace ac0 := kept_c hb AC0.out; replace bc0 := kept_c hb BC0.out; have hz91 := hb.size; clear hbb))
  all_goals
    rename_i hhh
    clear hhh
    have hbR := hb
    clear hb ac0 bc0
    try clear hsO
    clear hz90 hz91
    revert hbR
    revert w77
    revert a8
    try clear w78
    refine ?wayE
  intro a8 w77 hbR
  have hzE := hbR.size
  clear HBX HXS AC0 BC0
  replace HB : Hid (Below w.heap.size w _) := HB.out.trans (hbR.mono HB.out.size)
  replace HR : Hid (Bk _ _ _) := Bk.below HR.out hbR
  replace HE : Hid (Bk _ _ _) := Bk.below HE.out hbR
  replace SV : Hid (Bk _ _ _) := Bk.below SV.out hbR
  replace SA : Hid (OE _ _ _ _ _) := OE.below SA.out hbR
  replace XA : Hid (OE _ _ _ _ _) := OE.below XA.out hbR
  replace XV : Hid (Bk _ _ _) := Bk.below XV.out hbR
  replace GV : Hid (Bk _ _ _) := Bk.below GV.out hbR
  replace GA : Hid (OE _ _ _ _ _) := OE.below GA.out hbR
  clear hbR
  have g0 := XV.out.cell 0 _ rfl
  go_wp2_with fail
  refine Calls.mono (mark_in V.heap.size kx n n 1 a12 zs _ XA.out HL0.out hbig (by omega) (by omega)) ?_
  rintro u w14 ⟨rfl, hb14, ho14⟩
  clear g0
  clear XA
  replace HB : Hid (Below w.heap.size w _) := HB.out.trans (hb14.below (by omega) HB.out.size)
  replace HR : Hid (Bk _ _ _) := Bk.betw HR.out hb14 (.inl (by omega))
  replace HE : Hid (Bk _ _ _) := Bk.betw HE.out hb14 (.inl (by omega))
  replace SV : Hid (Bk _ _ _) := Bk.betw SV.out hb14 (.inl (by omega))
  replace SA : Hid (OE _ _ _ _ _) := OE.betw SA.out hb14 (.inl (by omega))
  replace XV : Hid (Bk _ _ _) := Bk.betw XV.out hb14 (.inr (by omega))
  replace GV : Hid (Bk _ _ _) := Bk.betw GV.out hb14 (.inr (by omega))
  replace GA : Hid (OE _ _ _ _ _) := OE.betw GA.out hb14 (.inr (by omega))
  have hz14 := hb14.size
  clear hb14 ho14
  obtain ⟨K1, HK1⟩ : ∃ K, Hid (1 + n = K) := ⟨_, rfl⟩
  have hK1 : ¬ ((K1 : Int) < 0) := by omega
  rw [HK1.out]
  have g0 := GV.out.cell 0 _ rfl
  have s0 := SV.out.cell 0 _ rfl
  go_wp2_with fail
  refine Calls.mono (eq_in b7 a7 e7 c7 y ys _ (OE.seg GA.out) (OE.seg SA.out) HYL.out hy) ?_
  rintro u w15 ⟨rfl, hb15⟩
  clear g0
  clear s0
  replace HB : Hid (Below w.heap.size w _) := HB.out.trans (hb15.mono HB.out.size)
  replace HR : Hid (Bk _ _ _) := Bk.below HR.out hb15
  replace HE : Hid (Bk _ _ _) := Bk.below HE.out hb15
  replace SV : Hid (Bk _ _ _) := Bk.below SV.out hb15
  replace SA : Hid (OE _ _ _ _ _) := OE.below SA.out hb15
  replace XV : Hid (Bk _ _ _) := Bk.below XV.out hb15
  replace GV : Hid (Bk _ _ _) := Bk.below GV.out hb15
  replace GA : Hid (OE _ _ _ _ _) := OE.below GA.out hb15
  have hz15 := hb15.size
  clear hb15
  have g0 := GV.out.cell 0 _ rfl
  go_wp2_with fail
  refine Calls.mono (mark_in loG hiG e7 y 1 b7 ys _ GA.out HYL.out hy (by omega) (by omega)) ?_
  rintro u w16 ⟨rfl, hb16, ho16⟩
  clear g0
  clear GA
  replace HB : Hid (Below w.heap.size w _) := HB.out.trans (hb16.below (by omega) HB.out.size)
  replace HR : Hid (Bk _ _ _) := Bk.betw HR.out hb16 (.inl (by omega))
  replace HE : Hid (Bk _ _ _) := Bk.betw HE.out hb16 (.inl (by omega))
  replace SV : Hid (Bk _ _ _) := Bk.betw SV.out hb16 (.inl (by omega))
  replace SA : Hid (OE _ _ _ _ _) := OE.betw SA.out hb16 (.inl (by omega))
  replace XV : Hid (Bk _ _ _) := Bk.betw XV.out hb16 (.inl (by omega))
  replace GV : Hid (Bk _ _ _) := Bk.betw GV.out hb16 (h4G)
  have GM : Hid (OE w16 loG hiG b7 (marksM 4294967296 1 y)) := ho16
  have hz16 := hb16.size
  clear hb16 ho16
  obtain ⟨K2, HK2⟩ : ∃ K, Hid (1 + y = K) := ⟨_, rfl⟩
  have hK2 : ¬ ((K2 : Int) < 0) := by omega
  rw [HK2.out]
  have g0 := GV.out.cell 0 _ rfl
  go_wp2_with fail
  refine Calls.mono (held_in e7 y 1 b7 _ (OE.seg GM.out) hy (by omega)) ?_
  rintro u w17 ⟨rfl, hb17⟩
  clear g0
  replace HB : Hid (Below w.heap.size w _) := HB.out.trans (hb17.mono HB.out.size)
  replace HR : Hid (Bk _ _ _) := Bk.below HR.out hb17
  replace HE : Hid (Bk _ _ _) := Bk.below HE.out hb17
  replace SV : Hid (Bk _ _ _) := Bk.below SV.out hb17
  replace SA : Hid (OE _ _ _ _ _) := OE.below SA.out hb17
  replace XV : Hid (Bk _ _ _) := Bk.below XV.out hb17
  replace GV : Hid (Bk _ _ _) := Bk.below GV.out hb17
  replace GM : Hid (OE _ _ _ _ _) := OE.below GM.out hb17
  have hz17 := hb17.size
  clear hb17
  rw [HK2.out]
  have hrow2 : w.heap.size + 1 < w17.heap.size := HE.out.lt
  go_wp2
  have hb : Below w17.heap.size w17 w17 := Below.refl _ _
  have HBX : Hid (∀ X, Below w17.heap.size w17 X → Below w.heap.size w X) := fun X hX => HB.out.trans (hX.mono HB.out.size)
  have AC0 : Hid (w17.cell? ⟨w.heap.size, 0, none⟩ = some (.int .i64 rk)) := HR.out.cell 0 _ rfl
  have ac0 := AC0.out
  have AC1 : Hid (w17.cell? ⟨w.heap.size, 1, none⟩ = some (.int .i64 rf)) := HR.out.cell 1 _ rfl
  have ac1 := AC1.out
  have AC2 : Hid (w17.cell? ⟨w.heap.size, 2, none⟩ = some (.int .i64 rt)) := HR.out.cell 2 _ rfl
  have ac2 := AC2.out
  have AC3 : Hid (w17.cell? ⟨w.heap.size, 3, none⟩ = some (.int .i64 rd)) := HR.out.cell 3 _ rfl
  have ac3 := AC3.out
  have BC0 : Hid (w17.cell? ⟨w.heap.size + 1, 0, none⟩ = some (.slice a n cap)) := HE.out.cell 0 _ rfl
  have bc0 := BC0.out
  try go_wp2
  go_region_held_law (fun w' => w'.cell? ⟨w.heap.size, 0, none⟩ = some (.int .i64 rk) ∧ w'.cell? ⟨w.heap.size, 1, none⟩ = some (.int .i64 rf) ∧ w'.cell? ⟨w.heap.size, 2, none⟩ = some (.int .i64 rt) ∧ w'.cell? ⟨w.heap.size, 3, none⟩ = some (.int .i64 rd) ∧ w'.cell? ⟨w.heap.size + 1, 0, none⟩ = some (.slice a n cap)) (first | with_reducible exact ⟨ac0, ac1, ac2, ac3, bc0⟩ | with_reducible exact ⟨dr_c ac0, dr_c ac1, dr_c ac2, dr_c ac3, dr_c bc0⟩ | with_reducible exact ⟨al_c _ ac0, al_c _ ac1, al_c _ ac2, al_c _ ac3, al_c _ bc0⟩ | with_reducible exact ⟨al_c _ (dr_c ac0), al_c _ (dr_c ac1), al_c _ (dr_c ac2), al_c _ (dr_c ac3), al_c _ (dr_c bc0)⟩ | with_reducible exact ⟨dr_c (al_c _ ac0), dr_c (al_c _ ac1), dr_c (al_c _ ac2), dr_c (al_c _ ac3), dr_c (al_c _ bc0)⟩ | with_reducible exact ⟨st1 (by omega) ac0, st1 (by omega) ac1, st1 (by omega) ac2, st1 (by omega) ac3, st1 (by omega) bc0⟩ | with_reducible exact ⟨st1 (by omega) (al_c _ ac0), st1 (by omega) (al_c _ ac1), st1 (by omega) (al_c _ ac2), st1 (by omega) (al_c _ ac3), st1 (by omega) (al_c _ bc0)⟩)
    (first | (go_at_call 15; refine Calls.mono (to_row rk rf rt rd _) ?_; rintro u w99 ⟨rfl, hbb⟩; have hbn := (by first | exact hb.trans (hbb.mono hb.size) | exact hb.drew.trans (hbb.mono hb.drew.size) | exact (hb.alloc hb.size _).trans (hbb.mono (hb.alloc hb.size _).size) | exact ((hb.alloc hb.size _).drew).trans (hbb.mono ((hb.alloc hb.size _).drew).size)); replace hb := hbn; clear hbn; replace ac0 := kept_c hb AC0.out; replace ac1 := kept_c hb AC1.out; replace ac2 := kept_c hb AC2.out; replace ac3 := kept_c hb AC3.out; replace bc0 := kept_c hb BC0.out; (first | replace hV := bk_kept hbb hV | have hV := bk_kept hbb (Bk.new _ #[.slice none 0 0] 41 _ rfl) | have hV := bk_kept hbb (bk_kept (Below.refl _ _).drew (Bk.new _ #[.slice none 0 0] 41 _ rfl)) | skip); (first | replace hsO := oe_kept hbb hsO | replace hsO := oe_kept hbb (oe_kept ((Below.refl _ _).alloc (Nat.le_refl _) _) hsO) | skip); have hz90 := hb.size; clear hbb) | (go_at_call 24; refine Calls.mono (TO.out _ (HBX.out _ (by first | exact hb | exact hb.drew | exact hb.alloc hb.size _ | exact (hb.alloc hb.size _).drew))) ?_; rintro u w98 ⟨a9, rfl, hbb, hsO⟩; have hbn := (by first | exact hb.trans (hbb.mono hb.size) | exact hb.drew.trans (hbb.mono hb.drew.size) | exact (hb.alloc hb.size _).trans (hbb.mono (hb.alloc hb.size _).size) | exact ((hb.alloc hb.size _).drew).trans (hbb.mono ((hb.alloc hb.size _).drew).size)); replace hb := hbn; clear hbn; replace ac0 := kept_c hb AC0.out; replace ac1 := kept_c hb AC1.out; replace ac2 := kept_c hb AC2.out; replace ac3 := kept_c hb AC3.out; replace bc0 := kept_c hb BC0.out; (first | replace hV := bk_kept hbb hV | have hV := bk_kept hbb (Bk.new _ #[.slice none 0 0] 41 _ rfl) | have hV := bk_kept hbb (bk_kept (Below.refl _ _).drew (Bk.new _ #[.slice none 0 0] 41 _ rfl)) | skip); have hz91 := hb.size; clear hbb) | (go_at_call 36; refine Calls.mono (IM.out _ a9 (by first | exact OE.seg hsO | exact OE.seg (oe_kept ((Below.refl _ _).alloc (Nat.le_refl _) _) hsO))) ?_; rintro u w97 ⟨d7, f7, rfl, hbb, ho7⟩; (first | have hvz := hV.lt | skip); have hbn := (by first | exact hb.trans (hbb.mono hb.size) | exact hb.drew.trans (hbb.mono hb.drew.size) | exact (hb.alloc hb.size _).trans (hbb.mono (hb.alloc hb.size _).size) | exact ((hb.alloc hb.size _).drew).trans (hbb.mono ((hb.alloc hb.size _).drew).size)); replace hb := hbn; clear hbn; replace ac0 := kept_c hb AC0.out; replace ac1 := kept_c hb AC1.out; replace ac2 := kept_c hb AC2.out; replace ac3 := kept_c hb AC3.out; replace bc0 := kept_c hb BC0.out; (first | replace hV := bk_kept hbb hV | have hV := bk_kept hbb (Bk.new _ #[.slice none 0 0] 41 _ rfl) | have hV := bk_kept hbb (bk_kept (Below.refl _ _).drew (Bk.new _ #[.slice none 0 0] 41 _ rfl)) | skip); have HO7 : Hid (OE _ _ _ _ _) := ho7; have hz7 := hbb.size; clear ho7; have hz92 := hb.size; (first | (have v0 := hV.cell 0 _ rfl; have vf := hV.free) | skip); clear hbb))
  all_goals
    first
    | (have hf := ef_set1 (v0 := (.slice d7 y f7)) (k := w98.heap.size) hb hV (by omega) HO7.out (by first | exact hvz | simp | omega) hz7
       generalize (w97.setCell ⟨w98.heap.size, 0, none⟩ (.slice d7 y f7)) = V3 at hf ⊢
       generalize w98.heap.size = kh at hf ⊢)
    | (have hf := ef_set1 (v0 := (.slice d7 y f7)) (k := w99.heap.size) hb hV (by omega) HO7.out (by first | exact hvz | simp | omega) hz7
       generalize (w97.setCell ⟨w99.heap.size, 0, none⟩ (.slice d7 y f7)) = V3 at hf ⊢
       generalize w99.heap.size = kh at hf ⊢)
    | (have hf := ef_set1 (v0 := (.slice d7 y f7)) (k := w17.heap.size) hb hV (by omega) HO7.out (by first | exact hvz | simp | omega) hz7
       generalize (w97.setCell ⟨w17.heap.size, 0, none⟩ (.slice d7 y f7)) = V3 at hf ⊢
       generalize w17.heap.size = kh at hf ⊢)
    | (have hf := ef_new #[.slice d7 y f7] 41 hb HO7.out (by first | omega | (simp; omega)) hz7
       generalize w97.alloc (.cells #[.slice d7 y f7] 41) = V3 at hf ⊢
       generalize w97.heap.size = kh at hf ⊢)
  all_goals
    rename_i hhh
    clear hhh
    try clear v0 vf
    try clear hvz
    try clear hV
    clear HO7 hz7 hb ac0 ac1 ac2 ac3 bc0
    clear hz90 hz91 hz92
    try clear hsO
    revert hf
    revert V3 kh d7 f7
    try clear w97
    revert a9
    try clear w98
    try clear w99
    try clear w98
    refine ?wayH
  intro a9 d7 f7 V3 kh hf
  clear HBX AC0 AC1 AC2 AC3 BC0
  have hbV := hf.1
  have hkH := hf.2.2.1
  have hlH := hf.2.1.lt
  have hmH := hbV.size
  replace HB : Hid (Below w.heap.size w _) := HB.out.trans (hbV.mono HB.out.size)
  replace HR : Hid (Bk _ _ _) := Bk.below HR.out hbV
  replace HE : Hid (Bk _ _ _) := Bk.below HE.out hbV
  replace SV : Hid (Bk _ _ _) := Bk.below SV.out hbV
  replace SA : Hid (OE _ _ _ _ _) := OE.below SA.out hbV
  replace XV : Hid (Bk _ _ _) := Bk.below XV.out hbV
  replace GV : Hid (Bk _ _ _) := Bk.below GV.out hbV
  replace GM : Hid (OE _ _ _ _ _) := OE.below GM.out hbV
  obtain ⟨loH, hiH, hoH, h1H, h2H, h3H, h4H⟩ := hf.2.2.2
  have YV : Hid (Bk V3 kh #[.slice d7 y f7]) := hf.2.1
  have YA : Hid (OE V3 loH hiH d7 ys) := hoH
  clear hbV hf hoH
  have g0 := YV.out.cell 0 _ rfl
  have s0 := SV.out.cell 0 _ rfl
  go_wp2_with fail
  refine Calls.mono (eq_in d7 a7 f7 c7 y ys _ (OE.seg YA.out) (OE.seg SA.out) HYL.out hy) ?_
  rintro u w18 ⟨rfl, hb18⟩
  clear g0
  clear s0
  replace HB : Hid (Below w.heap.size w _) := HB.out.trans (hb18.mono HB.out.size)
  replace HR : Hid (Bk _ _ _) := Bk.below HR.out hb18
  replace HE : Hid (Bk _ _ _) := Bk.below HE.out hb18
  replace SV : Hid (Bk _ _ _) := Bk.below SV.out hb18
  replace SA : Hid (OE _ _ _ _ _) := OE.below SA.out hb18
  replace XV : Hid (Bk _ _ _) := Bk.below XV.out hb18
  replace GV : Hid (Bk _ _ _) := Bk.below GV.out hb18
  replace GM : Hid (OE _ _ _ _ _) := OE.below GM.out hb18
  replace YV : Hid (Bk _ _ _) := Bk.below YV.out hb18
  replace YA : Hid (OE _ _ _ _ _) := OE.below YA.out hb18
  have hz18 := hb18.size
  clear hb18
  have g0 := GV.out.cell 0 _ rfl
  go_wp2_with fail
  refine Calls.mono (held_in e7 y 1 b7 _ (OE.seg GM.out) hy (by omega)) ?_
  rintro u w19 ⟨rfl, hb19⟩
  clear g0
  replace HB : Hid (Below w.heap.size w _) := HB.out.trans (hb19.mono HB.out.size)
  replace HR : Hid (Bk _ _ _) := Bk.below HR.out hb19
  replace HE : Hid (Bk _ _ _) := Bk.below HE.out hb19
  replace SV : Hid (Bk _ _ _) := Bk.below SV.out hb19
  replace SA : Hid (OE _ _ _ _ _) := OE.below SA.out hb19
  replace XV : Hid (Bk _ _ _) := Bk.below XV.out hb19
  replace GV : Hid (Bk _ _ _) := Bk.below GV.out hb19
  replace GM : Hid (OE _ _ _ _ _) := OE.below GM.out hb19
  replace YV : Hid (Bk _ _ _) := Bk.below YV.out hb19
  replace YA : Hid (OE _ _ _ _ _) := OE.below YA.out hb19
  have hz19 := hb19.size
  clear hb19
  rw [HK2.out]
  go_wp2
  go_ret
  exact ⟨rfl, HB.out⟩


/-! ### The row -/
set_option maxRecDepth 100000 in
theorem lifted (os : Os) (started : os.Started) (H : Type) (enc : TypeId × Value → H) :
    ReturnsInHanded {} Try.checked os 9 .any (Rows.fnExactRecvOnSpec.pre6 enc Try.prog Try.f9 Rows.fnExactRecvOnRow.domain false) (Rows.fnExactRecvOnSpec.post enc Try.prog Try.f9 false true false false) := by
  refine returnsInHanded_of_change (C := Try.checked) own started (by kernel_rfl) Try.func9
    (ChangeSpec.witness6 (enc := enc) (C := Try.checked) false ⟨#[], #[crw 0 0 0 0, ien none 0 0], []⟩ 8 (by kernel_rfl) (by kernel_rfl) (by kernel_rfl) (by kernel_rfl)) ?_
  intro W base args ds gs before hval0 hW hcnd _
  have hval : ∀ (j : Nat) t v, Try.f9.params[j]? = some t → args[j]? = some v → Value.okWide Try.prog W .any base t v := hval0
  have hW' := hW
  obtain ⟨p, q, hA0, hV, rfl, hfz, hnd⟩ := hW
  have hA : DataW.TrodAll enc Try.prog W 0 (fun _ => true) true Try.f9.params.toList args.toList ds p := hA0
  rw [Try.params9] at hA hval
  obtain ⟨v0, vs0, d0, ds0, p0, q0, hargs, rfl, rfl, h0, r0⟩ := trodAll_cons hA
  obtain ⟨v1, vs1, d1, ds1, p1, q1, rfl, rfl, rfl, h1, r1⟩ := trodAll_cons r0
  obtain ⟨rfl, rfl, rfl⟩ := trodAll_nil r1
  obtain rfl : args = #[v0, v1] := by cases args; simp_all
  obtain ⟨rfl, rfl⟩ := trodVars_none hV
  have k1 := h1
  have lt1 : ∀ x ∈ p1, x.block < W.heap.size := by obtain ⟨m, hm⟩ := k1; exact DataW.trod_lt m _ _ _ hm
  obtain ⟨rk, rf, rt, rd, rfl, rfl, rfl, w0⟩ := crw_open (hval 0 23 v0 rfl rfl) h0
  obtain ⟨a, zs, c, rfl, hw1⟩ := in_arg (hval 1 38 v1 rfl rfl) h1
  clear hA0 hval0
  refine (walk rk rf rt rd a c zs.length zs W hw1.seg rfl hw1.len).mono fun e W' ⟨he, bel⟩ => ?_
  subst he
  exact ⟨_, rfl, _, _, _, [], _, [], hW', (trodAll_cons_mk (shut_bool Try.underlying4 _) trodAll_mk0), (trodAll_cons_mk (crw_reads w0) (trodAll_cons_mk (Below.trod laidOut (by kernel_rfl) (of_decide_eq_true (by kernel_rfl)) k1 bel lt1) trodAll_mk0)), rfl, bel.frame _, fun h => by cases h⟩

theorem over : Rows.fnExactRecvOnRow.holds Try.pinned (OpenSpec.ofChange Rows.fnExactRecvOnSpec) :=
  OpenClaim.holds_of_wide 9 Try.f9 rfl rfl rfl rfl rfl rfl rfl ⟨rfl, rfl, rfl, rfl, rfl⟩ rfl rfl rfl rfl rfl (by kernel_rfl) Try.func9 (by kernel_rfl)
    (of_decide_eq_true (by kernel_rfl)) (by unfold Func.isWrapper; first | (rw [if_pos (by decide +kernel)]; kernel_rfl) | (rw [if_neg (by decide +kernel)]; exact ⟨rfl, rfl⟩))
    (fun os started H enc _ => lifted os started H enc)

end Go.Proofs.Ytoofjlfbedjbnaa.fnExactRecvOn
namespace Go.Proofs.Ytoofjlfbedjbnaa
theorem FnExactRecvOn_holds : Rows.FnExactRecvOnSaid := fnExactRecvOn.over
end Go.Proofs.Ytoofjlfbedjbnaa
