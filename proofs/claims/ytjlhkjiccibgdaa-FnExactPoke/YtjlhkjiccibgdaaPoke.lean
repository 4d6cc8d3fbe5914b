
/-
  At every list of windows, every guest, address, size and word Poke answers as its model, in memory of its own, and leaves its arguments as they were: the law FnExactPoke returns true and its arguments read as before. No conditions.
  Built over the program of the commit that COMMIT names.
-/
import Derived.Test.YtjlhkjiccibgdaaBas
import Derived.Test.YtjlhkjiccibgdaaRows
import Derived.WalkKit
import Derived.ProofKit
import Derived.OpenShut
import Derived.Below
import Derived.Carry
import Derived.Test.YtjlhkjiccibgdaaGop
import Derived.Test.YtjlhkjiccibgdaaPoi
import Derived.Test.YtjlhkjiccibgdaaPsf
import Derived.ShutString
namespace Go.Proofs.Ytjlhkjiccibgdaa.fnExactPoke
open Go.ChangeShapes Go.WideShapes Go.ChangeAt Go.RowKit
set_option linter.unusedVariables false

theorem own : ownKnob Try.prog.godebug = none := by kernel_rfl

/-! ### The walk -/
set_option maxHeartbeats 32000000 in
theorem walk (a ra ma : Option Addr) (cap wn rl rc n mc : Nat) (pc aAddr aSize aX : Int) (xs : List Wn) (rs : List Int) (D : Nat → List Int) (w : World) (hs : ASeg w a xs) (hf : Fit xs) (hl : xs.length = wn) (hn : wn ≤ 9223372036854775807) (hg : GIn w ra ma rs pc n D) (hrl : rs.length = rl) (had : (0 ≤ aAddr ∧ aAddr < 4294967296) ∧ 0 ≤ aX ∧ aX ≤ 4294967295) :
    Calls Try.prog 4 #[.slice a wn cap, gst ra rl rc pc ma n mc, .int .u32 aAddr, .int .i64 aSize, .int .u32 aX] w fun e w' => e = .returned (.bool true) ∧ Below w.heap.size w w' := by
  have HAD0 : Hid ((0 ≤ aAddr ∧ aAddr < 4294967296) ∧ 0 ≤ aX ∧ aX ≤ 4294967295) := had
  clear had
  have HG0 : Hid (GIn w ra ma rs pc n D ∧ rs.length = rl) := ⟨hg, hrl⟩
  have hrb : rl ≤ 9223372036854775807 := by have := hg.rlen; omega
  have hnb : n ≤ 9223372036854775807 := hg.nlen
  have HS0 : Hid (ASeg w a xs ∧ xs.length = wn) := ⟨hs, hl⟩
  clear hs hl
  clear hg hrl
  have HB : Hid (Below w.heap.size w (w.alloc (.cells #[.slice ra rl rc, .int .u32 pc, .slice ma n mc] 26))) := (Below.refl _ w).alloc (Nat.le_refl _) _
  have HS : Hid (Bk _ _ _) := Bk.new w #[.slice ra rl rc, .int .u32 pc, .slice ma n mc] 26 w.heap.size rfl
  go_enter Try.func4, Try.ntmps4
  go_wp2_with fail
  refine Calls.mono (sz_wins a cap wn 1048576 _ hn (Nat.le_refl _)) ?_
  rintro u w0 ⟨⟨r, rfl, hr⟩, rfl⟩
  rcases hr with hr | ⟨hr, hbig⟩
  · go_wp2
    go_ret
    exact ⟨rfl, HB.out⟩
  have hr0 : ¬ (((1048576 - wn : Nat) : Int) < 0) := by omega
  obtain ⟨M, HM⟩ : ∃ M, Hid (1048576 - wn = M) := ⟨_, rfl⟩
  rw [HM.out] at hr hr0
  subst hr
  have hM : M ≤ 1048576 := by have := HM.out; omega
  have c0 := HS.out.cell 0 _ rfl
  have c1 := HS.out.cell 1 _ rfl
  have c2 := HS.out.cell 2 _ rfl
  go_wp2_with fail
  refine Calls.mono (sz_guest pc ra ma rl rc n mc M D _ (HG0.out.1.seg.2.below HB.out) hrb hnb HG0.out.1.dlen (by omega)) ?_
  rintro u w1 ⟨⟨r, rfl, hr⟩, hb1⟩
  clear c0 c1 c2
  replace HB : Hid (Below w.heap.size w _) := HB.out.trans (hb1.mono HB.out.size)
  replace HS : Hid (Bk _ _ _) := Bk.below HS.out hb1
  clear hb1
  rcases hr with hr | ⟨hr, hr1, hn1, ht⟩
  · go_wp2
    go_ret
    exact ⟨rfl, HB.out⟩
  have hr0 : ¬ (r < 0) := by omega
  clear hrb hnb
  have HEW : Hid (∀ X, Below w.heap.size w X → Calls Try.prog 14 #[.slice a wn cap] X fun e w' => ∃ a', e = .returned (.slice a' wn wn) ∧ Below X.heap.size X w' ∧ AI w' X.heap.size w'.heap.size a' xs) := fun X hX => (to_wins a cap wn xs X (ASeg.below HS0.out.1 hX) HS0.out.2 hbig).mono fun e w' h => ⟨_, h.1, h.2.1, h.2.2.ai HS0.out.2 _ _ (Nat.le_refl _) h.2.2.lt⟩
  have HQW : Hid (∀ (X : World) a1 a2, ASeg X a1 xs → ASeg X a2 xs → Calls Try.prog 16 #[.slice a1 wn wn, .slice a2 wn wn] X fun e w' => e = .returned (.bool true) ∧ Below X.heap.size X w') := fun X a1 a2 h1 h2 => eq_accs a1 a2 wn wn wn xs X h1 h2 HS0.out.2 hbig
  have HEG : Hid (∀ X, Below w.heap.size w X → Calls Try.prog 7 #[gst ra rl rc pc ma n mc] X fun e w' => ∃ ra' ma' m, e = .returned (gst ra' rl rl pc ma' n n) ∧ Below X.heap.size X w' ∧ OGst w' X.heap.size m w'.heap.size ra' ma' rs n D ∧ X.heap.size ≤ m ∧ m ≤ w'.heap.size) := fun X hX => to_guest pc ra ma rl rc n mc rs D X (XGSeg.below HG0.out.1.seg hX) HG0.out.2 hr1 hn1 ht
  have HQG : Hid (∀ (X : World) ra1 ra2 ma1 ma2, XGSeg X ra1 ma1 rs n D → XGSeg X ra2 ma2 rs n D → Calls Try.prog 9 #[gst ra1 rl rl pc ma1 n n, gst ra2 rl rl pc ma2 n n] X fun e w' => e = .returned (.bool true) ∧ Below X.heap.size X w') := fun X ra1 ra2 ma1 ma2 h1 h2 => eq_guest pc ra1 ra2 ma1 ma2 rl rl rl n n n rs D X h1 h2 HG0.out.2 hr1 hn1 ht
  obtain ⟨rs', rl', pc', n', D', r', hl', hr', hn', ht', hsp, him⟩ := pk_alike pc aAddr aSize aX wn rl n xs rs D hf HS0.out.2 hbig HG0.out.2 hr1 hn1 ht HAD0.out.1 HAD0.out.2.1 HAD0.out.2.2
  have HSP : Hid (∀ (X : World) a1 ra1 ma1, ASeg X a1 xs → XGSeg X ra1 ma1 rs n D → Calls Try.prog 13 #[.slice a1 wn wn, gst ra1 rl rl pc ma1 n n, .int .u32 aAddr, .int .i64 aSize, .int .u32 aX] X (PAns X rs' rl' pc' n' D' r')) := hsp
  have HIM : Hid (∀ (X : World) a1 ra1 ma1, ASeg X a1 xs → XGSeg X ra1 ma1 rs n D → Calls Try.prog 15 #[.slice a1 wn wn, gst ra1 rl rl pc ma1 n n, .int .u32 aAddr, .int .i64 aSize, .int .u32 aX] X (QAns X rs' rl' pc' n' D' r')) := him
  have HL' : Hid (rs'.length = rl') := hl'
  clear hsp him hl' hf
  have hzw : w.heap.size < w1.heap.size := HS.out.lt
  have hb : Below w1.heap.size w1 w1 := Below.refl _ _
  have HBX : Hid (∀ X, Below w1.heap.size w1 X → Below w.heap.size w X) := fun X hX => HB.out.trans (hX.mono HB.out.size)
  have C0 : Hid _ := HS.out.cell 0 _ rfl
  have C1 : Hid _ := HS.out.cell 1 _ rfl
  have C2 : Hid _ := HS.out.cell 2 _ rfl
  have c0 := C0.out
  have c1 := C1.out
  have c2 := C2.out
  go_wp2
  go_region_held_law (fun w' => w'.cell? ⟨w.heap.size, 0, none⟩ = some (.slice ra rl rc) ∧ w'.cell? ⟨w.heap.size, 1, none⟩ = some (.int .u32 pc) ∧ w'.cell? ⟨w.heap.size, 2, none⟩ = some (.slice ma n mc)) (first | exact ⟨c0, c1, c2⟩ | exact ⟨cell_alloc_l _ c0, cell_alloc_l _ c1, cell_alloc_l _ c2⟩ | exact ⟨st1 (by omega) (st1 (by omega) (st1 (by omega) c0)), st1 (by omega) (st1 (by omega) (st1 (by omega) c1)), st1 (by omega) (st1 (by omega) (st1 (by omega) c2))⟩ | exact ⟨st1 (by omega) (st1 (by omega) (st1 (by omega) (cell_alloc_l _ c0))), st1 (by omega) (st1 (by omega) (st1 (by omega) (cell_alloc_l _ c1))), st1 (by omega) (st1 (by omega) (st1 (by omega) (cell_alloc_l _ c2)))⟩)
    (first | (go_at_call 14; refine Calls.mono (HEW.out _ (HBX.out _ (by first | exact hb | exact hb.drew | exact hb.alloc hb.size _ | exact (hb.alloc hb.size _).drew))) ?_; rintro u w99 ⟨a9, rfl, hbb, hsW⟩; have hbn := (by first | exact hb.trans (hbb.mono hb.size) | exact hb.drew.trans (hbb.mono hb.drew.size) | exact (hb.alloc hb.size _).trans (hbb.mono (hb.alloc hb.size _).size) | exact ((hb.alloc hb.size _).drew).trans (hbb.mono ((hb.alloc hb.size _).drew).size)); replace hb := hbn; clear hbn; replace c0 := kept_cell hb C0.out; replace c1 := kept_cell hb C1.out; replace c2 := kept_cell hb C2.out; (first | replace hV := bk_kept hbb hV | have hV := bk_kept hbb (Bk.new _ #[.slice none 0 0, .int .u32 0, .slice none 0 0] 28 _ rfl) | have hV := bk_kept hbb (bk_kept (Below.refl _ _).drew (Bk.new _ #[.slice none 0 0, .int .u32 0, .slice none 0 0] 28 _ rfl)) | skip); have hz99 := hb.size; clear hbb) | (go_at_call 7; refine Calls.mono (HEG.out _ (HBX.out _ (by first | exact hb | exact hb.drew | exact hb.alloc hb.size _ | exact (hb.alloc hb.size _).drew))) ?_; rintro u w98 ⟨ra9, ma9, m9, rfl, hbb, hsG, hm91, hm92⟩; have hbn := (by first | exact hb.trans (hbb.mono hb.size) | exact hb.drew.trans (hbb.mono hb.drew.size) | exact (hb.alloc hb.size _).trans (hbb.mono (hb.alloc hb.size _).size) | exact ((hb.alloc hb.size _).drew).trans (hbb.mono ((hb.alloc hb.size _).drew).size)); replace hb := hbn; clear hbn; replace c0 := kept_cell hb C0.out; replace c1 := kept_cell hb C1.out; replace c2 := kept_cell hb C2.out; (first | replace hV := bk_kept hbb hV | have hV := bk_kept hbb (Bk.new _ #[.slice none 0 0, .int .u32 0, .slice none 0 0] 28 _ rfl) | have hV := bk_kept hbb (bk_kept (Below.refl _ _).drew (Bk.new _ #[.slice none 0 0, .int .u32 0, .slice none 0 0] 28 _ rfl)) | skip); (first | replace hsW := ai_kept hbb hsW | replace hsW := ai_kept hbb (ai_kept ((Below.refl _ _).alloc (Nat.le_refl _) _) hsW) | skip); have hz98 := hb.size; clear hbb) | (go_at_call 13; refine Calls.mono (HSP.out _ a9 ra9 ma9 (by first | exact AI.seg hsW | exact AI.seg (ai_kept ((Below.refl _ _).alloc (Nat.le_refl _) _) hsW)) (by first | exact OGst.seg hsG | exact OGst.seg (og_kept ((Below.refl _ _).alloc (Nat.le_refl _) _) hsG))) ?_; rintro u w97 ⟨ra7, ma7, rc7, mc7, rfl, hbb, ho7⟩; (first | have hvz := hV.lt | skip); have hbn := (by first | exact hb.trans (hbb.mono hb.size) | exact hb.drew.trans (hbb.mono hb.drew.size) | exact (hb.alloc hb.size _).trans (hbb.mono (hb.alloc hb.size _).size) | exact ((hb.alloc hb.size _).drew).trans (hbb.mono ((hb.alloc hb.size _).drew).size)); replace hb := hbn; clear hbn; replace c0 := kept_cell hb C0.out; replace c1 := kept_cell hb C1.out; replace c2 := kept_cell hb C2.out; (first | replace hV := bk_kept hbb hV | have hV := bk_kept hbb (Bk.new _ #[.slice none 0 0, .int .u32 0, .slice none 0 0] 28 _ rfl) | have hV := bk_kept hbb (bk_kept (Below.refl _ _).drew (Bk.new _ #[.slice none 0 0, .int .u32 0, .slice none 0 0] 28 _ rfl)) | skip); have hz97 := hb.size; (first | (have v0 := hV.cell 0 _ rfl; have vf := hV.free; have v1 := (hV.set 0 (.slice ra7 rl' rc7) (by simp) rfl).cell 1 _ rfl; have v2 := ((hV.set 0 (.slice ra7 rl' rc7) (by simp) rfl).set 1 (.int .u32 pc') (by simp) rfl).cell 2 _ rfl) | skip); have HO7 : Hid (Sep w97 _ _ ra7 ma7 rs' n' D') := ho7; clear ho7 hbb hsW hsG))
  all_goals
    first
    | (have hf := psf_set (rl := rl') (rc := rc7) (pc := pc') (mc := mc7) (k := w98.heap.size) hb hV (by omega) HO7.out (by simp)
       generalize (((w97.setCell ⟨w98.heap.size, 0, none⟩ (.slice ra7 rl' rc7)).setCell ⟨w98.heap.size, 1, none⟩ (.int .u32 pc')).setCell ⟨w98.heap.size, 2, none⟩ (.slice ma7 n' mc7)) = V at hf ⊢
       generalize w98.heap.size = k at hf ⊢)
    | (have hf := psf_set (rl := rl') (rc := rc7) (pc := pc') (mc := mc7) (k := w99.heap.size) hb hV (by omega) HO7.out (by omega)
       generalize (((w97.setCell ⟨w99.heap.size, 0, none⟩ (.slice ra7 rl' rc7)).setCell ⟨w99.heap.size, 1, none⟩ (.int .u32 pc')).setCell ⟨w99.heap.size, 2, none⟩ (.slice ma7 n' mc7)) = V at hf ⊢
       generalize w99.heap.size = k at hf ⊢)
    | (have hf := psf_set (rl := rl') (rc := rc7) (pc := pc') (mc := mc7) (k := w1.heap.size) hb hV (by omega) HO7.out (by omega)
       generalize (((w97.setCell ⟨w1.heap.size, 0, none⟩ (.slice ra7 rl' rc7)).setCell ⟨w1.heap.size, 1, none⟩ (.int .u32 pc')).setCell ⟨w1.heap.size, 2, none⟩ (.slice ma7 n' mc7)) = V at hf ⊢
       generalize w1.heap.size = k at hf ⊢)
    | (have hf := psf_new (rl := rl') (rc := rc7) (pc := pc') (mc := mc7) hb HO7.out 28
       generalize w97.alloc (.cells #[.slice ra7 rl' rc7, .int .u32 pc', .slice ma7 n' mc7] 28) = V at hf ⊢
       generalize w97.heap.size = k at hf ⊢)
  all_goals
    try clear v0 vf v1 v2
    try clear hvz
    try clear hV
    try clear HO7
    try clear m7
    rename_i hh
    clear hh
    clear hz97 hb c0 c1 c2 hz98 hm91 hm92 hz99
    revert hf
    revert V k ra7 ma7 rc7 mc7
    try clear w97
    revert a9 ra9 ma9
    try clear m9
    try clear w98
    try clear w99
    refine ?wayS
  intro a9 ra9 ma9 ra7 ma7 rc7 mc7 V k hf
  clear C0 C1 C2 HBX hzw
  have hbV := hf.1
  have hkV := hf.2.2.2
  have hzw : w.heap.size < w1.heap.size := HS.out.lt
  replace HB : Hid (Below w.heap.size w _) := HB.out.trans (hbV.mono HB.out.size)
  replace HS : Hid (Bk _ _ _) := Bk.below HS.out hbV
  have S0 : Hid (XGSeg V _ _ _ _ _) := hf.2.2.1
  have S : Hid (Below _ _ _) := Below.refl V.heap.size V
  have SV : Hid (Bk _ _ _) := hf.2.1
  have hzV : w1.heap.size ≤ V.heap.size := hbV.size
  have hkl : k < V.heap.size := hf.2.1.lt
  clear hbV hf
  go_wp2_with fail
  refine Calls.mono (HEW.out _ HB.out) ?_
  rintro u w2 ⟨a2, rfl, hb2, ho2⟩
  have hz2 : V.heap.size ≤ w2.heap.size := hb2.size
  replace HB : Hid (Below w.heap.size w _) := HB.out.trans (hb2.mono HB.out.size)
  replace HS : Hid (Bk _ _ _) := Bk.below HS.out hb2
  replace S : Hid (Below V.heap.size V _) := S.out.trans (hb2.mono S.out.size)
  replace SV : Hid (Bk _ _ _) := Bk.below SV.out hb2
  have XW : Hid (AI _ _ _ _ _) := ho2
  clear hb2 ho2
  have c0 := HS.out.cell 0 _ rfl
  have c1 := HS.out.cell 1 _ rfl
  have c2 := HS.out.cell 2 _ rfl
  go_wp2_with fail
  refine Calls.mono (HEG.out _ HB.out) ?_
  rintro u w3 ⟨ra3, ma3, m3, rfl, hb3, ho3, hm3, hn3⟩
  clear c0 c1 c2
  have hal : Below w3.heap.size w3 (w3.alloc (.cells #[.slice ra3 rl rl, .int .u32 pc, .slice ma3 n n] 28)) := (Below.refl _ _).alloc (Nat.le_refl _) _
  have hb3' := hb3.trans (hal.mono hb3.size)
  replace HB : Hid (Below w.heap.size w _) := HB.out.trans (hb3'.mono HB.out.size)
  replace HS : Hid (Bk _ _ _) := Bk.below HS.out hb3'
  replace S : Hid (Below V.heap.size V _) := S.out.trans (hb3'.mono S.out.size)
  replace SV : Hid (Bk _ _ _) := Bk.below SV.out hb3'
  replace XW : Hid (AI _ _ _ _ _) := AI.below XW.out hb3'
  have X0 : Hid (OGst _ _ _ _ _ _ _ _ _) := ho3.below hal
  have V0 : Hid (Bk _ _ _) := Bk.new w3 #[.slice ra3 rl rl, .int .u32 pc, .slice ma3 n n] 28 w3.heap.size rfl
  clear hb3 hb3' hal ho3
  have hz3 : w2.heap.size ≤ w3.heap.size := by omega
  have v0 := V0.out.cell 0 _ rfl
  have v1 := V0.out.cell 1 _ rfl
  have v2 := V0.out.cell 2 _ rfl
  go_wp2_with fail
  refine Calls.mono (HIM.out _ a2 ra3 ma3 (AI.seg XW.out) (OGst.seg X0.out)) ?_
  rintro u w4 ⟨ra4, ma4, rc4, mc4, m4, rfl, hb4, ho4, hm4, hn4⟩
  clear v0 v1 v2
  have hz4 : w3.heap.size + 1 ≤ w4.heap.size := by have := hb4.size; simp at this; omega
  simp only [World.size_alloc] at ho4 hm4
  have hal : Below w4.heap.size w4 (w4.alloc (.cells #[.slice ra4 rl' rc4, .int .u32 pc', .slice ma4 n' mc4] 28)) := (Below.refl _ _).alloc (Nat.le_refl _) _
  have hb4' := hb4.trans (hal.mono hb4.size)
  replace HB : Hid (Below w.heap.size w _) := HB.out.trans (hb4'.mono HB.out.size)
  replace HS : Hid (Bk _ _ _) := Bk.below HS.out hb4'
  replace S : Hid (Below V.heap.size V _) := S.out.trans (hb4'.mono S.out.size)
  replace SV : Hid (Bk _ _ _) := Bk.below SV.out hb4'
  replace XW : Hid (AI _ _ _ _ _) := AI.below XW.out hb4'
  replace X0 : Hid (OGst _ _ _ _ _ _ _ _ _) := OGst.below X0.out hb4'
  replace V0 : Hid (Bk _ _ _) := Bk.below V0.out hb4'
  have G : Hid (OGst _ _ _ _ _ _ _ _ _) := ho4.below hal
  have GV : Hid (Bk _ _ _) := Bk.new w4 #[.slice ra4 rl' rc4, .int .u32 pc', .slice ma4 n' mc4] 28 w4.heap.size rfl
  clear hb4 hb4' hal ho4
  have g0 := GV.out.cell 0 _ rfl
  have g1 := GV.out.cell 1 _ rfl
  have g2 := GV.out.cell 2 _ rfl
  have s0 := SV.out.cell 0 _ rfl
  have s1 := SV.out.cell 1 _ rfl
  have s2 := SV.out.cell 2 _ rfl
  go_wp2_with fail
  refine Calls.mono (eq_guest pc' ra4 ra7 ma4 ma7 rl' rc4 rc7 n' mc4 mc7 rs' D' _ (OGst.seg G.out) (XGSeg.below S0.out S.out) HL'.out hr' hn' ht') ?_
  rintro u w5 ⟨rfl, hb5⟩
  clear g0 g1 g2
  clear s0 s1 s2
  replace HB : Hid (Below w.heap.size w _) := HB.out.trans (hb5.mono HB.out.size)
  replace HS : Hid (Bk _ _ _) := Bk.below HS.out hb5
  replace S : Hid (Below V.heap.size V _) := S.out.trans (hb5.mono S.out.size)
  replace SV : Hid (Bk _ _ _) := Bk.below SV.out hb5
  replace XW : Hid (AI _ _ _ _ _) := AI.below XW.out hb5
  replace X0 : Hid (OGst _ _ _ _ _ _ _ _ _) := OGst.below X0.out hb5
  replace V0 : Hid (Bk _ _ _) := Bk.below V0.out hb5
  replace G : Hid (OGst _ _ _ _ _ _ _ _ _) := OGst.below G.out hb5
  replace GV : Hid (Bk _ _ _) := Bk.below GV.out hb5
  clear hb5
  go_wp2_with fail
  refine Calls.mono (HEW.out _ HB.out) ?_
  rintro u w6 ⟨a6, rfl, hb6, ho6⟩
  replace HB : Hid (Below w.heap.size w _) := HB.out.trans (hb6.mono HB.out.size)
  replace HS : Hid (Bk _ _ _) := Bk.below HS.out hb6
  replace S : Hid (Below V.heap.size V _) := S.out.trans (hb6.mono S.out.size)
  replace SV : Hid (Bk _ _ _) := Bk.below SV.out hb6
  replace XW : Hid (AI _ _ _ _ _) := AI.below XW.out hb6
  replace X0 : Hid (OGst _ _ _ _ _ _ _ _ _) := OGst.below X0.out hb6
  replace V0 : Hid (Bk _ _ _) := Bk.below V0.out hb6
  replace G : Hid (OGst _ _ _ _ _ _ _ _ _) := OGst.below G.out hb6
  replace GV : Hid (Bk _ _ _) := Bk.below GV.out hb6
  have XT : Hid (AI _ _ _ _ _) := ho6
  clear hb6 ho6
  go_wp2_with fail
  refine Calls.mono (HQW.out _ a2 a6 (AI.seg XW.out) (AI.seg XT.out)) ?_
  rintro u w7 ⟨rfl, hb7⟩
  replace HB : Hid (Below w.heap.size w _) := HB.out.trans (hb7.mono HB.out.size)
  replace HS : Hid (Bk _ _ _) := Bk.below HS.out hb7
  replace S : Hid (Below V.heap.size V _) := S.out.trans (hb7.mono S.out.size)
  replace SV : Hid (Bk _ _ _) := Bk.below SV.out hb7
  replace XW : Hid (AI _ _ _ _ _) := AI.below XW.out hb7
  replace X0 : Hid (OGst _ _ _ _ _ _ _ _ _) := OGst.below X0.out hb7
  replace V0 : Hid (Bk _ _ _) := Bk.below V0.out hb7
  replace G : Hid (OGst _ _ _ _ _ _ _ _ _) := OGst.below G.out hb7
  replace GV : Hid (Bk _ _ _) := Bk.below GV.out hb7
  replace XT : Hid (AI _ _ _ _ _) := AI.below XT.out hb7
  clear hb7
  clear XT
  have c0 := HS.out.cell 0 _ rfl
  have c1 := HS.out.cell 1 _ rfl
  have c2 := HS.out.cell 2 _ rfl
  have v0 := V0.out.cell 0 _ rfl
  have v1 := V0.out.cell 1 _ rfl
  have v2 := V0.out.cell 2 _ rfl
  have hb : Below w7.heap.size w7 w7 := Below.refl _ _
  have HBX : Hid (∀ X, Below w7.heap.size w7 X → Below w.heap.size w X) := fun X hX => HB.out.trans (hX.mono HB.out.size)
  have HX1 : Hid (∀ X, Below w7.heap.size w7 X → XGSeg X ra3 ma3 rs n D) := fun X hX => XGSeg.below (OGst.seg X0.out) hX
  go_wp2
  go_region_held3 (fun w' => w'.cell? ⟨w.heap.size, 0, none⟩ = some (.slice ra rl rc) ∧ w'.cell? ⟨w.heap.size, 1, none⟩ = some (.int .u32 pc) ∧ w'.cell? ⟨w.heap.size, 2, none⟩ = some (.slice ma n mc) ∧ w'.cell? ⟨w3.heap.size, 0, none⟩ = some (.slice ra3 rl rl) ∧ w'.cell? ⟨w3.heap.size, 1, none⟩ = some (.int .u32 pc) ∧ w'.cell? ⟨w3.heap.size, 2, none⟩ = some (.slice ma3 n n)) (first | exact ⟨c0, c1, c2, v0, v1, v2⟩)
    (first | (go_at_call 7; refine Calls.mono (HEG.out _ (HBX.out _ (by first | exact hb | exact hb.drew))) ?_; rintro u w58 ⟨ra9, ma9, m9, rfl, hbb, hsG, hm91, hm92⟩; (first | replace hb := hb.trans (hbb.mono hb.size) | replace hb := hb.drew.trans (hbb.mono hb.drew.size)); replace c0 := kept_cell hbb c0; replace v0 := kept_cell hbb v0; replace c1 := kept_cell hbb c1; replace v1 := kept_cell hbb v1; replace c2 := kept_cell hbb c2; replace v2 := kept_cell hbb v2; clear hbb) | (go_at_call 9; refine Calls.mono (HQG.out _ ra3 ra9 ma3 ma9 (HX1.out _ (by first | exact hb | exact hb.drew)) (by first | exact OGst.seg hsG | exact XGSeg.below (OGst.seg hsG) (Below.refl _ _).drew)) ?_; rintro u w59 ⟨rfl, hbb⟩; (first | replace hb := hb.trans (hbb.mono hb.size) | replace hb := hb.drew.trans (hbb.mono hb.drew.size)); replace c0 := kept_cell hbb c0; replace v0 := kept_cell hbb v0; replace c1 := kept_cell hbb c1; replace v1 := kept_cell hbb v1; replace c2 := kept_cell hbb c2; replace v2 := kept_cell hbb v2; clear hbb hsG))
  have hbR := hb
  replace HB : Hid (Below w.heap.size w _) := HB.out.trans (hbR.mono HB.out.size)
  replace HS : Hid (Bk _ _ _) := Bk.below HS.out hbR
  replace S : Hid (Below V.heap.size V _) := S.out.trans (hbR.mono S.out.size)
  replace SV : Hid (Bk _ _ _) := Bk.below SV.out hbR
  replace XW : Hid (AI _ _ _ _ _) := AI.below XW.out hbR
  replace X0 : Hid (OGst _ _ _ _ _ _ _ _ _) := OGst.below X0.out hbR
  replace V0 : Hid (Bk _ _ _) := Bk.below V0.out hbR
  replace G : Hid (OGst _ _ _ _ _ _ _ _ _) := OGst.below G.out hbR
  replace GV : Hid (Bk _ _ _) := Bk.below GV.out hbR
  clear hb hbR HBX HX1 c0 c1 c2 v0 v1 v2
  have hz59 : w4.heap.size < w59.heap.size := GV.out.lt
  go_wp2_with fail
  refine Calls.mono (mark_accs V.heap.size w2.heap.size wn wn 1 a2 xs _ XW.out HS0.out.2 hbig (by omega)) ?_
  rintro u w8 ⟨rfl, hb8, ho8⟩
  clear XW
  replace HB : Hid (Below w.heap.size w _) := HB.out.trans (hb8.below (by omega) HB.out.size)
  replace HS : Hid (Bk _ _ _) := Bk.betw HS.out hb8 (.inl (by omega))
  replace S : Hid (Below V.heap.size V _) := S.out.trans (hb8.below (by omega) S.out.size)
  replace SV : Hid (Bk _ _ _) := Bk.betw SV.out hb8 (.inl (by omega))
  replace X0 : Hid (OGst _ _ _ _ _ _ _ _ _) := OGst.betw X0.out hb8 (.inr (by omega)) (by omega) (by omega)
  replace V0 : Hid (Bk _ _ _) := Bk.betw V0.out hb8 (.inr (by omega))
  replace G : Hid (OGst _ _ _ _ _ _ _ _ _) := OGst.betw G.out hb8 (.inr (by omega)) (by omega) (by omega)
  replace GV : Hid (Bk _ _ _) := Bk.betw GV.out hb8 (.inr (by omega))
  have hz8 : w59.heap.size ≤ w8.heap.size := hb8.size
  clear hb8 ho8
  have hKW : 1 + 3 * wn ≤ 4000000 := by omega
  obtain ⟨KW, HKW⟩ : ∃ K, Hid (1 + 3 * wn = K) := ⟨_, rfl⟩
  rw [HKW.out] at hKW ⊢
  have v0 := V0.out.cell 0 _ rfl
  have v1 := V0.out.cell 1 _ rfl
  have v2 := V0.out.cell 2 _ rfl
  go_wp2_with fail
  refine Calls.mono (mark_guest pc w2.heap.size m3 w3.heap.size rl n n KW rl ra3 ma3 rs D _ X0.out HG0.out.2 hr1 hn1 ht (by omega) (by omega) (by omega) (by omega)) ?_
  rintro u w9 ⟨rfl, hb9, ho9⟩
  clear v0 v1 v2 X0
  replace HB : Hid (Below w.heap.size w _) := HB.out.trans (hb9.below (by omega) HB.out.size)
  replace HS : Hid (Bk _ _ _) := Bk.betw HS.out hb9 (.inl (by omega))
  replace S : Hid (Below V.heap.size V _) := S.out.trans (hb9.below (by omega) S.out.size)
  replace SV : Hid (Bk _ _ _) := Bk.betw SV.out hb9 (.inl (by omega))
  replace V0 : Hid (Bk _ _ _) := Bk.betw V0.out hb9 (.inr (by omega))
  replace G : Hid (OGst _ _ _ _ _ _ _ _ _) := OGst.betw G.out hb9 (.inr (by omega)) (by omega) (by omega)
  replace GV : Hid (Bk _ _ _) := Bk.betw GV.out hb9 (.inr (by omega))
  clear hb9 ho9
  have hK0 : KW + rl + btot D n ≤ 10000000 := by omega
  obtain ⟨K0, HK0⟩ : ∃ K, Hid (KW + rl + btot D n = K) := ⟨_, rfl⟩
  rw [HK0.out] at hK0 ⊢
  have hK0n : ¬ ((K0 : Int) < 0) := by omega
  have g0 := GV.out.cell 0 _ rfl
  have g1 := GV.out.cell 1 _ rfl
  have g2 := GV.out.cell 2 _ rfl
  have s0 := SV.out.cell 0 _ rfl
  have s1 := SV.out.cell 1 _ rfl
  have s2 := SV.out.cell 2 _ rfl
  go_wp2_with fail
  refine Calls.mono (eq_guest pc' ra4 ra7 ma4 ma7 rl' rc4 rc7 n' mc4 mc7 rs' D' _ (OGst.seg G.out) (XGSeg.below S0.out S.out) HL'.out hr' hn' ht') ?_
  rintro u w10 ⟨rfl, hb10⟩
  clear g0 g1 g2
  clear s0 s1 s2
  replace HB : Hid (Below w.heap.size w _) := HB.out.trans (hb10.mono HB.out.size)
  replace HS : Hid (Bk _ _ _) := Bk.below HS.out hb10
  replace S : Hid (Below V.heap.size V _) := S.out.trans (hb10.mono S.out.size)
  replace SV : Hid (Bk _ _ _) := Bk.below SV.out hb10
  replace V0 : Hid (Bk _ _ _) := Bk.below V0.out hb10
  replace G : Hid (OGst _ _ _ _ _ _ _ _ _) := OGst.below G.out hb10
  replace GV : Hid (Bk _ _ _) := Bk.below GV.out hb10
  clear hb10
  have hz10 : w4.heap.size < w10.heap.size := GV.out.lt
  have g0 := GV.out.cell 0 _ rfl
  have g1 := GV.out.cell 1 _ rfl
  have g2 := GV.out.cell 2 _ rfl
  go_wp2_with fail
  refine Calls.mono (mark_guest pc' (w3.heap.size + 1) m4 w4.heap.size rc4 n' mc4 1 rl' ra4 ma4 rs' D' _ G.out HL'.out hr' hn' ht' (by omega) (by omega) hm4 hn4) ?_
  rintro u w11 ⟨rfl, hb11, ho11⟩
  clear g0 g1 g2 G
  replace HB : Hid (Below w.heap.size w _) := HB.out.trans (hb11.below (by omega) HB.out.size)
  replace HS : Hid (Bk _ _ _) := Bk.betw HS.out hb11 (.inl (by omega))
  replace S : Hid (Below V.heap.size V _) := S.out.trans (hb11.below (by omega) S.out.size)
  replace SV : Hid (Bk _ _ _) := Bk.betw SV.out hb11 (.inl (by omega))
  replace V0 : Hid (Bk _ _ _) := Bk.betw V0.out hb11 (.inl (by omega))
  replace GV : Hid (Bk _ _ _) := Bk.betw GV.out hb11 (.inr (by omega))
  have GM : Hid (OGst _ _ _ _ _ _ _ _ _) := ho11
  clear hb11 ho11
  clear V0
  have hK : 1 + rl' + btot D' n' ≤ 10000000 := by omega
  obtain ⟨K, HK⟩ : ∃ K, Hid (1 + rl' + btot D' n' = K) := ⟨_, rfl⟩
  rw [HK.out] at hK ⊢
  have hKn : ¬ ((K : Int) < 0) := by omega
  have g0 := GV.out.cell 0 _ rfl
  have g1 := GV.out.cell 1 _ rfl
  have g2 := GV.out.cell 2 _ rfl
  go_wp2_with fail
  refine Calls.mono (held_guest pc' rc4 n' mc4 1 rl' ra4 ma4 D' _ (OGst.seg GM.out) hr' hn' ht' (by omega)) ?_
  rintro u w12 ⟨rfl, hb12⟩
  rw [HK.out]
  clear g0 g1 g2
  replace HB : Hid (Below w.heap.size w _) := HB.out.trans (hb12.mono HB.out.size)
  replace HS : Hid (Bk _ _ _) := Bk.below HS.out hb12
  replace S : Hid (Below V.heap.size V _) := S.out.trans (hb12.mono S.out.size)
  replace SV : Hid (Bk _ _ _) := Bk.below SV.out hb12
  replace GV : Hid (Bk _ _ _) := Bk.below GV.out hb12
  replace GM : Hid (OGst _ _ _ _ _ _ _ _ _) := OGst.below GM.out hb12
  clear hb12
  have R7 : Hid (True) := trivial
  have hzw : w.heap.size < w12.heap.size := HS.out.lt
  have hb : Below w12.heap.size w12 w12 := Below.refl _ _
  have HBX : Hid (∀ X, Below w12.heap.size w12 X → Below w.heap.size w X) := fun X hX => HB.out.trans (hX.mono HB.out.size)
  have C0 : Hid _ := HS.out.cell 0 _ rfl
  have C1 : Hid _ := HS.out.cell 1 _ rfl
  have C2 : Hid _ := HS.out.cell 2 _ rfl
  have c0 := C0.out
  have c1 := C1.out
  have c2 := C2.out
  go_wp2
  go_region_held_law (fun w' => w'.cell? ⟨w.heap.size, 0, none⟩ = some (.slice ra rl rc) ∧ w'.cell? ⟨w.heap.size, 1, none⟩ = some (.int .u32 pc) ∧ w'.cell? ⟨w.heap.size, 2, none⟩ = some (.slice ma n mc)) (first | exact ⟨c0, c1, c2⟩ | exact ⟨cell_alloc_l _ c0, cell_alloc_l _ c1, cell_alloc_l _ c2⟩ | exact ⟨st1 (by omega) (st1 (by omega) (st1 (by omega) c0)), st1 (by omega) (st1 (by omega) (st1 (by omega) c1)), st1 (by omega) (st1 (by omega) (st1 (by omega) c2))⟩ | exact ⟨st1 (by omega) (st1 (by omega) (st1 (by omega) (cell_alloc_l _ c0))), st1 (by omega) (st1 (by omega) (st1 (by omega) (cell_alloc_l _ c1))), st1 (by omega) (st1 (by omega) (st1 (by omega) (cell_alloc_l _ c2)))⟩)
    (first | (go_at_call 14; refine Calls.mono (HEW.out _ (HBX.out _ (by first | exact hb | exact hb.drew | exact hb.alloc hb.size _ | exact (hb.alloc hb.size _).drew))) ?_; rintro u w99 ⟨a9, rfl, hbb, hsW⟩; have hbn := (by first | exact hb.trans (hbb.mono hb.size) | exact hb.drew.trans (hbb.mono hb.drew.size) | exact (hb.alloc hb.size _).trans (hbb.mono (hb.alloc hb.size _).size) | exact ((hb.alloc hb.size _).drew).trans (hbb.mono ((hb.alloc hb.size _).drew).size)); replace hb := hbn; clear hbn; replace c0 := kept_cell hb C0.out; replace c1 := kept_cell hb C1.out; replace c2 := kept_cell hb C2.out; (first | replace hV := bk_kept hbb hV | have hV := bk_kept hbb (Bk.new _ #[.slice none 0 0, .int .u32 0, .slice none 0 0] 28 _ rfl) | have hV := bk_kept hbb (bk_kept (Below.refl _ _).drew (Bk.new _ #[.slice none 0 0, .int .u32 0, .slice none 0 0] 28 _ rfl)) | skip); have hz99 := hb.size; clear hbb) | (go_at_call 7; refine Calls.mono (HEG.out _ (HBX.out _ (by first | exact hb | exact hb.drew | exact hb.alloc hb.size _ | exact (hb.alloc hb.size _).drew))) ?_; rintro u w98 ⟨ra9, ma9, m9, rfl, hbb, hsG, hm91, hm92⟩; have hbn := (by first | exact hb.trans (hbb.mono hb.size) | exact hb.drew.trans (hbb.mono hb.drew.size) | exact (hb.alloc hb.size _).trans (hbb.mono (hb.alloc hb.size _).size) | exact ((hb.alloc hb.size _).drew).trans (hbb.mono ((hb.alloc hb.size _).drew).size)); replace hb := hbn; clear hbn; replace c0 := kept_cell hb C0.out; replace c1 := kept_cell hb C1.out; replace c2 := kept_cell hb C2.out; (first | replace hV := bk_kept hbb hV | have hV := bk_kept hbb (Bk.new _ #[.slice none 0 0, .int .u32 0, .slice none 0 0] 28 _ rfl) | have hV := bk_kept hbb (bk_kept (Below.refl _ _).drew (Bk.new _ #[.slice none 0 0, .int .u32 0, .slice none 0 0] 28 _ rfl)) | skip); (first | replace hsW := ai_kept hbb hsW | replace hsW := ai_kept hbb (ai_kept ((Below.refl _ _).alloc (Nat.le_refl _) _) hsW) | skip); have hz98 := hb.size; clear hbb) | (go_at_call 15; refine Calls.mono (HIM.out _ a9 ra9 ma9 (by first | exact AI.seg hsW | exact AI.seg (ai_kept ((Below.refl _ _).alloc (Nat.le_refl _) _) hsW)) (by first | exact OGst.seg hsG | exact OGst.seg (og_kept ((Below.refl _ _).alloc (Nat.le_refl _) _) hsG))) ?_; rintro u w97 ⟨rb7, mb7, rd7, md7, m7, rfl, hbb, ho7, hm71, hm72⟩; (first | have hvz := hV.lt | skip); have hbn := (by first | exact hb.trans (hbb.mono hb.size) | exact hb.drew.trans (hbb.mono hb.drew.size) | exact (hb.alloc hb.size _).trans (hbb.mono (hb.alloc hb.size _).size) | exact ((hb.alloc hb.size _).drew).trans (hbb.mono ((hb.alloc hb.size _).drew).size)); replace hb := hbn; clear hbn; replace c0 := kept_cell hb C0.out; replace c1 := kept_cell hb C1.out; replace c2 := kept_cell hb C2.out; (first | replace hV := bk_kept hbb hV | have hV := bk_kept hbb (Bk.new _ #[.slice none 0 0, .int .u32 0, .slice none 0 0] 28 _ rfl) | have hV := bk_kept hbb (bk_kept (Below.refl _ _).drew (Bk.new _ #[.slice none 0 0, .int .u32 0, .slice none 0 0] 28 _ rfl)) | skip); have hz97 := hb.size; (first | (have v0 := hV.cell 0 _ rfl; have vf := hV.free; have v1 := (hV.set 0 (.slice rb7 rl' rd7) (by simp) rfl).cell 1 _ rfl; have v2 := ((hV.set 0 (.slice rb7 rl' rd7) (by simp) rfl).set 1 (.int .u32 pc') (by simp) rfl).cell 2 _ rfl) | skip); have HO7 : Hid (Sep w97 _ _ rb7 mb7 rs' n' D') := OGst.sep ho7 hm71 hm72; clear ho7 hm71 hm72 hbb hsW hsG))
  all_goals
    first
    | (have hf := psf_set (rl := rl') (rc := rd7) (pc := pc') (mc := md7) (k := w98.heap.size) hb hV (by omega) HO7.out (by simp)
       generalize (((w97.setCell ⟨w98.heap.size, 0, none⟩ (.slice rb7 rl' rd7)).setCell ⟨w98.heap.size, 1, none⟩ (.int .u32 pc')).setCell ⟨w98.heap.size, 2, none⟩ (.slice mb7 n' md7)) = Y at hf ⊢
       generalize w98.heap.size = ky at hf ⊢)
    | (have hf := psf_set (rl := rl') (rc := rd7) (pc := pc') (mc := md7) (k := w99.heap.size) hb hV (by omega) HO7.out (by omega)
       generalize (((w97.setCell ⟨w99.heap.size, 0, none⟩ (.slice rb7 rl' rd7)).setCell ⟨w99.heap.size, 1, none⟩ (.int .u32 pc')).setCell ⟨w99.heap.size, 2, none⟩ (.slice mb7 n' md7)) = Y at hf ⊢
       generalize w99.heap.size = ky at hf ⊢)
    | (have hf := psf_set (rl := rl') (rc := rd7) (pc := pc') (mc := md7) (k := w12.heap.size) hb hV (by omega) HO7.out (by omega)
       generalize (((w97.setCell ⟨w12.heap.size, 0, none⟩ (.slice rb7 rl' rd7)).setCell ⟨w12.heap.size, 1, none⟩ (.int .u32 pc')).setCell ⟨w12.heap.size, 2, none⟩ (.slice mb7 n' md7)) = Y at hf ⊢
       generalize w12.heap.size = ky at hf ⊢)
    | (have hf := psf_new (rl := rl') (rc := rd7) (pc := pc') (mc := md7) hb HO7.out 28
       generalize w97.alloc (.cells #[.slice rb7 rl' rd7, .int .u32 pc', .slice mb7 n' md7] 28) = Y at hf ⊢
       generalize w97.heap.size = ky at hf ⊢)
  all_goals
    try clear v0 vf v1 v2
    try clear hvz
    try clear hV
    try clear HO7
    try clear m7
    rename_i hh
    clear hh
    clear hz97 hb c0 c1 c2 hz98 hm91 hm92 hz99
    revert hf
    revert Y ky rb7 mb7 rd7 md7
    try clear w97
    revert a9 ra9 ma9
    try clear m9
    try clear w98
    try clear w99
    refine ?wayI
  intro b9 rb9 mb9 rb7 mb7 rd7 md7 Y ky hf
  clear C0 C1 C2 HBX hzw
  have hbV := hf.1
  replace HB : Hid (Below w.heap.size w _) := HB.out.trans (hbV.mono HB.out.size)
  replace HS : Hid (Bk _ _ _) := Bk.below HS.out hbV
  replace S : Hid (Below V.heap.size V _) := S.out.trans (hbV.mono S.out.size)
  replace SV : Hid (Bk _ _ _) := Bk.below SV.out hbV
  replace GV : Hid (Bk _ _ _) := Bk.below GV.out hbV
  replace GM : Hid (OGst _ _ _ _ _ _ _ _ _) := OGst.below GM.out hbV
  have HY : Hid (XGSeg Y _ _ _ _ _) := hf.2.2.1
  have YV : Hid (Bk _ _ _) := hf.2.1
  clear hbV hf
  have g0 := YV.out.cell 0 _ rfl
  have g1 := YV.out.cell 1 _ rfl
  have g2 := YV.out.cell 2 _ rfl
  have s0 := SV.out.cell 0 _ rfl
  have s1 := SV.out.cell 1 _ rfl
  have s2 := SV.out.cell 2 _ rfl
  go_wp2_with fail
  refine Calls.mono (eq_guest pc' rb7 ra7 mb7 ma7 rl' rd7 rc7 n' md7 mc7 rs' D' _ HY.out (XGSeg.below S0.out S.out) HL'.out hr' hn' ht') ?_
  rintro u w13 ⟨rfl, hb13⟩
  clear g0 g1 g2
  clear s0 s1 s2
  replace HB : Hid (Below w.heap.size w _) := HB.out.trans (hb13.mono HB.out.size)
  replace HS : Hid (Bk _ _ _) := Bk.below HS.out hb13
  replace S : Hid (Below V.heap.size V _) := S.out.trans (hb13.mono S.out.size)
  replace SV : Hid (Bk _ _ _) := Bk.below SV.out hb13
  replace GV : Hid (Bk _ _ _) := Bk.below GV.out hb13
  replace GM : Hid (OGst _ _ _ _ _ _ _ _ _) := OGst.below GM.out hb13
  replace YV : Hid (Bk _ _ _) := Bk.below YV.out hb13
  clear hb13
  clear YV
  have g0 := GV.out.cell 0 _ rfl
  have g1 := GV.out.cell 1 _ rfl
  have g2 := GV.out.cell 2 _ rfl
  go_wp2_with fail
  refine Calls.mono (held_guest pc' rc4 n' mc4 1 rl' ra4 ma4 D' _ (OGst.seg GM.out) hr' hn' ht' (by omega)) ?_
  rintro u w14 ⟨rfl, hb14⟩
  rw [HK.out]
  clear g0 g1 g2
  replace HB : Hid (Below w.heap.size w _) := HB.out.trans (hb14.mono HB.out.size)
  replace HS : Hid (Bk _ _ _) := Bk.below HS.out hb14
  replace S : Hid (Below V.heap.size V _) := S.out.trans (hb14.mono S.out.size)
  replace SV : Hid (Bk _ _ _) := Bk.below SV.out hb14
  replace GV : Hid (Bk _ _ _) := Bk.below GV.out hb14
  replace GM : Hid (OGst _ _ _ _ _ _ _ _ _) := OGst.below GM.out hb14
  clear hb14
  go_wp2
  go_ret
  exact ⟨rfl, HB.out⟩

/-! ### The row -/
set_option maxRecDepth 100000 in
theorem lifted (os : Os) (started : os.Started) (H : Type) (enc : TypeId × Value → H) :
    ReturnsInHanded {} Try.checked os 4 .any (Rows.fnExactPokeSpec.pre6 enc Try.prog Try.f4 Rows.fnExactPokeRow.domain false) (Rows.fnExactPokeSpec.post enc Try.prog Try.f4 false true false false) := by
  refine returnsInHanded_of_change (C := Try.checked) own started (by kernel_rfl) Try.func4
    (ChangeSpec.witness6 (enc := enc) (C := Try.checked) false ⟨#[], #[.slice none 0 0, gst none 0 0 0 none 0 0, .int .u32 0, .int .i64 0, .int .u32 0], []⟩ 8 (by kernel_rfl) (by kernel_rfl) (by kernel_rfl) (by kernel_rfl)) ?_
  intro W base args ds gs before hval0 hW hcnd _
  have hval : ∀ (j : Nat) t v, Try.f4.params[j]? = some t → args[j]? = some v → Value.okWide Try.prog W .any base t v := hval0
  have hW' := hW
  obtain ⟨p, q, hA0, hV, rfl, hfz, hnd⟩ := hW
  have hA : DataW.TrodAll enc Try.prog W 0 (fun _ => true) true Try.f4.params.toList args.toList ds p := hA0
  rw [Try.params4] at hA hval
  obtain ⟨v0, vs0, d0, ds0, p0, q0, hargs, rfl, rfl, h0, r0⟩ := trodAll_cons hA
  obtain ⟨v1, vs1, d1, ds1, p1, q1, rfl, rfl, rfl, h1, r1⟩ := trodAll_cons r0
  obtain ⟨v2, vs2, d2, ds2, p2, q2, rfl, rfl, rfl, h2, r2⟩ := trodAll_cons r1
  obtain ⟨v3, vs3, d3, ds3, p3, q3, rfl, rfl, rfl, h3, r3⟩ := trodAll_cons r2
  obtain ⟨v4, vs4, d4, ds4, p4, q4, rfl, rfl, rfl, h4, r4⟩ := trodAll_cons r3
  obtain ⟨rfl, rfl, rfl⟩ := trodAll_nil r4
  obtain rfl : args = #[v0, v1, v2, v3, v4] := by cases args; simp_all
  obtain ⟨rfl, rfl⟩ := trodVars_none hV
  have k0 := h0
  have lt0 : ∀ x ∈ p0, x.block < W.heap.size := by obtain ⟨m, hm⟩ := k0; exact DataW.trod_lt m _ _ _ hm
  have k1 := h1
  have lt1 : ∀ x ∈ p1, x.block < W.heap.size := by obtain ⟨m, hm⟩ := k1; exact DataW.trod_lt m _ _ _ hm
  have k2 := h2
  have lt2 : ∀ x ∈ p2, x.block < W.heap.size := by obtain ⟨m, hm⟩ := k2; exact DataW.trod_lt m _ _ _ hm
  have k3 := h3
  have lt3 : ∀ x ∈ p3, x.block < W.heap.size := by obtain ⟨m, hm⟩ := k3; exact DataW.trod_lt m _ _ _ hm
  have k4 := h4
  have lt4 : ∀ x ∈ p4, x.block < W.heap.size := by obtain ⟨m, hm⟩ := k4; exact DataW.trod_lt m _ _ _ hm
  obtain ⟨a1, xs, c1, rfl, hs1, hn1, hf1⟩ := wins_arg (hval 0 34 v0 rfl rfl) h0
  obtain ⟨ra, rs, rc, pc, ma, n, mc, D, rfl, hg⟩ := guest_arg (hval 1 26 v1 rfl rfl) h1
  obtain ⟨aAddr, rfl, rfl, rfl, w2⟩ := open_int Try.underlying23 (hval 2 23 v2 rfl rfl) h2
  obtain ⟨aSize, rfl, rfl, rfl, w3⟩ := open_int Try.underlying3 (hval 3 3 v3 rfl rfl) h3
  obtain ⟨aX, rfl, rfl, rfl, w4⟩ := open_int Try.underlying23 (hval 4 23 v4 rfl rfl) h4
  clear hA0 hval0
  refine (walk a1 ra ma c1 xs.length rs.length rc n mc pc aAddr aSize aX xs rs D W hs1 hf1 rfl hn1 hg rfl (by have := bounds_u32 w2; have := bounds_u32 w4; omega)).mono fun e W' ⟨he, bel⟩ => ?_
  subst he
  exact ⟨_, rfl, _, _, _, [], _, [], hW', (trodAll_cons_mk (shut_bool Try.underlying4 _) trodAll_mk0), (trodAll_cons_mk (Below.trod laidOut (by kernel_rfl) (of_decide_eq_true (by kernel_rfl)) k0 bel lt0) (trodAll_cons_mk (Below.trod laidOut (by kernel_rfl) (of_decide_eq_true (by kernel_rfl)) k1 bel lt1) (trodAll_cons_mk (Below.trod laidOut (by kernel_rfl) (of_decide_eq_true (by kernel_rfl)) k2 bel lt2) (trodAll_cons_mk (Below.trod laidOut (by kernel_rfl) (of_decide_eq_true (by kernel_rfl)) k3 bel lt3) (trodAll_cons_mk (Below.trod laidOut (by kernel_rfl) (of_decide_eq_true (by kernel_rfl)) k4 bel lt4) trodAll_mk0))))), rfl, bel.frame _, fun h => by cases h⟩

theorem over : Rows.fnExactPokeRow.holds Try.pinned (OpenSpec.ofChange Rows.fnExactPokeSpec) :=
  OpenClaim.holds_of_wide 4 Try.f4 rfl rfl rfl rfl rfl rfl rfl ⟨rfl, rfl, rfl, rfl, rfl⟩ rfl rfl rfl rfl rfl (by kernel_rfl) Try.func4 (by kernel_rfl)
    (of_decide_eq_true (by kernel_rfl)) (by unfold Func.isWrapper; first | (rw [if_pos (by decide +kernel)]; kernel_rfl) | (rw [if_neg (by decide +kernel)]; exact ⟨rfl, rfl⟩))
    (fun os started H enc _ => lifted os started H enc)

end Go.Proofs.Ytjlhkjiccibgdaa.fnExactPoke
namespace Go.Proofs.Ytjlhkjiccibgdaa
theorem FnExactPoke_holds : Rows.FnExactPokeSaid := fnExactPoke.over
end Go.Proofs.Ytjlhkjiccibgdaa
