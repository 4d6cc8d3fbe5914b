
/-
  The law of CoreStep, walked: at every list of windows, every guest and every cycle it returns true, and nothing that was there is written. Condition: the table of forms lies where the program laid it.
-/
import Derived.Test.YtjlhkjiccibgdaaGreatDoorRows
import Derived.WalkKit
import Derived.ProofKit
import Derived.OpenShut
import Derived.Below
import Derived.Carry
import Derived.Test.YtjlhkjiccibgdaaGreatDoorCal
namespace Go.Proofs.YtjlhkjiccibgdaaGreatDoor
open Go.ChangeShapes Go.WideShapes Go.ChangeAt Go.RowKit Go.Deep
set_option linter.unusedVariables false

set_option maxRecDepth 20000 in
set_option maxHeartbeats 32000000 in
theorem core_law (a ra ma : Option Addr) (cap wn rl rc n mc : Nat) (pc aCycle : Int) (xs : List Wn) (rs : List Int) (D : Nat → List Int) (w : World) (hT : Is.Tab w) (hs : ASeg w a xs) (hf : Fit xs) (hl : xs.length = wn) (hn : wn ≤ 9223372036854775807) (hg : GIn w ra ma rs pc n D) (hrl : rs.length = rl) :
    Calls Tryz.prog 3 #[.slice a wn cap, gst ra rl rc pc ma n mc, .int .i64 aCycle] w fun e w' => e = .returned (.bool true) ∧ Below w.heap.size w w' := by
  have HTB : Hid (Is.Tab w) := hT
  clear hT
  have HG0 : Hid (GIn w ra ma rs pc n D ∧ rs.length = rl) := ⟨hg, hrl⟩
  have hrb : rl ≤ 9223372036854775807 := by have := hg.rlen; omega
  have hnb : n ≤ 9223372036854775807 := hg.nlen
  have HS0 : Hid (ASeg w a xs ∧ xs.length = wn) := ⟨hs, hl⟩
  clear hs hl
  clear hg hrl
  have HB : Hid (Below w.heap.size w (w.alloc (.cells #[.slice ra rl rc, .int .u32 pc, .slice ma n mc] 27))) := (Below.refl _ w).alloc (Nat.le_refl _) _
  have HS : Hid (Bk _ _ _) := Bk.new w #[.slice ra rl rc, .int .u32 pc, .slice ma n mc] 27 w.heap.size rfl
  go_enter Tryz.func3, Tryz.ntmps3
  go_wp2_with fail
  refine Calls.mono (sz_wins a cap wn 1048576 _ hn (Nat.le_refl _)) ?_
  rintro u w0 ⟨⟨r, rfl, hr⟩, rfl⟩
  rcases hr with hr | ⟨hr, hbig⟩
  · go_wp2
    go_ret
    exact ⟨rfl, HB.out⟩
  have hr0 : ¬ (((1048576 - wn : Nat) : Int) < 0) := by omega
  obtain ⟨M, HM⟩ : ∃ M, Hid (1048576 - wn = M) := ⟨_, rfl⟩
  rw [HM.out] at hr hr0
  subst hr
  have hM : M ≤ 1048576 := by have := HM.out; omega
  have c0 := HS.out.cell 0 _ rfl
  have c1 := HS.out.cell 1 _ rfl
  have c2 := HS.out.cell 2 _ rfl
  go_wp2_with fail
  refine Calls.mono (sz_guest pc ra ma rl rc n mc M D _ (HG0.out.1.seg.2.below HB.out) hrb hnb HG0.out.1.dlen (by omega)) ?_
  rintro u w1 ⟨⟨r, rfl, hr⟩, hb1⟩
  clear c0 c1 c2
  replace HB : Hid (Below w.heap.size w _) := HB.out.trans (hb1.mono HB.out.size)
  replace HS : Hid (Bk _ _ _) := Bk.below HS.out hb1
  clear hb1
  rcases hr with hr | ⟨hr, hr1, hn1, ht⟩
  · go_wp2
    go_ret
    exact ⟨rfl, HB.out⟩
  have hr0 : ¬ (r < 0) := by omega
  clear hrb hnb
  have HEW : Hid (∀ X, Below w.heap.size w X → Calls Tryz.prog 7 #[.slice a wn cap] X fun e w' => ∃ a', e = .returned (.slice a' wn wn) ∧ Below X.heap.size X w' ∧ AI w' X.heap.size w'.heap.size a' xs) := fun X hX => (to_wins a cap wn xs X (ASeg.below HS0.out.1 hX) HS0.out.2 hbig).mono fun e w' h => ⟨_, h.1, h.2.1, h.2.2.ai HS0.out.2 _ _ (Nat.le_refl _) h.2.2.lt⟩
  have HQW : Hid (∀ (X : World) a1 a2, ASeg X a1 xs → ASeg X a2 xs → Calls Tryz.prog 11 #[.slice a1 wn wn, .slice a2 wn wn] X fun e w' => e = .returned (.bool true) ∧ Below X.heap.size X w') := fun X a1 a2 h1 h2 => eq_accs a1 a2 wn wn wn xs X h1 h2 HS0.out.2 hbig
  have HEG : Hid (∀ X, Below w.heap.size w X → Calls Tryz.prog 8 #[gst ra rl rc pc ma n mc] X fun e w' => ∃ ra' ma' m, e = .returned (gst ra' rl rl pc ma' n n) ∧ Below X.heap.size X w' ∧ OGst w' X.heap.size m w'.heap.size ra' ma' rs n D ∧ X.heap.size ≤ m ∧ m ≤ w'.heap.size) := fun X hX => to_guest pc ra ma rl rc n mc rs D X (GSeg.below HG0.out.1.seg hX) HG0.out.2 hr1 hn1 ht
  have HQG : Hid (∀ (X : World) ra1 ra2 ma1 ma2, GSeg X ra1 ma1 rs n D → GSeg X ra2 ma2 rs n D → Calls Tryz.prog 12 #[gst ra1 rl rl pc ma1 n n, gst ra2 rl rl pc ma2 n n] X fun e w' => e = .returned (.bool true) ∧ Below X.heap.size X w') := fun X ra1 ra2 ma1 ma2 h1 h2 => eq_guest pc ra1 ra2 ma1 ma2 rl rl rl n n n rs D X h1 h2 HG0.out.2 hr1 hn1 ht
  obtain ⟨rs', rl', pc', n', D', fa', op', to', wr', ca', hl', hr', hn', ht', hsp, him⟩ := core_alike pc aCycle wn rl n xs rs D hf HS0.out.2 hbig HG0.out.2 hr1 hn1 ht HG0.out.1.regs HG0.out.1.pcw HG0.out.1.bytes
  have HSP : Hid (∀ (X : World) a1 ra1 ma1, Below w.heap.size w X → ASeg X a1 xs → GSeg X ra1 ma1 rs n D → Calls Tryz.prog 6 #[.slice a1 wn wn, gst ra1 rl rl pc ma1 n n, .int .i64 aCycle] X (SPA X rs' rl' pc' n' D' fa' op' to' wr' ca')) := fun X a1 ra1 ma1 _ h1 h2 => hsp X a1 ra1 ma1 h1 h2
  have HIM : Hid (∀ (X : World) a1 ra1 ma1, Below w.heap.size w X → ASeg X a1 xs → GSeg X ra1 ma1 rs n D → Calls Tryz.prog 9 #[.slice a1 wn wn, gst ra1 rl rl pc ma1 n n, .int .i64 aCycle] X (SQA X rs' rl' pc' n' D' fa' op' to' wr' ca')) := fun X a1 ra1 ma1 hX h1 h2 => him X a1 ra1 ma1 (Is.Tab.below HTB.out hX) h1 h2
  have HL' : Hid (rs'.length = rl') := hl'
  clear hsp him hl' hf HTB
  have hzw : w.heap.size < w1.heap.size := HS.out.lt
  have hb : Below w1.heap.size w1 w1 := Below.refl _ _
  have HBX : Hid (∀ X, Below w1.heap.size w1 X → Below w.heap.size w X) := fun X hX => HB.out.trans (hX.mono HB.out.size)
  have C0 : Hid (w1.cell? ⟨w.heap.size, 0, none⟩ = some (.slice ra rl rc)) := HS.out.cell 0 _ rfl
  have C1 : Hid (w1.cell? ⟨w.heap.size, 1, none⟩ = some (.int .u32 pc)) := HS.out.cell 1 _ rfl
  have C2 : Hid (w1.cell? ⟨w.heap.size, 2, none⟩ = some (.slice ma n mc)) := HS.out.cell 2 _ rfl
  have c0 := C0.out
  have c1 := C1.out
  have c2 := C2.out
  go_wp2
  go_region_held_law (fun w' => w'.cell? ⟨w.heap.size, 0, none⟩ = some (.slice ra rl rc) ∧ w'.cell? ⟨w.heap.size, 1, none⟩ = some (.int .u32 pc) ∧ w'.cell? ⟨w.heap.size, 2, none⟩ = some (.slice ma n mc)) (first | with_reducible exact ⟨c0, c1, c2⟩ | with_reducible exact ⟨cell_drew c0, cell_drew c1, cell_drew c2⟩ | with_reducible exact ⟨cell_alloc_l _ c0, cell_alloc_l _ c1, cell_alloc_l _ c2⟩ | with_reducible exact ⟨cell_alloc_l _ (cell_drew c0), cell_alloc_l _ (cell_drew c1), cell_alloc_l _ (cell_drew c2)⟩ | with_reducible exact ⟨cell_drew (cell_alloc_l _ c0), cell_drew (cell_alloc_l _ c1), cell_drew (cell_alloc_l _ c2)⟩ | with_reducible exact ⟨st8 (by omega) c0, st8 (by omega) c1, st8 (by omega) c2⟩ | with_reducible exact ⟨st8 (by omega) (cell_alloc_l _ c0), st8 (by omega) (cell_alloc_l _ c1), st8 (by omega) (cell_alloc_l _ c2)⟩)
    (first | (go_at_call 7; refine Calls.mono (HEW.out _ (HBX.out _ (by first | exact hb | exact hb.drew | exact hb.alloc hb.size _ | exact (hb.alloc hb.size _).drew))) ?_; rintro u w99 ⟨a9, rfl, hbb, hsW⟩; have hbn := (by first | exact hb.trans (hbb.mono hb.size) | exact hb.drew.trans (hbb.mono hb.drew.size) | exact (hb.alloc hb.size _).trans (hbb.mono (hb.alloc hb.size _).size) | exact ((hb.alloc hb.size _).drew).trans (hbb.mono ((hb.alloc hb.size _).drew).size)); replace hb := hbn; clear hbn; replace c0 := kept_cell hb C0.out; replace c1 := kept_cell hb C1.out; replace c2 := kept_cell hb C2.out; (first | replace hV := bk_kept hbb hV | have hV := bk_kept hbb (Bk.new _ #[.slice none 0 0, .int .u32 0, .slice none 0 0, .int .i64 0, .int .i64 0, .int .i64 0, .bool false, .bool false] 32 _ rfl) | have hV := bk_kept hbb (bk_kept (Below.refl _ _).drew (Bk.new _ #[.slice none 0 0, .int .u32 0, .slice none 0 0, .int .i64 0, .int .i64 0, .int .i64 0, .bool false, .bool false] 32 _ rfl)) | skip); have hz99 := hb.size; clear hbb) | (go_at_call 8; refine Calls.mono (HEG.out _ (HBX.out _ (by first | exact hb | exact hb.drew | exact hb.alloc hb.size _ | exact (hb.alloc hb.size _).drew))) ?_; rintro u w98 ⟨ra9, ma9, m9, rfl, hbb, hsG, hm91, hm92⟩; have hbn := (by first | exact hb.trans (hbb.mono hb.size) | exact hb.drew.trans (hbb.mono hb.drew.size) | exact (hb.alloc hb.size _).trans (hbb.mono (hb.alloc hb.size _).size) | exact ((hb.alloc hb.size _).drew).trans (hbb.mono ((hb.alloc hb.size _).drew).size)); replace hb := hbn; clear hbn; replace c0 := kept_cell hb C0.out; replace c1 := kept_cell hb C1.out; replace c2 := kept_cell hb C2.out; (first | replace hV := bk_kept hbb hV | have hV := bk_kept hbb (Bk.new _ #[.slice none 0 0, .int .u32 0, .slice none 0 0, .int .i64 0, .int .i64 0, .int .i64 0, .bool false, .bool false] 32 _ rfl) | have hV := bk_kept hbb (bk_kept (Below.refl _ _).drew (Bk.new _ #[.slice none 0 0, .int .u32 0, .slice none 0 0, .int .i64 0, .int .i64 0, .int .i64 0, .bool false, .bool false] 32 _ rfl)) | skip); (first | replace hsW := ai_kept hbb hsW | replace hsW := ai_kept hbb (ai_kept ((Below.refl _ _).alloc (Nat.le_refl _) _) hsW) | skip); have hz98 := hb.size; clear hbb) | (go_at_call 6; refine Calls.mono (HSP.out _ a9 ra9 ma9 (HBX.out _ (by first | exact hb | exact hb.drew | exact hb.alloc hb.size _ | exact (hb.alloc hb.size _).drew)) (by first | exact AI.seg hsW | exact AI.seg (ai_kept ((Below.refl _ _).alloc (Nat.le_refl _) _) hsW)) (by first | exact OGst.seg hsG | exact OGst.seg (og_kept ((Below.refl _ _).alloc (Nat.le_refl _) _) hsG))) ?_; rintro u w97 ⟨ra7, ma7, rc7, mc7, rfl, hbb, ho7⟩; (first | have hvz := hV.lt | skip); have hbn := (by first | exact hb.trans (hbb.mono hb.size) | exact hb.drew.trans (hbb.mono hb.drew.size) | exact (hb.alloc hb.size _).trans (hbb.mono (hb.alloc hb.size _).size) | exact ((hb.alloc hb.size _).drew).trans (hbb.mono ((hb.alloc hb.size _).drew).size)); replace hb := hbn; clear hbn; replace c0 := kept_cell hb C0.out; replace c1 := kept_cell hb C1.out; replace c2 := kept_cell hb C2.out; (first | replace hV := bk_kept hbb hV | have hV := bk_kept hbb (Bk.new _ #[.slice none 0 0, .int .u32 0, .slice none 0 0, .int .i64 0, .int .i64 0, .int .i64 0, .bool false, .bool false] 32 _ rfl) | have hV := bk_kept hbb (bk_kept (Below.refl _ _).drew (Bk.new _ #[.slice none 0 0, .int .u32 0, .slice none 0 0, .int .i64 0, .int .i64 0, .int .i64 0, .bool false, .bool false] 32 _ rfl)) | skip); have hz97 := hb.size; (first | (have v0 := hV.cell 0 _ rfl; have v1 := hV.cell 1 _ rfl; have v2 := hV.cell 2 _ rfl; have v3 := hV.cell 3 _ rfl; have v4 := hV.cell 4 _ rfl; have v5 := hV.cell 5 _ rfl; have v6 := hV.cell 6 _ rfl; have v7 := hV.cell 7 _ rfl; have vf := hV.free) | skip); have HO7 : Hid (Sep w97 _ _ ra7 ma7 rs' n' D') := ho7; clear ho7 hbb hsW hsG))
  all_goals
    first
    | (have hf := ssf_set (rl := rl') (rc := rc7) (pc := pc') (mc := mc7) (fa := fa') (op := op') (to := to') (wr := wr') (ca := ca') (k := w98.heap.size) hb hV (by omega) HO7.out (by simp)
       generalize ((((((((w97.setCell ⟨w98.heap.size, 0, none⟩ (.slice ra7 rl' rc7)).setCell ⟨w98.heap.size, 1, none⟩ (.int .u32 pc')).setCell ⟨w98.heap.size, 2, none⟩ (.slice ma7 n' mc7)).setCell ⟨w98.heap.size, 3, none⟩ (.int .i64 fa')).setCell ⟨w98.heap.size, 4, none⟩ (.int .i64 op')).setCell ⟨w98.heap.size, 5, none⟩ (.int .i64 to')).setCell ⟨w98.heap.size, 6, none⟩ (.bool wr')).setCell ⟨w98.heap.size, 7, none⟩ (.bool ca')) = V at hf ⊢
       generalize w98.heap.size = k at hf ⊢)
    | (have hf := ssf_set (rl := rl') (rc := rc7) (pc := pc') (mc := mc7) (fa := fa') (op := op') (to := to') (wr := wr') (ca := ca') (k := w99.heap.size) hb hV (by omega) HO7.out (by omega)
       generalize ((((((((w97.setCell ⟨w99.heap.size, 0, none⟩ (.slice ra7 rl' rc7)).setCell ⟨w99.heap.size, 1, none⟩ (.int .u32 pc')).setCell ⟨w99.heap.size, 2, none⟩ (.slice ma7 n' mc7)).setCell ⟨w99.heap.size, 3, none⟩ (.int .i64 fa')).setCell ⟨w99.heap.size, 4, none⟩ (.int .i64 op')).setCell ⟨w99.heap.size, 5, none⟩ (.int .i64 to')).setCell ⟨w99.heap.size, 6, none⟩ (.bool wr')).setCell ⟨w99.heap.size, 7, none⟩ (.bool ca')) = V at hf ⊢
       generalize w99.heap.size = k at hf ⊢)
    | (have hf := ssf_set (rl := rl') (rc := rc7) (pc := pc') (mc := mc7) (fa := fa') (op := op') (to := to') (wr := wr') (ca := ca') (k := w1.heap.size) hb hV (by omega) HO7.out (by omega)
       generalize ((((((((w97.setCell ⟨w1.heap.size, 0, none⟩ (.slice ra7 rl' rc7)).setCell ⟨w1.heap.size, 1, none⟩ (.int .u32 pc')).setCell ⟨w1.heap.size, 2, none⟩ (.slice ma7 n' mc7)).setCell ⟨w1.heap.size, 3, none⟩ (.int .i64 fa')).setCell ⟨w1.heap.size, 4, none⟩ (.int .i64 op')).setCell ⟨w1.heap.size, 5, none⟩ (.int .i64 to')).setCell ⟨w1.heap.size, 6, none⟩ (.bool wr')).setCell ⟨w1.heap.size, 7, none⟩ (.bool ca')) = V at hf ⊢
       generalize w1.heap.size = k at hf ⊢)
    | (have hf := ssf_new (rl := rl') (rc := rc7) (pc := pc') (mc := mc7) (fa := fa') (op := op') (to := to') (wr := wr') (ca := ca') hb HO7.out 32
       generalize w97.alloc (.cells #[.slice ra7 rl' rc7, .int .u32 pc', .slice ma7 n' mc7, .int .i64 fa', .int .i64 op', .int .i64 to', .bool wr', .bool ca'] 32) = V at hf ⊢
       generalize w97.heap.size = k at hf ⊢)
  all_goals
    try clear v0 v1 v2 v3 v4 v5 v6 v7 vf
    try clear hvz
    try clear hV
    try clear HO7
    try clear m7
    rename_i hh
    clear hh
    clear hz97 hb c0 c1 c2 hz98 hm91 hm92 hz99
    revert hf
    revert V k ra7 ma7 rc7 mc7
    try clear w97
    revert a9 ra9 ma9
    try clear m9
    try clear w98
    try clear w99
    refine ?wayS
  intro a9 ra9 ma9 ra7 ma7 rc7 mc7 V k hf
  clear C0 C1 C2 HBX hzw
  have hbV := hf.1
  have hkV := hf.2.2.2
  have hzw : w.heap.size < w1.heap.size := HS.out.lt
  replace HB : Hid (Below w.heap.size w _) := HB.out.trans (hbV.mono HB.out.size)
  replace HS : Hid (Bk _ _ _) := Bk.below HS.out hbV
  have S0 : Hid (GSeg V ra7 ma7 rs' n' D') := hf.2.2.1
  have S : Hid (Below _ _ _) := Below.refl V.heap.size V
  have SV : Hid (Bk _ _ _) := hf.2.1
  have hzV : w1.heap.size ≤ V.heap.size := hbV.size
  have hkl : k < V.heap.size := hf.2.1.lt
  clear hbV hf
  go_wp2_with fail
  refine Calls.mono (HEW.out _ HB.out) ?_
  rintro u w2 ⟨a2, rfl, hb2, ho2⟩
  have hz2 : V.heap.size ≤ w2.heap.size := hb2.size
  replace HB : Hid (Below w.heap.size w _) := HB.out.trans (hb2.mono HB.out.size)
  replace HS : Hid (Bk _ _ _) := Bk.below HS.out hb2
  replace S : Hid (Below V.heap.size V _) := S.out.trans (hb2.mono S.out.size)
  replace SV : Hid (Bk _ _ _) := Bk.below SV.out hb2
  have XW : Hid (AI _ _ _ _ _) := ho2
  clear hb2 ho2
  have c0 := HS.out.cell 0 _ rfl
  have c1 := HS.out.cell 1 _ rfl
  have c2 := HS.out.cell 2 _ rfl
  go_wp2_with fail
  refine Calls.mono (HEG.out _ HB.out) ?_
  rintro u w3 ⟨ra3, ma3, m3, rfl, hb3, ho3, hm3, hn3⟩
  clear c0 c1 c2
  have hal : Below w3.heap.size w3 (w3.alloc (.cells #[.slice ra3 rl rl, .int .u32 pc, .slice ma3 n n] 30)) := (Below.refl _ _).alloc (Nat.le_refl _) _
  have hb3' := hb3.trans (hal.mono hb3.size)
  replace HB : Hid (Below w.heap.size w _) := HB.out.trans (hb3'.mono HB.out.size)
  replace HS : Hid (Bk _ _ _) := Bk.below HS.out hb3'
  replace S : Hid (Below V.heap.size V _) := S.out.trans (hb3'.mono S.out.size)
  replace SV : Hid (Bk _ _ _) := Bk.below SV.out hb3'
  replace XW : Hid (AI _ _ _ _ _) := AI.below XW.out hb3'
  have X0 : Hid (OGst _ _ _ _ _ _ _ _ _) := ho3.below hal
  have V0 : Hid (Bk _ _ _) := Bk.new w3 #[.slice ra3 rl rl, .int .u32 pc, .slice ma3 n n] 30 w3.heap.size rfl
  clear hb3 hb3' hal ho3
  have hz3 : w2.heap.size ≤ w3.heap.size := by omega
  have v0 := V0.out.cell 0 _ rfl
  have v1 := V0.out.cell 1 _ rfl
  have v2 := V0.out.cell 2 _ rfl
  go_wp2_with fail
  refine Calls.mono (HIM.out _ a2 ra3 ma3 HB.out (AI.seg XW.out) (OGst.seg X0.out)) ?_
  rintro u w4 ⟨ra4, ma4, rc4, mc4, m4, rfl, hb4, ho4, hm4, hn4⟩
  clear v0 v1 v2
  have hz4 : w3.heap.size + 1 ≤ w4.heap.size := by have := hb4.size; simp at this; omega
  simp only [World.size_alloc] at ho4 hm4
  have hal : Below w4.heap.size w4 (w4.alloc (.cells #[.slice ra4 rl' rc4, .int .u32 pc', .slice ma4 n' mc4, .int .i64 fa', .int .i64 op', .int .i64 to', .bool wr', .bool ca'] 32)) := (Below.refl _ _).alloc (Nat.le_refl _) _
  have hb4' := hb4.trans (hal.mono hb4.size)
  replace HB : Hid (Below w.heap.size w _) := HB.out.trans (hb4'.mono HB.out.size)
  replace HS : Hid (Bk _ _ _) := Bk.below HS.out hb4'
  replace S : Hid (Below V.heap.size V _) := S.out.trans (hb4'.mono S.out.size)
  replace SV : Hid (Bk _ _ _) := Bk.below SV.out hb4'
  replace XW : Hid (AI _ _ _ _ _) := AI.below XW.out hb4'
  replace X0 : Hid (OGst _ _ _ _ _ _ _ _ _) := OGst.below X0.out hb4'
  replace V0 : Hid (Bk _ _ _) := Bk.below V0.out hb4'
  have G : Hid (OGst _ _ _ _ _ _ _ _ _) := ho4.below hal
  have GV : Hid (Bk _ _ _) := Bk.new w4 #[.slice ra4 rl' rc4, .int .u32 pc', .slice ma4 n' mc4, .int .i64 fa', .int .i64 op', .int .i64 to', .bool wr', .bool ca'] 32 w4.heap.size rfl
  clear hb4 hb4' hal ho4
  have g0 := GV.out.cell 0 _ rfl
  have g1 := GV.out.cell 1 _ rfl
  have g2 := GV.out.cell 2 _ rfl
  have g3 := GV.out.cell 3 _ rfl
  have g4 := GV.out.cell 4 _ rfl
  have g5 := GV.out.cell 5 _ rfl
  have g6 := GV.out.cell 6 _ rfl
  have g7 := GV.out.cell 7 _ rfl
  have s0 := SV.out.cell 0 _ rfl
  have s1 := SV.out.cell 1 _ rfl
  have s2 := SV.out.cell 2 _ rfl
  have s3 := SV.out.cell 3 _ rfl
  have s4 := SV.out.cell 4 _ rfl
  have s5 := SV.out.cell 5 _ rfl
  have s6 := SV.out.cell 6 _ rfl
  have s7 := SV.out.cell 7 _ rfl
  go_wp2_with fail
  refine Calls.mono (eq_step pc' fa' op' to' wr' ca' ra4 ra7 ma4 ma7 rl' rc4 rc7 n' mc4 mc7 rs' D' _ (OGst.seg G.out) (GSeg.below S0.out S.out) HL'.out hr' hn' ht') ?_
  rintro u w5 ⟨rfl, hb5⟩
  clear g0 g1 g2 g3 g4 g5 g6 g7
  clear s0 s1 s2 s3 s4 s5 s6 s7
  replace HB : Hid (Below w.heap.size w _) := HB.out.trans (hb5.mono HB.out.size)
  replace HS : Hid (Bk _ _ _) := Bk.below HS.out hb5
  replace S : Hid (Below V.heap.size V _) := S.out.trans (hb5.mono S.out.size)
  replace SV : Hid (Bk _ _ _) := Bk.below SV.out hb5
  replace XW : Hid (AI _ _ _ _ _) := AI.below XW.out hb5
  replace X0 : Hid (OGst _ _ _ _ _ _ _ _ _) := OGst.below X0.out hb5
  replace V0 : Hid (Bk _ _ _) := Bk.below V0.out hb5
  replace G : Hid (OGst _ _ _ _ _ _ _ _ _) := OGst.below G.out hb5
  replace GV : Hid (Bk _ _ _) := Bk.below GV.out hb5
  clear hb5
  go_wp2_with fail
  refine Calls.mono (HEW.out _ HB.out) ?_
  rintro u w6 ⟨a6, rfl, hb6, ho6⟩
  replace HB : Hid (Below w.heap.size w _) := HB.out.trans (hb6.mono HB.out.size)
  replace HS : Hid (Bk _ _ _) := Bk.below HS.out hb6
  replace S : Hid (Below V.heap.size V _) := S.out.trans (hb6.mono S.out.size)
  replace SV : Hid (Bk _ _ _) := Bk.below SV.out hb6
  replace XW : Hid (AI _ _ _ _ _) := AI.below XW.out hb6
  replace X0 : Hid (OGst _ _ _ _ _ _ _ _ _) := OGst.below X0.out hb6
  replace V0 : Hid (Bk _ _ _) := Bk.below V0.out hb6
  replace G : Hid (OGst _ _ _ _ _ _ _ _ _) := OGst.below G.out hb6
  replace GV : Hid (Bk _ _ _) := Bk.below GV.out hb6
  have XT : Hid (AI _ _ _ _ _) := ho6
  clear hb6 ho6
  go_wp2_with fail
  refine Calls.mono (HQW.out _ a2 a6 (AI.seg XW.out) (AI.seg XT.out)) ?_
  rintro u w7 ⟨rfl, hb7⟩
  replace HB : Hid (Below w.heap.size w _) := HB.out.trans (hb7.mono HB.out.size)
  replace HS : Hid (Bk _ _ _) := Bk.below HS.out hb7
  replace S : Hid (Below V.heap.size V _) := S.out.trans (hb7.mono S.out.size)
  replace SV : Hid (Bk _ _ _) := Bk.below SV.out hb7
  replace XW : Hid (AI _ _ _ _ _) := AI.below XW.out hb7
  replace X0 : Hid (OGst _ _ _ _ _ _ _ _ _) := OGst.below X0.out hb7
  replace V0 : Hid (Bk _ _ _) := Bk.below V0.out hb7
  replace G : Hid (OGst _ _ _ _ _ _ _ _ _) := OGst.below G.out hb7
  replace GV : Hid (Bk _ _ _) := Bk.below GV.out hb7
  replace XT : Hid (AI _ _ _ _ _) := AI.below XT.out hb7
  clear hb7
  clear XT
  have c0 : w7.cell? ⟨w.heap.size, 0, none⟩ = some (.slice ra rl rc) := HS.out.cell 0 _ rfl
  have v0 : w7.cell? ⟨w3.heap.size, 0, none⟩ = some (.slice ra3 rl rl) := V0.out.cell 0 _ rfl
  have c1 : w7.cell? ⟨w.heap.size, 1, none⟩ = some (.int .u32 pc) := HS.out.cell 1 _ rfl
  have v1 : w7.cell? ⟨w3.heap.size, 1, none⟩ = some (.int .u32 pc) := V0.out.cell 1 _ rfl
  have c2 : w7.cell? ⟨w.heap.size, 2, none⟩ = some (.slice ma n mc) := HS.out.cell 2 _ rfl
  have v2 : w7.cell? ⟨w3.heap.size, 2, none⟩ = some (.slice ma3 n n) := V0.out.cell 2 _ rfl
  have hb : Below w7.heap.size w7 w7 := Below.refl _ _
  have HBX : Hid (∀ X, Below w7.heap.size w7 X → Below w.heap.size w X) := fun X hX => HB.out.trans (hX.mono HB.out.size)
  have HX1 : Hid (∀ X, Below w7.heap.size w7 X → GSeg X ra3 ma3 rs n D) := fun X hX => GSeg.below (OGst.seg X0.out) hX
  go_wp2
  go_region_held3 (fun w' => w'.cell? ⟨w.heap.size, 0, none⟩ = some (.slice ra rl rc) ∧ w'.cell? ⟨w.heap.size, 1, none⟩ = some (.int .u32 pc) ∧ w'.cell? ⟨w.heap.size, 2, none⟩ = some (.slice ma n mc) ∧ w'.cell? ⟨w3.heap.size, 0, none⟩ = some (.slice ra3 rl rl) ∧ w'.cell? ⟨w3.heap.size, 1, none⟩ = some (.int .u32 pc) ∧ w'.cell? ⟨w3.heap.size, 2, none⟩ = some (.slice ma3 n n)) (first | exact ⟨c0, c1, c2, v0, v1, v2⟩)
    (first | (go_at_call 8; refine Calls.mono (HEG.out _ (HBX.out _ (by first | exact hb | exact hb.drew))) ?_; rintro u w58 ⟨ra9, ma9, m9, rfl, hbb, hsG, hm91, hm92⟩; (first | replace hb := hb.trans (hbb.mono hb.size) | replace hb := hb.drew.trans (hbb.mono hb.drew.size)); replace c0 := kept_cell hbb c0; replace v0 := kept_cell hbb v0; replace c1 := kept_cell hbb c1; replace v1 := kept_cell hbb v1; replace c2 := kept_cell hbb c2; replace v2 := kept_cell hbb v2; clear hbb) | (go_at_call 12; refine Calls.mono (HQG.out _ ra3 ra9 ma3 ma9 (HX1.out _ (by first | exact hb | exact hb.drew)) (by first | exact OGst.seg hsG | exact GSeg.below (OGst.seg hsG) (Below.refl _ _).drew)) ?_; rintro u w59 ⟨rfl, hbb⟩; (first | replace hb := hb.trans (hbb.mono hb.size) | replace hb := hb.drew.trans (hbb.mono hb.drew.size)); replace c0 := kept_cell hbb c0; replace v0 := kept_cell hbb v0; replace c1 := kept_cell hbb c1; replace v1 := kept_cell hbb v1; replace c2 := kept_cell hbb c2; replace v2 := kept_cell hbb v2; clear hbb hsG))
  have hbR := hb
  replace HB : Hid (Below w.heap.size w _) := HB.out.trans (hbR.mono HB.out.size)
  replace HS : Hid (Bk _ _ _) := Bk.below HS.out hbR
  replace S : Hid (Below V.heap.size V _) := S.out.trans (hbR.mono S.out.size)
  replace SV : Hid (Bk _ _ _) := Bk.below SV.out hbR
  replace XW : Hid (AI _ _ _ _ _) := AI.below XW.out hbR
  replace X0 : Hid (OGst _ _ _ _ _ _ _ _ _) := OGst.below X0.out hbR
  replace V0 : Hid (Bk _ _ _) := Bk.below V0.out hbR
  replace G : Hid (OGst _ _ _ _ _ _ _ _ _) := OGst.below G.out hbR
  replace GV : Hid (Bk _ _ _) := Bk.below GV.out hbR
  clear hb hbR HBX HX1 c0 c1 c2 v0 v1 v2
  have hz59 : w4.heap.size < w59.heap.size := GV.out.lt
  go_wp2_with fail
  refine Calls.mono (mark_accs V.heap.size w2.heap.size wn wn 1 a2 xs _ XW.out HS0.out.2 hbig (by omega)) ?_
  rintro u w8 ⟨rfl, hb8, ho8⟩
  clear XW
  replace HB : Hid (Below w.heap.size w _) := HB.out.trans (hb8.below (by omega) HB.out.size)
  replace HS : Hid (Bk _ _ _) := Bk.betw HS.out hb8 (.inl (by omega))
  replace S : Hid (Below V.heap.size V _) := S.out.trans (hb8.below (by omega) S.out.size)
  replace SV : Hid (Bk _ _ _) := Bk.betw SV.out hb8 (.inl (by omega))
  replace X0 : Hid (OGst _ _ _ _ _ _ _ _ _) := OGst.betw X0.out hb8 (.inr (by omega)) (by omega) (by omega)
  replace V0 : Hid (Bk _ _ _) := Bk.betw V0.out hb8 (.inr (by omega))
  replace G : Hid (OGst _ _ _ _ _ _ _ _ _) := OGst.betw G.out hb8 (.inr (by omega)) (by omega) (by omega)
  replace GV : Hid (Bk _ _ _) := Bk.betw GV.out hb8 (.inr (by omega))
  have hz8 : w59.heap.size ≤ w8.heap.size := hb8.size
  clear hb8 ho8
  have hKW : 1 + 3 * wn ≤ 4000000 := by omega
  obtain ⟨KW, HKW⟩ : ∃ K, Hid (1 + 3 * wn = K) := ⟨_, rfl⟩
  rw [HKW.out] at hKW ⊢
  have v0 := V0.out.cell 0 _ rfl
  have v1 := V0.out.cell 1 _ rfl
  have v2 := V0.out.cell 2 _ rfl
  go_wp2_with fail
  refine Calls.mono (mark_guest pc w2.heap.size m3 w3.heap.size rl n n KW rl ra3 ma3 rs D _ X0.out HG0.out.2 hr1 hn1 ht (by omega) (by omega) (by omega) (by omega)) ?_
  rintro u w9 ⟨rfl, hb9, ho9⟩
  clear v0 v1 v2 X0
  replace HB : Hid (Below w.heap.size w _) := HB.out.trans (hb9.below (by omega) HB.out.size)
  replace HS : Hid (Bk _ _ _) := Bk.betw HS.out hb9 (.inl (by omega))
  replace S : Hid (Below V.heap.size V _) := S.out.trans (hb9.below (by omega) S.out.size)
  replace SV : Hid (Bk _ _ _) := Bk.betw SV.out hb9 (.inl (by omega))
  replace V0 : Hid (Bk _ _ _) := Bk.betw V0.out hb9 (.inr (by omega))
  replace G : Hid (OGst _ _ _ _ _ _ _ _ _) := OGst.betw G.out hb9 (.inr (by omega)) (by omega) (by omega)
  replace GV : Hid (Bk _ _ _) := Bk.betw GV.out hb9 (.inr (by omega))
  clear hb9 ho9
  have hK0 : KW + rl + btot D n ≤ 10000000 := by omega
  obtain ⟨K0, HK0⟩ : ∃ K, Hid (KW + rl + btot D n = K) := ⟨_, rfl⟩
  rw [HK0.out] at hK0 ⊢
  have hK0n : ¬ ((K0 : Int) < 0) := by omega
  have g0 := GV.out.cell 0 _ rfl
  have g1 := GV.out.cell 1 _ rfl
  have g2 := GV.out.cell 2 _ rfl
  have g3 := GV.out.cell 3 _ rfl
  have g4 := GV.out.cell 4 _ rfl
  have g5 := GV.out.cell 5 _ rfl
  have g6 := GV.out.cell 6 _ rfl
  have g7 := GV.out.cell 7 _ rfl
  have s0 := SV.out.cell 0 _ rfl
  have s1 := SV.out.cell 1 _ rfl
  have s2 := SV.out.cell 2 _ rfl
  have s3 := SV.out.cell 3 _ rfl
  have s4 := SV.out.cell 4 _ rfl
  have s5 := SV.out.cell 5 _ rfl
  have s6 := SV.out.cell 6 _ rfl
  have s7 := SV.out.cell 7 _ rfl
  go_wp2_with fail
  refine Calls.mono (eq_step pc' fa' op' to' wr' ca' ra4 ra7 ma4 ma7 rl' rc4 rc7 n' mc4 mc7 rs' D' _ (OGst.seg G.out) (GSeg.below S0.out S.out) HL'.out hr' hn' ht') ?_
  rintro u w10 ⟨rfl, hb10⟩
  clear g0 g1 g2 g3 g4 g5 g6 g7
  clear s0 s1 s2 s3 s4 s5 s6 s7
  replace HB : Hid (Below w.heap.size w _) := HB.out.trans (hb10.mono HB.out.size)
  replace HS : Hid (Bk _ _ _) := Bk.below HS.out hb10
  replace S : Hid (Below V.heap.size V _) := S.out.trans (hb10.mono S.out.size)
  replace SV : Hid (Bk _ _ _) := Bk.below SV.out hb10
  replace V0 : Hid (Bk _ _ _) := Bk.below V0.out hb10
  replace G : Hid (OGst _ _ _ _ _ _ _ _ _) := OGst.below G.out hb10
  replace GV : Hid (Bk _ _ _) := Bk.below GV.out hb10
  clear hb10
  have hz10 : w4.heap.size < w10.heap.size := GV.out.lt
  have g0 := GV.out.cell 0 _ rfl
  have g1 := GV.out.cell 1 _ rfl
  have g2 := GV.out.cell 2 _ rfl
  have g3 := GV.out.cell 3 _ rfl
  have g4 := GV.out.cell 4 _ rfl
  have g5 := GV.out.cell 5 _ rfl
  have g6 := GV.out.cell 6 _ rfl
  have g7 := GV.out.cell 7 _ rfl
  go_wp2_with fail
  refine Calls.mono (mark_step pc' fa' op' to' wr' ca' (w3.heap.size + 1) m4 w4.heap.size rc4 n' mc4 1 rl' ra4 ma4 rs' D' _ G.out HL'.out hr' hn' ht' (by omega) (by omega) hm4 hn4) ?_
  rintro u w11 ⟨rfl, hb11, ho11⟩
  clear g0 g1 g2 g3 g4 g5 g6 g7
  clear G
  replace HB : Hid (Below w.heap.size w _) := HB.out.trans (hb11.below (by omega) HB.out.size)
  replace HS : Hid (Bk _ _ _) := Bk.betw HS.out hb11 (.inl (by omega))
  replace S : Hid (Below V.heap.size V _) := S.out.trans (hb11.below (by omega) S.out.size)
  replace SV : Hid (Bk _ _ _) := Bk.betw SV.out hb11 (.inl (by omega))
  replace V0 : Hid (Bk _ _ _) := Bk.betw V0.out hb11 (.inl (by omega))
  replace GV : Hid (Bk _ _ _) := Bk.betw GV.out hb11 (.inr (by omega))
  have GM : Hid (OGst _ _ _ _ _ _ _ _ _) := ho11
  clear hb11 ho11
  clear V0
  have hK : 1 + rl' + btot D' n' ≤ 10000000 := by omega
  obtain ⟨K, HK⟩ : ∃ K, Hid (1 + rl' + btot D' n' = K) := ⟨_, rfl⟩
  rw [HK.out] at hK ⊢
  have hKn : ¬ ((K : Int) < 0) := by omega
  have g0 := GV.out.cell 0 _ rfl
  have g1 := GV.out.cell 1 _ rfl
  have g2 := GV.out.cell 2 _ rfl
  have g3 := GV.out.cell 3 _ rfl
  have g4 := GV.out.cell 4 _ rfl
  have g5 := GV.out.cell 5 _ rfl
  have g6 := GV.out.cell 6 _ rfl
  have g7 := GV.out.cell 7 _ rfl
  go_wp2_with fail
  refine Calls.mono (held_step pc' fa' op' to' wr' ca' rc4 n' mc4 1 rl' ra4 ma4 D' _ (OGst.seg GM.out) hr' hn' ht' (by omega)) ?_
  rintro u w12 ⟨rfl, hb12⟩
  rw [HK.out]
  clear g0 g1 g2 g3 g4 g5 g6 g7
  replace HB : Hid (Below w.heap.size w _) := HB.out.trans (hb12.mono HB.out.size)
  replace HS : Hid (Bk _ _ _) := Bk.below HS.out hb12
  replace S : Hid (Below V.heap.size V _) := S.out.trans (hb12.mono S.out.size)
  replace SV : Hid (Bk _ _ _) := Bk.below SV.out hb12
  replace GV : Hid (Bk _ _ _) := Bk.below GV.out hb12
  replace GM : Hid (OGst _ _ _ _ _ _ _ _ _) := OGst.below GM.out hb12
  clear hb12
  have hzw : w.heap.size < w12.heap.size := HS.out.lt
  have hb : Below w12.heap.size w12 w12 := Below.refl _ _
  have HBX : Hid (∀ X, Below w12.heap.size w12 X → Below w.heap.size w X) := fun X hX => HB.out.trans (hX.mono HB.out.size)
  have C0 : Hid (w12.cell? ⟨w.heap.size, 0, none⟩ = some (.slice ra rl rc)) := HS.out.cell 0 _ rfl
  have C1 : Hid (w12.cell? ⟨w.heap.size, 1, none⟩ = some (.int .u32 pc)) := HS.out.cell 1 _ rfl
  have C2 : Hid (w12.cell? ⟨w.heap.size, 2, none⟩ = some (.slice ma n mc)) := HS.out.cell 2 _ rfl
  have c0 := C0.out
  have c1 := C1.out
  have c2 := C2.out
  go_wp2
  go_region_held_law (fun w' => w'.cell? ⟨w.heap.size, 0, none⟩ = some (.slice ra rl rc) ∧ w'.cell? ⟨w.heap.size, 1, none⟩ = some (.int .u32 pc) ∧ w'.cell? ⟨w.heap.size, 2, none⟩ = some (.slice ma n mc)) (first | with_reducible exact ⟨c0, c1, c2⟩ | with_reducible exact ⟨cell_drew c0, cell_drew c1, cell_drew c2⟩ | with_reducible exact ⟨cell_alloc_l _ c0, cell_alloc_l _ c1, cell_alloc_l _ c2⟩ | with_reducible exact ⟨cell_alloc_l _ (cell_drew c0), cell_alloc_l _ (cell_drew c1), cell_alloc_l _ (cell_drew c2)⟩ | with_reducible exact ⟨cell_drew (cell_alloc_l _ c0), cell_drew (cell_alloc_l _ c1), cell_drew (cell_alloc_l _ c2)⟩ | with_reducible exact ⟨st8 (by omega) c0, st8 (by omega) c1, st8 (by omega) c2⟩ | with_reducible exact ⟨st8 (by omega) (cell_alloc_l _ c0), st8 (by omega) (cell_alloc_l _ c1), st8 (by omega) (cell_alloc_l _ c2)⟩)
    (first | (go_at_call 7; refine Calls.mono (HEW.out _ (HBX.out _ (by first | exact hb | exact hb.drew | exact hb.alloc hb.size _ | exact (hb.alloc hb.size _).drew))) ?_; rintro u w99 ⟨a9, rfl, hbb, hsW⟩; have hbn := (by first | exact hb.trans (hbb.mono hb.size) | exact hb.drew.trans (hbb.mono hb.drew.size) | exact (hb.alloc hb.size _).trans (hbb.mono (hb.alloc hb.size _).size) | exact ((hb.alloc hb.size _).drew).trans (hbb.mono ((hb.alloc hb.size _).drew).size)); replace hb := hbn; clear hbn; replace c0 := kept_cell hb C0.out; replace c1 := kept_cell hb C1.out; replace c2 := kept_cell hb C2.out; (first | replace hV := bk_kept hbb hV | have hV := bk_kept hbb (Bk.new _ #[.slice none 0 0, .int .u32 0, .slice none 0 0, .int .i64 0, .int .i64 0, .int .i64 0, .bool false, .bool false] 32 _ rfl) | have hV := bk_kept hbb (bk_kept (Below.refl _ _).drew (Bk.new _ #[.slice none 0 0, .int .u32 0, .slice none 0 0, .int .i64 0, .int .i64 0, .int .i64 0, .bool false, .bool false] 32 _ rfl)) | skip); have hz99 := hb.size; clear hbb) | (go_at_call 8; refine Calls.mono (HEG.out _ (HBX.out _ (by first | exact hb | exact hb.drew | exact hb.alloc hb.size _ | exact (hb.alloc hb.size _).drew))) ?_; rintro u w98 ⟨ra9, ma9, m9, rfl, hbb, hsG, hm91, hm92⟩; have hbn := (by first | exact hb.trans (hbb.mono hb.size) | exact hb.drew.trans (hbb.mono hb.drew.size) | exact (hb.alloc hb.size _).trans (hbb.mono (hb.alloc hb.size _).size) | exact ((hb.alloc hb.size _).drew).trans (hbb.mono ((hb.alloc hb.size _).drew).size)); replace hb := hbn; clear hbn; replace c0 := kept_cell hb C0.out; replace c1 := kept_cell hb C1.out; replace c2 := kept_cell hb C2.out; (first | replace hV := bk_kept hbb hV | have hV := bk_kept hbb (Bk.new _ #[.slice none 0 0, .int .u32 0, .slice none 0 0, .int .i64 0, .int .i64 0, .int .i64 0, .bool false, .bool false] 32 _ rfl) | have hV := bk_kept hbb (bk_kept (Below.refl _ _).drew (Bk.new _ #[.slice none 0 0, .int .u32 0, .slice none 0 0, .int .i64 0, .int .i64 0, .int .i64 0, .bool false, .bool false] 32 _ rfl)) | skip); (first | replace hsW := ai_kept hbb hsW | replace hsW := ai_kept hbb (ai_kept ((Below.refl _ _).alloc (Nat.le_refl _) _) hsW) | skip); have hz98 := hb.size; clear hbb) | (go_at_call 9; refine Calls.mono (HIM.out _ a9 ra9 ma9 (HBX.out _ (by first | exact hb | exact hb.drew | exact hb.alloc hb.size _ | exact (hb.alloc hb.size _).drew)) (by first | exact AI.seg hsW | exact AI.seg (ai_kept ((Below.refl _ _).alloc (Nat.le_refl _) _) hsW)) (by first | exact OGst.seg hsG | exact OGst.seg (og_kept ((Below.refl _ _).alloc (Nat.le_refl _) _) hsG))) ?_; rintro u w97 ⟨rb7, mb7, rd7, md7, m7, rfl, hbb, ho7, hm71, hm72⟩; (first | have hvz := hV.lt | skip); have hbn := (by first | exact hb.trans (hbb.mono hb.size) | exact hb.drew.trans (hbb.mono hb.drew.size) | exact (hb.alloc hb.size _).trans (hbb.mono (hb.alloc hb.size _).size) | exact ((hb.alloc hb.size _).drew).trans (hbb.mono ((hb.alloc hb.size _).drew).size)); replace hb := hbn; clear hbn; replace c0 := kept_cell hb C0.out; replace c1 := kept_cell hb C1.out; replace c2 := kept_cell hb C2.out; (first | replace hV := bk_kept hbb hV | have hV := bk_kept hbb (Bk.new _ #[.slice none 0 0, .int .u32 0, .slice none 0 0, .int .i64 0, .int .i64 0, .int .i64 0, .bool false, .bool false] 32 _ rfl) | have hV := bk_kept hbb (bk_kept (Below.refl _ _).drew (Bk.new _ #[.slice none 0 0, .int .u32 0, .slice none 0 0, .int .i64 0, .int .i64 0, .int .i64 0, .bool false, .bool false] 32 _ rfl)) | skip); have hz97 := hb.size; (first | (have v0 := hV.cell 0 _ rfl; have v1 := hV.cell 1 _ rfl; have v2 := hV.cell 2 _ rfl; have v3 := hV.cell 3 _ rfl; have v4 := hV.cell 4 _ rfl; have v5 := hV.cell 5 _ rfl; have v6 := hV.cell 6 _ rfl; have v7 := hV.cell 7 _ rfl; have vf := hV.free) | skip); have HO7 : Hid (Sep w97 _ _ rb7 mb7 rs' n' D') := OGst.sep ho7 hm71 hm72; clear ho7 hm71 hm72 hbb hsW hsG))
  all_goals
    first
    | (have hf := ssf_set (rl := rl') (rc := rd7) (pc := pc') (mc := md7) (fa := fa') (op := op') (to := to') (wr := wr') (ca := ca') (k := w98.heap.size) hb hV (by omega) HO7.out (by simp)
       generalize ((((((((w97.setCell ⟨w98.heap.size, 0, none⟩ (.slice rb7 rl' rd7)).setCell ⟨w98.heap.size, 1, none⟩ (.int .u32 pc')).setCell ⟨w98.heap.size, 2, none⟩ (.slice mb7 n' md7)).setCell ⟨w98.heap.size, 3, none⟩ (.int .i64 fa')).setCell ⟨w98.heap.size, 4, none⟩ (.int .i64 op')).setCell ⟨w98.heap.size, 5, none⟩ (.int .i64 to')).setCell ⟨w98.heap.size, 6, none⟩ (.bool wr')).setCell ⟨w98.heap.size, 7, none⟩ (.bool ca')) = Y at hf ⊢
       generalize w98.heap.size = ky at hf ⊢)
    | (have hf := ssf_set (rl := rl') (rc := rd7) (pc := pc') (mc := md7) (fa := fa') (op := op') (to := to') (wr := wr') (ca := ca') (k := w99.heap.size) hb hV (by omega) HO7.out (by omega)
       generalize ((((((((w97.setCell ⟨w99.heap.size, 0, none⟩ (.slice rb7 rl' rd7)).setCell ⟨w99.heap.size, 1, none⟩ (.int .u32 pc')).setCell ⟨w99.heap.size, 2, none⟩ (.slice mb7 n' md7)).setCell ⟨w99.heap.size, 3, none⟩ (.int .i64 fa')).setCell ⟨w99.heap.size, 4, none⟩ (.int .i64 op')).setCell ⟨w99.heap.size, 5, none⟩ (.int .i64 to')).setCell ⟨w99.heap.size, 6, none⟩ (.bool wr')).setCell ⟨w99.heap.size, 7, none⟩ (.bool ca')) = Y at hf ⊢
       generalize w99.heap.size = ky at hf ⊢)
    | (have hf := ssf_set (rl := rl') (rc := rd7) (pc := pc') (mc := md7) (fa := fa') (op := op') (to := to') (wr := wr') (ca := ca') (k := w12.heap.size) hb hV (by omega) HO7.out (by omega)
       generalize ((((((((w97.setCell ⟨w12.heap.size, 0, none⟩ (.slice rb7 rl' rd7)).setCell ⟨w12.heap.size, 1, none⟩ (.int .u32 pc')).setCell ⟨w12.heap.size, 2, none⟩ (.slice mb7 n' md7)).setCell ⟨w12.heap.size, 3, none⟩ (.int .i64 fa')).setCell ⟨w12.heap.size, 4, none⟩ (.int .i64 op')).setCell ⟨w12.heap.size, 5, none⟩ (.int .i64 to')).setCell ⟨w12.heap.size, 6, none⟩ (.bool wr')).setCell ⟨w12.heap.size, 7, none⟩ (.bool ca')) = Y at hf ⊢
       generalize w12.heap.size = ky at hf ⊢)
    | (have hf := ssf_new (rl := rl') (rc := rd7) (pc := pc') (mc := md7) (fa := fa') (op := op') (to := to') (wr := wr') (ca := ca') hb HO7.out 32
       generalize w97.alloc (.cells #[.slice rb7 rl' rd7, .int .u32 pc', .slice mb7 n' md7, .int .i64 fa', .int .i64 op', .int .i64 to', .bool wr', .bool ca'] 32) = Y at hf ⊢
       generalize w97.heap.size = ky at hf ⊢)
  all_goals
    try clear v0 v1 v2 v3 v4 v5 v6 v7 vf
    try clear hvz
    try clear hV
    try clear HO7
    try clear m7
    rename_i hh
    clear hh
    clear hz97 hb c0 c1 c2 hz98 hm91 hm92 hz99
    revert hf
    revert Y ky rb7 mb7 rd7 md7
    try clear w97
    revert a9 ra9 ma9
    try clear m9
    try clear w98
    try clear w99
    refine ?wayI
  intro b9 rb9 mb9 rb7 mb7 rd7 md7 Y ky hf
  clear C0 C1 C2 HBX hzw
  have hbV := hf.1
  replace HB : Hid (Below w.heap.size w _) := HB.out.trans (hbV.mono HB.out.size)
  replace HS : Hid (Bk _ _ _) := Bk.below HS.out hbV
  replace S : Hid (Below V.heap.size V _) := S.out.trans (hbV.mono S.out.size)
  replace SV : Hid (Bk _ _ _) := Bk.below SV.out hbV
  replace GV : Hid (Bk _ _ _) := Bk.below GV.out hbV
  replace GM : Hid (OGst _ _ _ _ _ _ _ _ _) := OGst.below GM.out hbV
  have HY : Hid (GSeg Y rb7 mb7 rs' n' D') := hf.2.2.1
  have YV : Hid (Bk _ _ _) := hf.2.1
  clear hbV hf
  have g0 := YV.out.cell 0 _ rfl
  have g1 := YV.out.cell 1 _ rfl
  have g2 := YV.out.cell 2 _ rfl
  have g3 := YV.out.cell 3 _ rfl
  have g4 := YV.out.cell 4 _ rfl
  have g5 := YV.out.cell 5 _ rfl
  have g6 := YV.out.cell 6 _ rfl
  have g7 := YV.out.cell 7 _ rfl
  have s0 := SV.out.cell 0 _ rfl
  have s1 := SV.out.cell 1 _ rfl
  have s2 := SV.out.cell 2 _ rfl
  have s3 := SV.out.cell 3 _ rfl
  have s4 := SV.out.cell 4 _ rfl
  have s5 := SV.out.cell 5 _ rfl
  have s6 := SV.out.cell 6 _ rfl
  have s7 := SV.out.cell 7 _ rfl
  go_wp2_with fail
  refine Calls.mono (eq_step pc' fa' op' to' wr' ca' rb7 ra7 mb7 ma7 rl' rd7 rc7 n' md7 mc7 rs' D' _ HY.out (GSeg.below S0.out S.out) HL'.out hr' hn' ht') ?_
  rintro u w13 ⟨rfl, hb13⟩
  clear g0 g1 g2 g3 g4 g5 g6 g7
  clear s0 s1 s2 s3 s4 s5 s6 s7
  replace HB : Hid (Below w.heap.size w _) := HB.out.trans (hb13.mono HB.out.size)
  replace HS : Hid (Bk _ _ _) := Bk.below HS.out hb13
  replace S : Hid (Below V.heap.size V _) := S.out.trans (hb13.mono S.out.size)
  replace SV : Hid (Bk _ _ _) := Bk.below SV.out hb13
  replace GV : Hid (Bk _ _ _) := Bk.below GV.out hb13
  replace GM : Hid (OGst _ _ _ _ _ _ _ _ _) := OGst.below GM.out hb13
  replace YV : Hid (Bk _ _ _) := Bk.below YV.out hb13
  clear hb13
  clear YV
  have g0 := GV.out.cell 0 _ rfl
  have g1 := GV.out.cell 1 _ rfl
  have g2 := GV.out.cell 2 _ rfl
  have g3 := GV.out.cell 3 _ rfl
  have g4 := GV.out.cell 4 _ rfl
  have g5 := GV.out.cell 5 _ rfl
  have g6 := GV.out.cell 6 _ rfl
  have g7 := GV.out.cell 7 _ rfl
  go_wp2_with fail
  refine Calls.mono (held_step pc' fa' op' to' wr' ca' rc4 n' mc4 1 rl' ra4 ma4 D' _ (OGst.seg GM.out) hr' hn' ht' (by omega)) ?_
  rintro u w14 ⟨rfl, hb14⟩
  rw [HK.out]
  clear g0 g1 g2 g3 g4 g5 g6 g7
  replace HB : Hid (Below w.heap.size w _) := HB.out.trans (hb14.mono HB.out.size)
  replace HS : Hid (Bk _ _ _) := Bk.below HS.out hb14
  replace S : Hid (Below V.heap.size V _) := S.out.trans (hb14.mono S.out.size)
  replace SV : Hid (Bk _ _ _) := Bk.below SV.out hb14
  replace GV : Hid (Bk _ _ _) := Bk.below GV.out hb14
  replace GM : Hid (OGst _ _ _ _ _ _ _ _ _) := OGst.below GM.out hb14
  clear hb14
  go_wp2
  go_ret
  exact ⟨rfl, HB.out⟩
end Go.Proofs.YtjlhkjiccibgdaaGreatDoor
