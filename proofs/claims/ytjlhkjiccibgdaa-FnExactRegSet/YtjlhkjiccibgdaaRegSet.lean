
/-
  At every guest, every number of a register and every word RegSet answers as its model, in memory of its own, and leaves its argument as it was: the law FnExactRegSet returns true and its arguments read as before. No conditions.
  Built over the program of the commit that COMMIT names.
-/
import Derived.Test.YtjlhkjiccibgdaaBas
import Derived.Test.YtjlhkjiccibgdaaRows
import Derived.WalkKit
import Derived.ProofKit
import Derived.OpenShut
import Derived.Below
import Derived.Carry
import Derived.Test.YtjlhkjiccibgdaaGop
import Derived.Test.YtjlhkjiccibgdaaGrg
import Derived.ShutString
namespace Go.Proofs.Ytjlhkjiccibgdaa.fnExactRegSet
open Go.ChangeShapes Go.WideShapes Go.ChangeAt Go.RowKit
set_option linter.unusedVariables false

theorem own : ownKnob Try.prog.godebug = none := by kernel_rfl

/-! ### The walk -/
set_option maxHeartbeats 8000000 in
theorem walk (ra ma : Option Addr) (rl rc n mc : Nat) (pc aN aX : Int) (rs : List Int) (D : Nat → List Int) (w : World) (hg : GIn w ra ma rs pc n D) (hrl : rs.length = rl) :
    Calls Try.prog 3 #[gst ra rl rc pc ma n mc, .int .i64 aN, .int .u32 aX] w fun e w' => e = .returned (.bool true) ∧ Below w.heap.size w w' := by
  have HG0 : Hid (GIn w ra ma rs pc n D ∧ rs.length = rl) := ⟨hg, hrl⟩
  have hrb : rl ≤ 9223372036854775807 := by have := hg.rlen; omega
  have hnb : n ≤ 9223372036854775807 := hg.nlen
  clear hg hrl
  have HB : Hid (Below w.heap.size w (w.alloc (.cells #[.slice ra rl rc, .int .u32 pc, .slice ma n mc] 26))) := (Below.refl _ w).alloc (Nat.le_refl _) _
  have HS : Hid (Bk _ _ _) := Bk.new w #[.slice ra rl rc, .int .u32 pc, .slice ma n mc] 26 w.heap.size rfl
  go_enter Try.func3, Try.ntmps3
  have c0 := HS.out.cell 0 _ rfl
  have c1 := HS.out.cell 1 _ rfl
  have c2 := HS.out.cell 2 _ rfl
  go_wp2_with fail
  refine Calls.mono (sz_guest pc ra ma rl rc n mc 1048576 D _ (HG0.out.1.seg.2.below HB.out) hrb hnb HG0.out.1.dlen (by omega)) ?_
  rintro u w1 ⟨⟨r, rfl, hr⟩, hb1⟩
  clear c0 c1 c2
  replace HB : Hid (Below w.heap.size w _) := HB.out.trans (hb1.mono HB.out.size)
  replace HS : Hid (Bk _ _ _) := Bk.below HS.out hb1
  clear hb1
  rcases hr with hr | ⟨hr, hr1, hn1, ht⟩
  · go_wp2
    go_ret
    exact ⟨rfl, HB.out⟩
  have hr0 : ¬ (r < 0) := by omega
  clear hrb hnb
  have HEG : Hid (∀ X, Below w.heap.size w X → Calls Try.prog 7 #[gst ra rl rc pc ma n mc] X fun e w' => ∃ ra' ma' m, e = .returned (gst ra' rl rl pc ma' n n) ∧ Below X.heap.size X w' ∧ OGst w' X.heap.size m w'.heap.size ra' ma' rs n D ∧ X.heap.size ≤ m ∧ m ≤ w'.heap.size) := fun X hX => to_guest pc ra ma rl rc n mc rs D X (XGSeg.below HG0.out.1.seg hX) HG0.out.2 hr1 hn1 ht
  have HQG : Hid (∀ (X : World) ra1 ra2 ma1 ma2, XGSeg X ra1 ma1 rs n D → XGSeg X ra2 ma2 rs n D → Calls Try.prog 9 #[gst ra1 rl rl pc ma1 n n, gst ra2 rl rl pc ma2 n n] X fun e w' => e = .returned (.bool true) ∧ Below X.heap.size X w') := fun X ra1 ra2 ma1 ma2 h1 h2 => eq_guest pc ra1 ra2 ma1 ma2 rl rl rl n n n rs D X h1 h2 HG0.out.2 hr1 hn1 ht
  obtain ⟨rs', rl', pc', n', D', hl', hr', hn', ht', hsp, him⟩ := rs_alike pc aX aN rl n rs D HG0.out.2 hr1 hn1 ht
  have HSP : Hid (∀ (X : World) ra1 ma1 c1 c2, XGSeg X ra1 ma1 rs n D → Calls Try.prog 6 #[gst ra1 rl c1 pc ma1 n c2, .int .i64 aN, .int .u32 aX] X (GAns X rs' rl' pc' n' D')) := hsp
  have HIM : Hid (∀ (X : World) ra1 ma1 c1 c2, XGSeg X ra1 ma1 rs n D → Calls Try.prog 8 #[gst ra1 rl c1 pc ma1 n c2, .int .i64 aN, .int .u32 aX] X (OAns X rs' rl' pc' n' D')) := him
  have HL' : Hid (rs'.length = rl') := hl'
  clear hsp him hl'
  have hz0 : w.heap.size < w1.heap.size := HS.out.lt
  have c0 := HS.out.cell 0 _ rfl
  have c1 := HS.out.cell 1 _ rfl
  have c2 := HS.out.cell 2 _ rfl
  go_wp2_with fail
  refine Calls.mono (HEG.out _ HB.out) ?_
  rintro u w2 ⟨ra2, ma2, m2, rfl, hb2, ho2, hm2, hn2⟩
  clear c0 c1 c2
  replace HB : Hid (Below w.heap.size w _) := HB.out.trans (hb2.mono HB.out.size)
  replace HS : Hid (Bk _ _ _) := Bk.below HS.out hb2
  have T : Hid (OGst _ _ _ _ _ _ _ _ _) := ho2
  clear hb2 ho2
  have hz2 : w1.heap.size ≤ w2.heap.size := by omega
  go_wp2_with fail
  refine Calls.mono (HSP.out _ ra2 ma2 rl n (OGst.seg T.out)) ?_
  rintro u w3 ⟨ra3, ma3, rc3, mc3, rfl, hb3, ho3⟩
  clear T
  have hz3 : w2.heap.size ≤ w3.heap.size := hb3.size
  have hal : Below w3.heap.size w3 (w3.alloc (.cells #[.slice ra3 rl' rc3, .int .u32 pc', .slice ma3 n' mc3] 28)) := (Below.refl _ _).alloc (Nat.le_refl _) _
  have hb3' := hb3.trans (hal.mono hb3.size)
  replace HB : Hid (Below w.heap.size w _) := HB.out.trans (hb3'.mono HB.out.size)
  replace HS : Hid (Bk _ _ _) := Bk.below HS.out hb3'
  have S0 : Hid (XGSeg w3 _ _ _ _ _) := ho3
  have S : Hid (Below _ _ _) := hal
  have SV : Hid (Bk _ _ _) := Bk.new w3 #[.slice ra3 rl' rc3, .int .u32 pc', .slice ma3 n' mc3] 28 w3.heap.size rfl
  clear hb3 hb3' hal ho3
  have c0 := HS.out.cell 0 _ rfl
  have c1 := HS.out.cell 1 _ rfl
  have c2 := HS.out.cell 2 _ rfl
  go_wp2_with fail
  refine Calls.mono (HEG.out _ HB.out) ?_
  rintro u w4 ⟨ra4, ma4, m4, rfl, hb4, ho4, hm4, hn4⟩
  clear c0 c1 c2
  have hal : Below w4.heap.size w4 (w4.alloc (.cells #[.slice ra4 rl rl, .int .u32 pc, .slice ma4 n n] 28)) := (Below.refl _ _).alloc (Nat.le_refl _) _
  have hb4' := hb4.trans (hal.mono hb4.size)
  replace HB : Hid (Below w.heap.size w _) := HB.out.trans (hb4'.mono HB.out.size)
  replace HS : Hid (Bk _ _ _) := Bk.below HS.out hb4'
  replace S : Hid (Below w3.heap.size w3 _) := S.out.trans (hb4'.mono S.out.size)
  replace SV : Hid (Bk _ _ _) := Bk.below SV.out hb4'
  have X0 : Hid (OGst _ _ _ _ _ _ _ _ _) := ho4.below hal
  have V0 : Hid (Bk _ _ _) := Bk.new w4 #[.slice ra4 rl rl, .int .u32 pc, .slice ma4 n n] 28 w4.heap.size rfl
  clear hb4 hb4' hal ho4
  have hz4 : w3.heap.size + 1 ≤ w4.heap.size := by have := hn4; have := hm4; simp at *; omega
  have v0 := V0.out.cell 0 _ rfl
  have v1 := V0.out.cell 1 _ rfl
  have v2 := V0.out.cell 2 _ rfl
  go_wp2_with fail
  refine Calls.mono (HIM.out _ ra4 ma4 rl n (OGst.seg X0.out)) ?_
  rintro u w5 ⟨ra5, ma5, rc5, mc5, m5, rfl, hb5, ho5, hm5, hn5⟩
  clear v0 v1 v2
  have hz5 : w4.heap.size + 1 ≤ w5.heap.size := by have := hb5.size; simp at this; omega
  simp only [World.size_alloc] at ho5 hm5
  have hal : Below w5.heap.size w5 (w5.alloc (.cells #[.slice ra5 rl' rc5, .int .u32 pc', .slice ma5 n' mc5] 28)) := (Below.refl _ _).alloc (Nat.le_refl _) _
  have hb5' := hb5.trans (hal.mono hb5.size)
  replace HB : Hid (Below w.heap.size w _) := HB.out.trans (hb5'.mono HB.out.size)
  replace HS : Hid (Bk _ _ _) := Bk.below HS.out hb5'
  replace S : Hid (Below w3.heap.size w3 _) := S.out.trans (hb5'.mono S.out.size)
  replace SV : Hid (Bk _ _ _) := Bk.below SV.out hb5'
  replace X0 : Hid (OGst _ _ _ _ _ _ _ _ _) := OGst.below X0.out hb5'
  replace V0 : Hid (Bk _ _ _) := Bk.below V0.out hb5'
  have G : Hid (OGst _ _ _ _ _ _ _ _ _) := ho5.below hal
  have GV : Hid (Bk _ _ _) := Bk.new w5 #[.slice ra5 rl' rc5, .int .u32 pc', .slice ma5 n' mc5] 28 w5.heap.size rfl
  clear hb5 hb5' hal ho5
  have g0 := GV.out.cell 0 _ rfl
  have g1 := GV.out.cell 1 _ rfl
  have g2 := GV.out.cell 2 _ rfl
  have s0 := SV.out.cell 0 _ rfl
  have s1 := SV.out.cell 1 _ rfl
  have s2 := SV.out.cell 2 _ rfl
  go_wp2_with fail
  refine Calls.mono (eq_guest pc' ra5 ra3 ma5 ma3 rl' rc5 rc3 n' mc5 mc3 rs' D' _ (OGst.seg G.out) (XGSeg.below S0.out S.out) HL'.out hr' hn' ht') ?_
  rintro u w6 ⟨rfl, hb6⟩
  clear g0 g1 g2
  clear s0 s1 s2
  replace HB : Hid (Below w.heap.size w _) := HB.out.trans (hb6.mono HB.out.size)
  replace HS : Hid (Bk _ _ _) := Bk.below HS.out hb6
  replace S : Hid (Below w3.heap.size w3 _) := S.out.trans (hb6.mono S.out.size)
  replace SV : Hid (Bk _ _ _) := Bk.below SV.out hb6
  replace X0 : Hid (OGst _ _ _ _ _ _ _ _ _) := OGst.below X0.out hb6
  replace V0 : Hid (Bk _ _ _) := Bk.below V0.out hb6
  replace G : Hid (OGst _ _ _ _ _ _ _ _ _) := OGst.below G.out hb6
  replace GV : Hid (Bk _ _ _) := Bk.below GV.out hb6
  clear hb6
  have c0 := HS.out.cell 0 _ rfl
  have c1 := HS.out.cell 1 _ rfl
  have c2 := HS.out.cell 2 _ rfl
  have v0 := V0.out.cell 0 _ rfl
  have v1 := V0.out.cell 1 _ rfl
  have v2 := V0.out.cell 2 _ rfl
  have hb : Below w6.heap.size w6 w6 := Below.refl _ _
  have HBX : Hid (∀ X, Below w6.heap.size w6 X → Below w.heap.size w X) := fun X hX => HB.out.trans (hX.mono HB.out.size)
  have HX1 : Hid (∀ X, Below w6.heap.size w6 X → XGSeg X ra4 ma4 rs n D) := fun X hX => XGSeg.below (OGst.seg X0.out) hX
  go_wp2
  go_region_held3 (fun w' => w'.cell? ⟨w.heap.size, 0, none⟩ = some (.slice ra rl rc) ∧ w'.cell? ⟨w.heap.size, 1, none⟩ = some (.int .u32 pc) ∧ w'.cell? ⟨w.heap.size, 2, none⟩ = some (.slice ma n mc) ∧ w'.cell? ⟨w4.heap.size, 0, none⟩ = some (.slice ra4 rl rl) ∧ w'.cell? ⟨w4.heap.size, 1, none⟩ = some (.int .u32 pc) ∧ w'.cell? ⟨w4.heap.size, 2, none⟩ = some (.slice ma4 n n)) (first | exact ⟨c0, c1, c2, v0, v1, v2⟩)
    (first | (go_at_call 7; refine Calls.mono (HEG.out _ (HBX.out _ (by first | exact hb | exact hb.drew))) ?_; rintro u w98 ⟨ra9, ma9, m9, rfl, hbb, hsG, hm91, hm92⟩; (first | replace hb := hb.trans (hbb.mono hb.size) | replace hb := hb.drew.trans (hbb.mono hb.drew.size)); replace c0 := kept_cell hbb c0; replace v0 := kept_cell hbb v0; replace c1 := kept_cell hbb c1; replace v1 := kept_cell hbb v1; replace c2 := kept_cell hbb c2; replace v2 := kept_cell hbb v2; clear hbb) | (go_at_call 9; refine Calls.mono (HQG.out _ ra4 ra9 ma4 ma9 (HX1.out _ (by first | exact hb | exact hb.drew)) (by first | exact OGst.seg hsG | exact XGSeg.below (OGst.seg hsG) (Below.refl _ _).drew)) ?_; rintro u w99 ⟨rfl, hbb⟩; (first | replace hb := hb.trans (hbb.mono hb.size) | replace hb := hb.drew.trans (hbb.mono hb.drew.size)); replace c0 := kept_cell hbb c0; replace v0 := kept_cell hbb v0; replace c1 := kept_cell hbb c1; replace v1 := kept_cell hbb v1; replace c2 := kept_cell hbb c2; replace v2 := kept_cell hbb v2; clear hbb hsG))
  have hbR := hb
  replace HB : Hid (Below w.heap.size w _) := HB.out.trans (hbR.mono HB.out.size)
  replace HS : Hid (Bk _ _ _) := Bk.below HS.out hbR
  replace S : Hid (Below w3.heap.size w3 _) := S.out.trans (hbR.mono S.out.size)
  replace SV : Hid (Bk _ _ _) := Bk.below SV.out hbR
  replace X0 : Hid (OGst _ _ _ _ _ _ _ _ _) := OGst.below X0.out hbR
  replace V0 : Hid (Bk _ _ _) := Bk.below V0.out hbR
  replace G : Hid (OGst _ _ _ _ _ _ _ _ _) := OGst.below G.out hbR
  replace GV : Hid (Bk _ _ _) := Bk.below GV.out hbR
  clear hb hbR HBX HX1 c0 c1 c2 v0 v1 v2
  have hz99 : w5.heap.size < w99.heap.size := GV.out.lt
  have v0 := V0.out.cell 0 _ rfl
  have v1 := V0.out.cell 1 _ rfl
  have v2 := V0.out.cell 2 _ rfl
  go_wp2_with fail
  refine Calls.mono (mark_guest pc (w3.heap.size + 1) m4 w4.heap.size rl n n 1 rl ra4 ma4 rs D _ (OGst.wide X0.out (by simp) (Nat.le_refl _)) HG0.out.2 hr1 hn1 ht (by omega) (by omega) (by have := hm4; simp at this; omega) hn4) ?_
  rintro u w7 ⟨rfl, hb7, ho7⟩
  clear v0 v1 v2
  clear X0
  replace HB : Hid (Below w.heap.size w _) := HB.out.trans (hb7.below (by omega) HB.out.size)
  replace HS : Hid (Bk _ _ _) := Bk.betw HS.out hb7 (.inl (by omega))
  replace S : Hid (Below w3.heap.size w3 _) := S.out.trans (hb7.below (by omega) S.out.size)
  replace SV : Hid (Bk _ _ _) := Bk.betw SV.out hb7 (.inl (by omega))
  replace V0 : Hid (Bk _ _ _) := Bk.betw V0.out hb7 (.inr (by omega))
  replace G : Hid (OGst _ _ _ _ _ _ _ _ _) := OGst.betw G.out hb7 (.inr (by omega)) (by omega) (by omega)
  replace GV : Hid (Bk _ _ _) := Bk.betw GV.out hb7 (.inr (by omega))
  clear hb7 ho7
  have hK0 : 1 + rl + btot D n ≤ 10000000 := by omega
  obtain ⟨K0, HK0⟩ : ∃ K, Hid (1 + rl + btot D n = K) := ⟨_, rfl⟩
  rw [HK0.out] at hK0 ⊢
  have hK0n : ¬ ((K0 : Int) < 0) := by omega
  have g0 := GV.out.cell 0 _ rfl
  have g1 := GV.out.cell 1 _ rfl
  have g2 := GV.out.cell 2 _ rfl
  have s0 := SV.out.cell 0 _ rfl
  have s1 := SV.out.cell 1 _ rfl
  have s2 := SV.out.cell 2 _ rfl
  go_wp2_with fail
  refine Calls.mono (eq_guest pc' ra5 ra3 ma5 ma3 rl' rc5 rc3 n' mc5 mc3 rs' D' _ (OGst.seg G.out) (XGSeg.below S0.out S.out) HL'.out hr' hn' ht') ?_
  rintro u w8 ⟨rfl, hb8⟩
  clear g0 g1 g2
  clear s0 s1 s2
  replace HB : Hid (Below w.heap.size w _) := HB.out.trans (hb8.mono HB.out.size)
  replace HS : Hid (Bk _ _ _) := Bk.below HS.out hb8
  replace S : Hid (Below w3.heap.size w3 _) := S.out.trans (hb8.mono S.out.size)
  replace SV : Hid (Bk _ _ _) := Bk.below SV.out hb8
  replace V0 : Hid (Bk _ _ _) := Bk.below V0.out hb8
  replace G : Hid (OGst _ _ _ _ _ _ _ _ _) := OGst.below G.out hb8
  replace GV : Hid (Bk _ _ _) := Bk.below GV.out hb8
  clear hb8
  have hz8 : w5.heap.size < w8.heap.size := GV.out.lt
  have g0 := GV.out.cell 0 _ rfl
  have g1 := GV.out.cell 1 _ rfl
  have g2 := GV.out.cell 2 _ rfl
  go_wp2_with fail
  refine Calls.mono (mark_guest pc' (w4.heap.size + 1) m5 w5.heap.size rc5 n' mc5 1 rl' ra5 ma5 rs' D' _ G.out HL'.out hr' hn' ht' (by omega) (by omega) hm5 hn5) ?_
  rintro u w9 ⟨rfl, hb9, ho9⟩
  clear g0 g1 g2
  clear G
  replace HB : Hid (Below w.heap.size w _) := HB.out.trans (hb9.below (by omega) HB.out.size)
  replace HS : Hid (Bk _ _ _) := Bk.betw HS.out hb9 (.inl (by omega))
  replace S : Hid (Below w3.heap.size w3 _) := S.out.trans (hb9.below (by omega) S.out.size)
  replace SV : Hid (Bk _ _ _) := Bk.betw SV.out hb9 (.inl (by omega))
  replace V0 : Hid (Bk _ _ _) := Bk.betw V0.out hb9 (.inl (by omega))
  replace GV : Hid (Bk _ _ _) := Bk.betw GV.out hb9 (.inr (by omega))
  have GM : Hid (OGst _ _ _ _ _ _ _ _ _) := ho9
  clear hb9 ho9
  have hK : 1 + rl' + btot D' n' ≤ 10000000 := by omega
  obtain ⟨K, HK⟩ : ∃ K, Hid (1 + rl' + btot D' n' = K) := ⟨_, rfl⟩
  rw [HK.out] at hK ⊢
  have hKn : ¬ ((K : Int) < 0) := by omega
  have g0 := GV.out.cell 0 _ rfl
  have g1 := GV.out.cell 1 _ rfl
  have g2 := GV.out.cell 2 _ rfl
  go_wp2_with fail
  refine Calls.mono (held_guest pc' rc5 n' mc5 1 rl' ra5 ma5 D' _ (OGst.seg GM.out) hr' hn' ht' (by omega)) ?_
  rintro u w10 ⟨rfl, hb10⟩
  rw [HK.out]
  clear g0 g1 g2
  replace HB : Hid (Below w.heap.size w _) := HB.out.trans (hb10.mono HB.out.size)
  replace HS : Hid (Bk _ _ _) := Bk.below HS.out hb10
  replace S : Hid (Below w3.heap.size w3 _) := S.out.trans (hb10.mono S.out.size)
  replace SV : Hid (Bk _ _ _) := Bk.below SV.out hb10
  replace V0 : Hid (Bk _ _ _) := Bk.below V0.out hb10
  replace GV : Hid (Bk _ _ _) := Bk.below GV.out hb10
  replace GM : Hid (OGst _ _ _ _ _ _ _ _ _) := OGst.below GM.out hb10
  clear hb10
  have c0 := HS.out.cell 0 _ rfl
  have c1 := HS.out.cell 1 _ rfl
  have c2 := HS.out.cell 2 _ rfl
  go_wp2_with fail
  refine Calls.mono (HEG.out _ HB.out) ?_
  rintro u w11 ⟨ra11, ma11, m11, rfl, hb11, ho11, hm11, hn11⟩
  clear c0 c1 c2
  replace HB : Hid (Below w.heap.size w _) := HB.out.trans (hb11.mono HB.out.size)
  replace HS : Hid (Bk _ _ _) := Bk.below HS.out hb11
  replace S : Hid (Below w3.heap.size w3 _) := S.out.trans (hb11.mono S.out.size)
  replace SV : Hid (Bk _ _ _) := Bk.below SV.out hb11
  replace V0 : Hid (Bk _ _ _) := Bk.below V0.out hb11
  replace GV : Hid (Bk _ _ _) := Bk.below GV.out hb11
  replace GM : Hid (OGst _ _ _ _ _ _ _ _ _) := OGst.below GM.out hb11
  have T : Hid (OGst _ _ _ _ _ _ _ _ _) := ho11
  clear hb11 ho11
  go_wp2_with fail
  refine Calls.mono (HIM.out _ ra11 ma11 rl n (OGst.seg T.out)) ?_
  rintro u w12 ⟨ra12, ma12, rc12, mc12, m12, rfl, hb12, ho12, hm12, hn12⟩
  clear T
  have hal : Below w12.heap.size w12 (w12.alloc (.cells #[.slice ra12 rl' rc12, .int .u32 pc', .slice ma12 n' mc12] 28)) := (Below.refl _ _).alloc (Nat.le_refl _) _
  have hb12' := hb12.trans (hal.mono hb12.size)
  replace HB : Hid (Below w.heap.size w _) := HB.out.trans (hb12'.mono HB.out.size)
  replace HS : Hid (Bk _ _ _) := Bk.below HS.out hb12'
  replace S : Hid (Below w3.heap.size w3 _) := S.out.trans (hb12'.mono S.out.size)
  replace SV : Hid (Bk _ _ _) := Bk.below SV.out hb12'
  replace V0 : Hid (Bk _ _ _) := Bk.below V0.out hb12'
  replace GV : Hid (Bk _ _ _) := Bk.below GV.out hb12'
  replace GM : Hid (OGst _ _ _ _ _ _ _ _ _) := OGst.below GM.out hb12'
  have H : Hid (OGst _ _ _ _ _ _ _ _ _) := ho12.below hal
  have HV : Hid (Bk _ _ _) := Bk.new w12 #[.slice ra12 rl' rc12, .int .u32 pc', .slice ma12 n' mc12] 28 w12.heap.size rfl
  clear hb12 hb12' hal ho12
  have g0 := HV.out.cell 0 _ rfl
  have g1 := HV.out.cell 1 _ rfl
  have g2 := HV.out.cell 2 _ rfl
  have s0 := SV.out.cell 0 _ rfl
  have s1 := SV.out.cell 1 _ rfl
  have s2 := SV.out.cell 2 _ rfl
  go_wp2_with fail
  refine Calls.mono (eq_guest pc' ra12 ra3 ma12 ma3 rl' rc12 rc3 n' mc12 mc3 rs' D' _ (OGst.seg H.out) (XGSeg.below S0.out S.out) HL'.out hr' hn' ht') ?_
  rintro u w13 ⟨rfl, hb13⟩
  clear g0 g1 g2
  clear s0 s1 s2
  replace HB : Hid (Below w.heap.size w _) := HB.out.trans (hb13.mono HB.out.size)
  replace HS : Hid (Bk _ _ _) := Bk.below HS.out hb13
  replace S : Hid (Below w3.heap.size w3 _) := S.out.trans (hb13.mono S.out.size)
  replace SV : Hid (Bk _ _ _) := Bk.below SV.out hb13
  replace V0 : Hid (Bk _ _ _) := Bk.below V0.out hb13
  replace GV : Hid (Bk _ _ _) := Bk.below GV.out hb13
  replace GM : Hid (OGst _ _ _ _ _ _ _ _ _) := OGst.below GM.out hb13
  replace H : Hid (OGst _ _ _ _ _ _ _ _ _) := OGst.below H.out hb13
  replace HV : Hid (Bk _ _ _) := Bk.below HV.out hb13
  clear hb13
  clear H
  clear HV
  have g0 := GV.out.cell 0 _ rfl
  have g1 := GV.out.cell 1 _ rfl
  have g2 := GV.out.cell 2 _ rfl
  go_wp2_with fail
  refine Calls.mono (held_guest pc' rc5 n' mc5 1 rl' ra5 ma5 D' _ (OGst.seg GM.out) hr' hn' ht' (by omega)) ?_
  rintro u w14 ⟨rfl, hb14⟩
  rw [HK.out]
  clear g0 g1 g2
  replace HB : Hid (Below w.heap.size w _) := HB.out.trans (hb14.mono HB.out.size)
  replace HS : Hid (Bk _ _ _) := Bk.below HS.out hb14
  replace S : Hid (Below w3.heap.size w3 _) := S.out.trans (hb14.mono S.out.size)
  replace SV : Hid (Bk _ _ _) := Bk.below SV.out hb14
  replace V0 : Hid (Bk _ _ _) := Bk.below V0.out hb14
  replace GV : Hid (Bk _ _ _) := Bk.below GV.out hb14
  replace GM : Hid (OGst _ _ _ _ _ _ _ _ _) := OGst.below GM.out hb14
  clear hb14
  go_wp2
  go_ret
  exact ⟨rfl, HB.out⟩

/-! ### The row -/
set_option maxRecDepth 100000 in
theorem lifted (os : Os) (started : os.Started) (H : Type) (enc : TypeId × Value → H) :
    ReturnsInHanded {} Try.checked os 3 .any (Rows.fnExactRegSetSpec.pre6 enc Try.prog Try.f3 Rows.fnExactRegSetRow.domain false) (Rows.fnExactRegSetSpec.post enc Try.prog Try.f3 false true false false) := by
  refine returnsInHanded_of_change (C := Try.checked) own started (by kernel_rfl) Try.func3
    (ChangeSpec.witness6 (enc := enc) (C := Try.checked) false ⟨#[], #[gst none 0 0 0 none 0 0, .int .i64 0, .int .u32 0], []⟩ 8 (by kernel_rfl) (by kernel_rfl) (by kernel_rfl) (by kernel_rfl)) ?_
  intro W base args ds gs before hval0 hW hcnd _
  have hval : ∀ (j : Nat) t v, Try.f3.params[j]? = some t → args[j]? = some v → Value.okWide Try.prog W .any base t v := hval0
  have hW' := hW
  obtain ⟨p, q, hA0, hV, rfl, hfz, hnd⟩ := hW
  have hA : DataW.TrodAll enc Try.prog W 0 (fun _ => true) true Try.f3.params.toList args.toList ds p := hA0
  rw [Try.params3] at hA hval
  obtain ⟨v0, vs0, d0, ds0, p0, q0, hargs, rfl, rfl, h0, r0⟩ := trodAll_cons hA
  obtain ⟨v1, vs1, d1, ds1, p1, q1, rfl, rfl, rfl, h1, r1⟩ := trodAll_cons r0
  obtain ⟨v2, vs2, d2, ds2, p2, q2, rfl, rfl, rfl, h2, r2⟩ := trodAll_cons r1
  obtain ⟨rfl, rfl, rfl⟩ := trodAll_nil r2
  obtain rfl : args = #[v0, v1, v2] := by cases args; simp_all
  obtain ⟨rfl, rfl⟩ := trodVars_none hV
  have k0 := h0
  have lt0 : ∀ x ∈ p0, x.block < W.heap.size := by obtain ⟨m, hm⟩ := k0; exact DataW.trod_lt m _ _ _ hm
  have k1 := h1
  have lt1 : ∀ x ∈ p1, x.block < W.heap.size := by obtain ⟨m, hm⟩ := k1; exact DataW.trod_lt m _ _ _ hm
  have k2 := h2
  have lt2 : ∀ x ∈ p2, x.block < W.heap.size := by obtain ⟨m, hm⟩ := k2; exact DataW.trod_lt m _ _ _ hm
  obtain ⟨ra, rs, rc, pc, ma, n, mc, D, rfl, hg⟩ := guest_arg (hval 0 26 v0 rfl rfl) h0
  obtain ⟨aN, rfl, rfl, rfl, w1⟩ := open_int Try.underlying3 (hval 1 3 v1 rfl rfl) h1
  obtain ⟨aX, rfl, rfl, rfl, w2⟩ := open_int Try.underlying23 (hval 2 23 v2 rfl rfl) h2
  clear hA0 hval0
  refine (walk ra ma rs.length rc n mc pc aN aX rs D W hg rfl).mono fun e W' ⟨he, bel⟩ => ?_
  subst he
  exact ⟨_, rfl, _, _, _, [], _, [], hW', (trodAll_cons_mk (shut_bool Try.underlying4 _) trodAll_mk0), (trodAll_cons_mk (Below.trod laidOut (by kernel_rfl) (of_decide_eq_true (by kernel_rfl)) k0 bel lt0) (trodAll_cons_mk (Below.trod laidOut (by kernel_rfl) (of_decide_eq_true (by kernel_rfl)) k1 bel lt1) (trodAll_cons_mk (Below.trod laidOut (by kernel_rfl) (of_decide_eq_true (by kernel_rfl)) k2 bel lt2) trodAll_mk0))), rfl, bel.frame _, fun h => by cases h⟩

theorem over : Rows.fnExactRegSetRow.holds Try.pinned (OpenSpec.ofChange Rows.fnExactRegSetSpec) :=
  OpenClaim.holds_of_wide 3 Try.f3 rfl rfl rfl rfl rfl rfl rfl ⟨rfl, rfl, rfl, rfl, rfl⟩ rfl rfl rfl rfl rfl (by kernel_rfl) Try.func3 (by kernel_rfl)
    (of_decide_eq_true (by kernel_rfl)) (by unfold Func.isWrapper; first | (rw [if_pos (by decide +kernel)]; kernel_rfl) | (rw [if_neg (by decide +kernel)]; exact ⟨rfl, rfl⟩))
    (fun os started H enc _ => lifted os started H enc)

end Go.Proofs.Ytjlhkjiccibgdaa.fnExactRegSet
namespace Go.Proofs.Ytjlhkjiccibgdaa
theorem FnExactRegSet_holds : Rows.FnExactRegSetSaid := fnExactRegSet.over
end Go.Proofs.Ytjlhkjiccibgdaa
