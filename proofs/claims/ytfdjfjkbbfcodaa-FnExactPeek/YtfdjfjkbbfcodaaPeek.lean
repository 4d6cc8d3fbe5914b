
/-
  At every list of windows, every guest, address and size Peek answers as its model: the law FnExactPeek returns true and its arguments read as before. No conditions.
  Built over the program of the commit that COMMIT names.
-/
import Derived.Test.YtfdjfjkbbfcodaaBas
import Derived.Test.YtfdjfjkbbfcodaaRows
import Derived.WalkKit
import Derived.ProofKit
import Derived.OpenShut
import Derived.Below
import Derived.Carry
import Derived.Test.YtfdjfjkbbfcodaaGop
import Derived.Test.YtfdjfjkbbfcodaaRdh
import Derived.ShutString
namespace Go.Proofs.Ytfdjfjkbbfcodaa.fnExactPeek
open Go.ChangeShapes Go.WideShapes Go.ChangeAt Go.RowKit
set_option linter.unusedVariables false

theorem own : ownKnob Try.prog.godebug = none := by kernel_rfl

/-! ### The walk -/
set_option maxHeartbeats 8000000 in
theorem walk (a ra ma : Option Addr) (cap wn rl rc n mc : Nat) (pc aAddr aSize : Int) (xs : List Wn) (rs : List Int) (D : Nat → List Int) (w : World) (hs : ASeg w a xs) (hf : Fit xs) (hl : xs.length = wn) (hn : wn ≤ 9223372036854775807) (hg : GIn w ra ma rs pc n D) (hrl : rs.length = rl) (had : 0 ≤ aAddr ∧ aAddr < 4294967296) :
    Calls Try.prog 10 #[.slice a wn cap, gst ra rl rc pc ma n mc, .int .u32 aAddr, .int .i64 aSize] w fun e w' => e = .returned (.bool true) ∧ Below w.heap.size w w' := by
  have HAD0 : Hid (0 ≤ aAddr ∧ aAddr < 4294967296) := had
  clear had
  have HG0 : Hid (GIn w ra ma rs pc n D ∧ rs.length = rl) := ⟨hg, hrl⟩
  have hrb : rl ≤ 9223372036854775807 := by have := hg.rlen; omega
  have hnb : n ≤ 9223372036854775807 := hg.nlen
  have HS0 : Hid (ASeg w a xs ∧ xs.length = wn) := ⟨hs, hl⟩
  clear hs hl
  clear hg hrl
  have HB : Hid (Below w.heap.size w (w.alloc (.cells #[.slice ra rl rc, .int .u32 pc, .slice ma n mc] 39))) := (Below.refl _ w).alloc (Nat.le_refl _) _
  have HS : Hid (Bk _ _ _) := Bk.new w #[.slice ra rl rc, .int .u32 pc, .slice ma n mc] 39 w.heap.size rfl
  go_enter Try.func10, Try.ntmps10
  go_wp2_with fail
  refine Calls.mono (sz_wins a cap wn 1048576 _ hn (Nat.le_refl _)) ?_
  rintro u w0 ⟨⟨r, rfl, hr⟩, rfl⟩
  rcases hr with hr | ⟨hr, hbig⟩
  · go_wp2
    go_ret
    exact ⟨rfl, HB.out⟩
  have hr0 : ¬ (((1048576 - wn : Nat) : Int) < 0) := by omega
  obtain ⟨M, HM⟩ : ∃ M, Hid (1048576 - wn = M) := ⟨_, rfl⟩
  rw [HM.out] at hr hr0
  subst hr
  have hM : M ≤ 1048576 := by have := HM.out; omega
  have c0 := HS.out.cell 0 _ rfl
  have c1 := HS.out.cell 1 _ rfl
  have c2 := HS.out.cell 2 _ rfl
  go_wp2_with fail
  refine Calls.mono (sz_guest pc ra ma rl rc n mc M D _ (HG0.out.1.seg.2.below HB.out) hrb hnb HG0.out.1.dlen (by omega)) ?_
  rintro u w1 ⟨⟨r, rfl, hr⟩, hb1⟩
  clear c0 c1 c2
  replace HB : Hid (Below w.heap.size w _) := HB.out.trans (hb1.mono HB.out.size)
  replace HS : Hid (Bk _ _ _) := Bk.below HS.out hb1
  clear hb1
  rcases hr with hr | ⟨hr, hr1, hn1, ht⟩
  · go_wp2
    go_ret
    exact ⟨rfl, HB.out⟩
  have hr0 : ¬ (r < 0) := by omega
  clear hrb hnb
  have HEW : Hid (∀ X, Below w.heap.size w X → Calls Try.prog 16 #[.slice a wn cap] X fun e w' => ∃ a', e = .returned (.slice a' wn wn) ∧ Below X.heap.size X w' ∧ AI w' X.heap.size w'.heap.size a' xs) := fun X hX => (to_wins a cap wn xs X (ASeg.below HS0.out.1 hX) HS0.out.2 hbig).mono fun e w' h => ⟨_, h.1, h.2.1, h.2.2.ai HS0.out.2 _ _ (Nat.le_refl _) h.2.2.lt⟩
  have HQW : Hid (∀ (X : World) a1 a2, ASeg X a1 xs → ASeg X a2 xs → Calls Try.prog 18 #[.slice a1 wn wn, .slice a2 wn wn] X fun e w' => e = .returned (.bool true) ∧ Below X.heap.size X w') := fun X a1 a2 h1 h2 => eq_accs a1 a2 wn wn wn xs X h1 h2 HS0.out.2 hbig
  have HEG : Hid (∀ X, Below w.heap.size w X → Calls Try.prog 31 #[gst ra rl rc pc ma n mc] X fun e w' => ∃ ra' ma' m, e = .returned (gst ra' rl rl pc ma' n n) ∧ Below X.heap.size X w' ∧ OGst w' X.heap.size m w'.heap.size ra' ma' rs n D ∧ X.heap.size ≤ m ∧ m ≤ w'.heap.size) := fun X hX => to_guest pc ra ma rl rc n mc rs D X (XGSeg.below HG0.out.1.seg hX) HG0.out.2 hr1 hn1 ht
  have HQG : Hid (∀ (X : World) ra1 ra2 ma1 ma2, XGSeg X ra1 ma1 rs n D → XGSeg X ra2 ma2 rs n D → Calls Try.prog 33 #[gst ra1 rl rl pc ma1 n n, gst ra2 rl rl pc ma2 n n] X fun e w' => e = .returned (.bool true) ∧ Below X.heap.size X w') := fun X ra1 ra2 ma1 ma2 h1 h2 => eq_guest pc ra1 ra2 ma1 ma2 rl rl rl n n n rs D X h1 h2 HG0.out.2 hr1 hn1 ht
  obtain ⟨q, hq⟩ := told (GOk xs rs n D)
  obtain ⟨v, r, hrd⟩ := RdA.ex hq aAddr aSize 1
  have hadx : 0 ≤ aAddr ∧ aAddr < 4294967296 := HAD0.out
  have HSP : Hid (∀ (X : World) a1 ra1 ma1, ASeg X a1 xs → XGSeg X ra1 ma1 rs n D → Calls Try.prog 38 #[.slice a1 wn wn, gst ra1 rl rl pc ma1 n n, .int .u32 aAddr, .int .i64 aSize] X fun e w' => e = .returned (.tuple #[.int .u32 v, .int .i64 r]) ∧ Below X.heap.size X w') := fun X a1 ra1 ma1 h1 h2 => spec_peek a1 ra1 ma1 wn wn rl rl n n pc aAddr aSize v r xs rs D q X h1 hf HS0.out.2 (by omega) (Nat.le_refl _) h2 HG0.out.2 hq hrd HG0.out.1.bytes hadx
  have HIM : Hid (∀ (X : World) a1 ra1 ma1, ASeg X a1 xs → XGSeg X ra1 ma1 rs n D → Calls Try.prog 39 #[.slice a1 wn wn, gst ra1 rl rl pc ma1 n n, .int .u32 aAddr, .int .i64 aSize] X fun e w' => e = .returned (.tuple #[.int .u32 v, .int .i64 r]) ∧ Below X.heap.size X w') := fun X a1 ra1 ma1 h1 h2 => impl_peek a1 ra1 ma1 wn wn rl rl n n pc aAddr aSize v r xs rs D q X h1 hf HS0.out.2 (by omega) (Nat.le_refl _) h2 HG0.out.2 hq hrd HG0.out.1.bytes hadx
  clear hf hq hrd hadx
  have hb : Below w1.heap.size w1 w1 := Below.refl _ _
  have HBX : Hid (∀ X, Below w1.heap.size w1 X → Below w.heap.size w X) := fun X hX => HB.out.trans (hX.mono HB.out.size)
  have c0 := HS.out.cell 0 _ rfl
  have c1 := HS.out.cell 1 _ rfl
  have c2 := HS.out.cell 2 _ rfl
  go_wp2
  go_region_held3 (fun w' => w'.cell? ⟨w.heap.size, 0, none⟩ = some (.slice ra rl rc) ∧ w'.cell? ⟨w.heap.size, 1, none⟩ = some (.int .u32 pc) ∧ w'.cell? ⟨w.heap.size, 2, none⟩ = some (.slice ma n mc)) (first | exact ⟨c0, c1, c2⟩)
    (first | (go_at_call 16; refine Calls.mono (HEW.out _ (HBX.out _ (by first | exact hb | exact hb.drew))) ?_; rintro u w9 ⟨a9, rfl, hbb, hsW⟩; (first | replace hb := hb.trans (hbb.mono hb.size) | replace hb := hb.drew.trans (hbb.mono hb.drew.size)); replace c0 := kept_cell hbb c0; replace c1 := kept_cell hbb c1; replace c2 := kept_cell hbb c2; (try replace hsG := og_kept hbb hsG); clear hbb) | (go_at_call 31; refine Calls.mono (HEG.out _ (HBX.out _ (by first | exact hb | exact hb.drew))) ?_; rintro u w8 ⟨ra9, ma9, m9, rfl, hbb, hsG, hm91, hm92⟩; (first | replace hb := hb.trans (hbb.mono hb.size) | replace hb := hb.drew.trans (hbb.mono hb.drew.size)); replace c0 := kept_cell hbb c0; replace c1 := kept_cell hbb c1; replace c2 := kept_cell hbb c2; (try replace hsW := ai_kept hbb hsW); clear hbb) | (go_at_call 38; refine Calls.mono (HSP.out _ a9 ra9 ma9 (by first | exact AI.seg hsW | exact ASeg.below (AI.seg hsW) (Below.refl _ _).drew) (by first | exact OGst.seg hsG | exact XGSeg.below (OGst.seg hsG) (Below.refl _ _).drew)) ?_; rintro u w7 ⟨rfl, hbb⟩; (first | replace hb := hb.trans (hbb.mono hb.size) | replace hb := hb.drew.trans (hbb.mono hb.drew.size)); replace c0 := kept_cell hbb c0; replace c1 := kept_cell hbb c1; replace c2 := kept_cell hbb c2; clear hbb hsW hsG))
  have hbR := hb
  replace HB : Hid (Below w.heap.size w _) := HB.out.trans (hbR.mono HB.out.size)
  replace HS : Hid (Bk _ _ _) := Bk.below HS.out hbR
  clear hb hbR HBX c0 c1 c2
  have c0 := HS.out.cell 0 _ rfl
  have c1 := HS.out.cell 1 _ rfl
  have c2 := HS.out.cell 2 _ rfl
  go_wp2_with fail
  refine Calls.mono (HEW.out _ HB.out) ?_
  rintro u w10 ⟨a10, rfl, hb10, ho10⟩
  replace HB : Hid (Below w.heap.size w _) := HB.out.trans (hb10.mono HB.out.size)
  replace HS : Hid (Bk _ _ _) := Bk.below HS.out hb10
  have X0 : Hid (AI _ _ _ _ _) := ho10
  clear hb10 ho10 c0 c1 c2
  have c0 := HS.out.cell 0 _ rfl
  have c1 := HS.out.cell 1 _ rfl
  have c2 := HS.out.cell 2 _ rfl
  go_wp2_with fail
  refine Calls.mono (HEG.out _ HB.out) ?_
  rintro u w11 ⟨ra11, ma11, m11, rfl, hb11, ho11, hm11, hm12⟩
  have hal : Below w11.heap.size w11 (w11.alloc (.cells #[.slice ra11 rl rl, .int .u32 pc, .slice ma11 n n] 42)) := (Below.refl _ _).alloc (Nat.le_refl _) _
  have hb11' := hb11.trans (hal.mono hb11.size)
  replace HB : Hid (Below w.heap.size w _) := HB.out.trans (hb11'.mono HB.out.size)
  replace HS : Hid (Bk _ _ _) := Bk.below HS.out hb11'
  replace X0 : Hid (AI _ _ _ _ _) := AI.below X0.out hb11'
  have X1 : Hid (OGst _ _ _ _ _ _ _ _ _) := ho11.below hal
  have V1 : Hid (Bk _ _ _) := Bk.new w11 #[.slice ra11 rl rl, .int .u32 pc, .slice ma11 n n] 42 w11.heap.size rfl
  clear hb11 hb11' hal ho11 c0 c1 c2
  have v0 := V1.out.cell 0 _ rfl
  have v1 := V1.out.cell 1 _ rfl
  have v2 := V1.out.cell 2 _ rfl
  go_wp2_with fail
  refine Calls.mono (HIM.out _ a10 ra11 ma11 (AI.seg X0.out) (OGst.seg X1.out)) ?_
  rintro u w12 ⟨rfl, hb12⟩
  replace HB : Hid (Below w.heap.size w _) := HB.out.trans (hb12.mono HB.out.size)
  replace HS : Hid (Bk _ _ _) := Bk.below HS.out hb12
  replace X0 : Hid (AI _ _ _ _ _) := AI.below X0.out hb12
  replace X1 : Hid (OGst _ _ _ _ _ _ _ _ _) := OGst.below X1.out hb12
  replace V1 : Hid (Bk _ _ _) := Bk.below V1.out hb12
  clear hb12 v0 v1 v2
  go_wp2_with fail
  refine Calls.mono (HEW.out _ HB.out) ?_
  rintro u w13 ⟨a13, rfl, hb13, ho13⟩
  replace HB : Hid (Below w.heap.size w _) := HB.out.trans (hb13.mono HB.out.size)
  replace HS : Hid (Bk _ _ _) := Bk.below HS.out hb13
  replace X0 : Hid (AI _ _ _ _ _) := AI.below X0.out hb13
  replace X1 : Hid (OGst _ _ _ _ _ _ _ _ _) := OGst.below X1.out hb13
  replace V1 : Hid (Bk _ _ _) := Bk.below V1.out hb13
  have X2 : Hid (AI _ _ _ _ _) := ho13
  clear hb13 ho13
  go_wp2_with fail
  refine Calls.mono (HQW.out _ a10 a13 (AI.seg X0.out) (AI.seg X2.out)) ?_
  rintro u w14 ⟨rfl, hb14⟩
  replace HB : Hid (Below w.heap.size w _) := HB.out.trans (hb14.mono HB.out.size)
  replace HS : Hid (Bk _ _ _) := Bk.below HS.out hb14
  replace X0 : Hid (AI _ _ _ _ _) := AI.below X0.out hb14
  replace X1 : Hid (OGst _ _ _ _ _ _ _ _ _) := OGst.below X1.out hb14
  replace V1 : Hid (Bk _ _ _) := Bk.below V1.out hb14
  replace X2 : Hid (AI _ _ _ _ _) := AI.below X2.out hb14
  clear hb14
  clear X2
  have c0 := HS.out.cell 0 _ rfl
  have c1 := HS.out.cell 1 _ rfl
  have c2 := HS.out.cell 2 _ rfl
  have v0 := V1.out.cell 0 _ rfl
  have v1 := V1.out.cell 1 _ rfl
  have v2 := V1.out.cell 2 _ rfl
  have hb : Below w14.heap.size w14 w14 := Below.refl _ _
  have HBX : Hid (∀ X, Below w14.heap.size w14 X → Below w.heap.size w X) := fun X hX => HB.out.trans (hX.mono HB.out.size)
  have HX1 : Hid (∀ X, Below w14.heap.size w14 X → XGSeg X ra11 ma11 rs n D) := fun X hX => XGSeg.below (OGst.seg X1.out) hX
  go_wp2
  go_region_held3 (fun w' => w'.cell? ⟨w.heap.size, 0, none⟩ = some (.slice ra rl rc) ∧ w'.cell? ⟨w.heap.size, 1, none⟩ = some (.int .u32 pc) ∧ w'.cell? ⟨w.heap.size, 2, none⟩ = some (.slice ma n mc) ∧ w'.cell? ⟨w11.heap.size, 0, none⟩ = some (.slice ra11 rl rl) ∧ w'.cell? ⟨w11.heap.size, 1, none⟩ = some (.int .u32 pc) ∧ w'.cell? ⟨w11.heap.size, 2, none⟩ = some (.slice ma11 n n)) (first | exact ⟨c0, c1, c2, v0, v1, v2⟩)
    (first | (go_at_call 31; refine Calls.mono (HEG.out _ (HBX.out _ (by first | exact hb | exact hb.drew))) ?_; rintro u w18 ⟨ra9, ma9, m9, rfl, hbb, hsG, hm91, hm92⟩; (first | replace hb := hb.trans (hbb.mono hb.size) | replace hb := hb.drew.trans (hbb.mono hb.drew.size)); replace c0 := kept_cell hbb c0; replace v0 := kept_cell hbb v0; replace c1 := kept_cell hbb c1; replace v1 := kept_cell hbb v1; replace c2 := kept_cell hbb c2; replace v2 := kept_cell hbb v2; clear hbb) | (go_at_call 33; refine Calls.mono (HQG.out _ ra11 ra9 ma11 ma9 (HX1.out _ (by first | exact hb | exact hb.drew)) (by first | exact OGst.seg hsG | exact XGSeg.below (OGst.seg hsG) (Below.refl _ _).drew)) ?_; rintro u w19 ⟨rfl, hbb⟩; (first | replace hb := hb.trans (hbb.mono hb.size) | replace hb := hb.drew.trans (hbb.mono hb.drew.size)); replace c0 := kept_cell hbb c0; replace v0 := kept_cell hbb v0; replace c1 := kept_cell hbb c1; replace v1 := kept_cell hbb v1; replace c2 := kept_cell hbb c2; replace v2 := kept_cell hbb v2; clear hbb hsG))
  have hbR := hb
  replace HB : Hid (Below w.heap.size w _) := HB.out.trans (hbR.mono HB.out.size)
  replace HS : Hid (Bk _ _ _) := Bk.below HS.out hbR
  replace X0 : Hid (AI _ _ _ _ _) := AI.below X0.out hbR
  replace X1 : Hid (OGst _ _ _ _ _ _ _ _ _) := OGst.below X1.out hbR
  replace V1 : Hid (Bk _ _ _) := Bk.below V1.out hbR
  clear hb hbR HBX HX1 c0 c1 c2 v0 v1 v2
  go_wp2
  go_ret
  exact ⟨rfl, HB.out⟩

/-! ### The row -/
set_option maxRecDepth 100000 in
theorem lifted (os : Os) (started : os.Started) (H : Type) (enc : TypeId × Value → H) :
    ReturnsInHanded {} Try.checked os 10 .any (Rows.fnExactPeekSpec.pre6 enc Try.prog Try.f10 Rows.fnExactPeekRow.domain false) (Rows.fnExactPeekSpec.post enc Try.prog Try.f10 false true false false) := by
  refine returnsInHanded_of_change (C := Try.checked) own started (by kernel_rfl) Try.func10
    (ChangeSpec.witness6 (enc := enc) (C := Try.checked) false ⟨#[], #[.slice none 0 0, gst none 0 0 0 none 0 0, .int .u32 0, .int .i64 0], []⟩ 8 (by kernel_rfl) (by kernel_rfl) (by kernel_rfl) (by kernel_rfl)) ?_
  intro W base args ds gs before hval0 hW hcnd _
  have hval : ∀ (j : Nat) t v, Try.f10.params[j]? = some t → args[j]? = some v → Value.okWide Try.prog W .any base t v := hval0
  have hW' := hW
  obtain ⟨p, q, hA0, hV, rfl, hfz, hnd⟩ := hW
  have hA : DataW.TrodAll enc Try.prog W 0 (fun _ => true) true Try.f10.params.toList args.toList ds p := hA0
  rw [Try.params10] at hA hval
  obtain ⟨v0, vs0, d0, ds0, p0, q0, hargs, rfl, rfl, h0, r0⟩ := trodAll_cons hA
  obtain ⟨v1, vs1, d1, ds1, p1, q1, rfl, rfl, rfl, h1, r1⟩ := trodAll_cons r0
  obtain ⟨v2, vs2, d2, ds2, p2, q2, rfl, rfl, rfl, h2, r2⟩ := trodAll_cons r1
  obtain ⟨v3, vs3, d3, ds3, p3, q3, rfl, rfl, rfl, h3, r3⟩ := trodAll_cons r2
  obtain ⟨rfl, rfl, rfl⟩ := trodAll_nil r3
  obtain rfl : args = #[v0, v1, v2, v3] := by cases args; simp_all
  obtain ⟨rfl, rfl⟩ := trodVars_none hV
  have k0 := h0
  have lt0 : ∀ x ∈ p0, x.block < W.heap.size := by obtain ⟨m, hm⟩ := k0; exact DataW.trod_lt m _ _ _ hm
  have k1 := h1
  have lt1 : ∀ x ∈ p1, x.block < W.heap.size := by obtain ⟨m, hm⟩ := k1; exact DataW.trod_lt m _ _ _ hm
  have k2 := h2
  have lt2 : ∀ x ∈ p2, x.block < W.heap.size := by obtain ⟨m, hm⟩ := k2; exact DataW.trod_lt m _ _ _ hm
  have k3 := h3
  have lt3 : ∀ x ∈ p3, x.block < W.heap.size := by obtain ⟨m, hm⟩ := k3; exact DataW.trod_lt m _ _ _ hm
  obtain ⟨a1, xs, c1, rfl, hs1, hn1, hf1⟩ := wins_arg (hval 0 22 v0 rfl rfl) h0
  obtain ⟨ra, rs, rc, pc, ma, n, mc, D, rfl, hg⟩ := guest_arg (hval 1 39 v1 rfl rfl) h1
  obtain ⟨aAddr, rfl, rfl, rfl, w2⟩ := open_int Try.underlying31 (hval 2 31 v2 rfl rfl) h2
  obtain ⟨aSize, rfl, rfl, rfl, w3⟩ := open_int Try.underlying3 (hval 3 3 v3 rfl rfl) h3
  clear hA0 hval0
  refine (walk a1 ra ma c1 xs.length rs.length rc n mc pc aAddr aSize xs rs D W hs1 hf1 rfl hn1 hg rfl (by have := bounds_u32 w2; omega)).mono fun e W' ⟨he, bel⟩ => ?_
  subst he
  exact ⟨_, rfl, _, _, _, [], _, [], hW', (trodAll_cons_mk (shut_bool Try.underlying4 _) trodAll_mk0), (trodAll_cons_mk (Below.trod laidOut (by kernel_rfl) (of_decide_eq_true (by kernel_rfl)) k0 bel lt0) (trodAll_cons_mk (Below.trod laidOut (by kernel_rfl) (of_decide_eq_true (by kernel_rfl)) k1 bel lt1) (trodAll_cons_mk (Below.trod laidOut (by kernel_rfl) (of_decide_eq_true (by kernel_rfl)) k2 bel lt2) (trodAll_cons_mk (Below.trod laidOut (by kernel_rfl) (of_decide_eq_true (by kernel_rfl)) k3 bel lt3) trodAll_mk0)))), rfl, bel.frame _, fun h => by cases h⟩

theorem over : Rows.fnExactPeekRow.holds Try.pinned (OpenSpec.ofChange Rows.fnExactPeekSpec) :=
  OpenClaim.holds_of_wide 10 Try.f10 rfl rfl rfl rfl rfl rfl rfl ⟨rfl, rfl, rfl, rfl, rfl⟩ rfl rfl rfl rfl rfl (by kernel_rfl) Try.func10 (by kernel_rfl)
    (of_decide_eq_true (by kernel_rfl)) (by unfold Func.isWrapper; first | (rw [if_pos (by decide +kernel)]; kernel_rfl) | (rw [if_neg (by decide +kernel)]; exact ⟨rfl, rfl⟩))
    (fun os started H enc _ => lifted os started H enc)

end Go.Proofs.Ytfdjfjkbbfcodaa.fnExactPeek
namespace Go.Proofs.Ytfdjfjkbbfcodaa
theorem FnExactPeek_holds : Rows.FnExactPeekSaid := fnExactPeek.over
end Go.Proofs.Ytfdjfjkbbfcodaa
