
/-
  At every device DevOk answers as its model and leaves its arguments as they were: the law FnExactDevOk returns true and its arguments read as before. No conditions.
  Built over the program of the commit that COMMIT names.
-/
import Derived.Test.YtijpkggolllpkaaRows
import Derived.WalkKit
import Derived.ProofKit
import Derived.OpenShut
import Derived.Below
import Derived.Carry
import Derived.Test.YtijpkggolllpkaaDvo
import Derived.ShutString
namespace Go.Proofs.Ytijpkggolllpkaa.fnExactDevOk
open Go.ChangeShapes Go.WideShapes Go.ChangeAt Go.RowKit Go.Deep
set_option linter.unusedVariables false

theorem own : ownKnob Try.prog.godebug = none := by kernel_rfl
theorem de_kept {w w' : World} {lo hi : Nat} {a b : Option Addr} {zs ys : List Int} (hb : Below w.heap.size w w') (h : DE w lo hi a zs b ys) : DE w' lo hi a zs b ys := h.below hb

/-! ### The walk -/
set_option maxRecDepth 20000 in
set_option maxHeartbeats 16000000 in
theorem walk (a : Option Addr) (n ca : Nat) (b : Option Addr) (m cb : Nat) (zs ys : List Int) (w : World) (hs : Seg .u32 w a zs) (hl : zs.length = n) (hn : n ≤ 9223372036854775807) (ht : Seg .u32 w b ys) (hlm : ys.length = m) (hm : m ≤ 9223372036854775807) :
    Calls Try.prog 3 #[dst a n ca b m cb] w fun e w' => e = .returned (.bool true) ∧ Below w.heap.size w w' := by
  have hrn : n ≤ 9223372036854775807 := hn
  have hrm : m ≤ 9223372036854775807 := hm
  have HS0 : Hid (Seg .u32 w a zs) := hs
  have HT0 : Hid (Seg .u32 w b ys) := ht
  have HL0 : Hid (zs.length = n) := hl
  have HM0 : Hid (ys.length = m) := hlm
  clear hs hl hn ht hlm hm
  have HB : Hid (Below w.heap.size w (w.alloc (.cells (dsr a n ca b m cb) 24))) := (Below.refl _ w).alloc (Nat.le_refl _) _
  have HE : Hid (Bk (w.alloc (.cells (dsr a n ca b m cb) 24)) w.heap.size (dsr a n ca b m cb)) := Bk.new w _ _ _ rfl
  go_enter Try.func3, Try.ntmps3
  go_wp2_with fail
  refine Calls.mono (sz_dst a n ca b m cb _ hrn hrm) ?_
  rintro u w11 ⟨⟨r, rfl, hr⟩, hb11⟩
  replace HB : Hid (Below w.heap.size w _) := HB.out.trans (hb11.mono HB.out.size)
  replace HE : Hid (Bk _ _ _) := Bk.below HE.out hb11
  clear hb11
  rcases hr with hr | ⟨hr, hbig⟩
  · go_wp2
    go_ret
    exact ⟨rfl, HB.out⟩
  have hr0 : ¬ (r < 0) := by omega
  have hrow : w.heap.size < w11.heap.size := HE.out.lt
  have hn1 : n ≤ 1048576 := by omega
  have hm1 : m ≤ 1048576 := by omega
  have TO : Hid (∀ X, Below w.heap.size w X → Calls Try.prog 11 #[dst a n ca b m cb] X fun e w' => ∃ a' b', e = .returned (dst a' n n b' m m) ∧ Below X.heap.size X w' ∧ DE w' X.heap.size w'.heap.size a' zs b' ys) := fun X hX => to_dst a n ca b m cb zs ys X (HS0.out.below hX) HL0.out hn1 (HT0.out.below hX) HM0.out hm1
  have EQ : Hid (∀ (X : World) a1 b1 a2 b2, Seg .u32 X a1 zs → Seg .u32 X b1 ys → Seg .u32 X a2 zs → Seg .u32 X b2 ys → Calls Try.prog 13 #[dst a1 n n b1 m m, dst a2 n n b2 m m] X fun e w' => e = .returned (.bool true) ∧ Below X.heap.size X w') := fun X a1 b1 a2 b2 h1 h2 h3 h4 => eq_dst a1 a2 n n n b1 b2 m m m zs ys X h1 h3 HL0.out hn1 h2 h4 HM0.out hm1
  obtain ⟨q, HQ⟩ : ∃ q : Bool, Hid (dvOk n m = q) := ⟨_, rfl⟩
  have SP : Hid (∀ (X : World) a1 b1, Calls Try.prog 10 #[dst a1 n n b1 m m] X fun e w' => e = .returned (.bool q) ∧ Below X.heap.size X w') := fun X a1 b1 => by rw [← HQ.out]; exact spec_dok a1 n n b1 m m X
  have IM : Hid (∀ (X : World) a1 b1, Calls Try.prog 12 #[dst a1 n n b1 m m] X fun e w' => e = .returned (.bool q) ∧ Below X.heap.size X w') := fun X a1 b1 => by rw [← HQ.out]; exact impl_dok a1 n n b1 m m X
  clear HQ
  have g0 := HE.out.cell 0 _ rfl
  have g1 := HE.out.cell 1 _ rfl
  go_wp2_with fail
  refine Calls.mono (TO.out _ HB.out) ?_
  rintro u w12 ⟨a12, b12, rfl, hb12, ho12⟩
  clear g0 g1
  replace HB : Hid (Below w.heap.size w _) := HB.out.trans (hb12.mono HB.out.size)
  replace HE : Hid (Bk _ _ _) := Bk.below HE.out hb12
  have hz12 := hb12.size
  clear hb12
  clear ho12
  go_wp2_with fail
  refine Calls.mono (SP.out _ a12 b12) ?_
  rintro u w13 ⟨rfl, hb13⟩
  replace HB : Hid (Below w.heap.size w _) := HB.out.trans (hb13.mono HB.out.size)
  replace HE : Hid (Bk _ _ _) := Bk.below HE.out hb13
  have hz13 := hb13.size
  clear hb13
  have g0 := HE.out.cell 0 _ rfl
  have g1 := HE.out.cell 1 _ rfl
  go_wp2_with fail
  refine Calls.mono (TO.out _ HB.out) ?_
  rintro u w14 ⟨a14, b14, rfl, hb14, ho14⟩
  clear g0 g1
  replace HB : Hid (Below w.heap.size w _) := HB.out.trans (hb14.mono HB.out.size)
  replace HE : Hid (Bk _ _ _) := Bk.below HE.out hb14
  have hz14 := hb14.size
  clear hb14
  have hal : Below w14.heap.size w14 (w14.alloc (.cells (dsr a14 n n b14 m m) 27)) := (Below.refl _ _).alloc (Nat.le_refl _) _
  have hvXV : w14.heap.size + 1 ≤ (w14.alloc (.cells (dsr a14 n n b14 m m) 27)).heap.size := by simp
  replace HB : Hid (Below w.heap.size w _) := HB.out.trans (hal.mono HB.out.size)
  replace HE : Hid (Bk _ _ _) := Bk.below HE.out hal
  have XV : Hid (Bk (w14.alloc (.cells (dsr a14 n n b14 m m) 27)) w14.heap.size (dsr a14 n n b14 m m)) := Bk.new _ _ _ _ rfl
  have XA : Hid (DE (w14.alloc (.cells (dsr a14 n n b14 m m) 27)) w13.heap.size w14.heap.size a14 zs b14 ys) := ho14.below hal
  clear hal ho14
  have g0 := XV.out.cell 0 _ rfl
  have g1 := XV.out.cell 1 _ rfl
  go_wp2_with fail
  refine Calls.mono (IM.out _ a14 b14) ?_
  rintro u w15 ⟨rfl, hb15⟩
  clear g0 g1
  replace HB : Hid (Below w.heap.size w _) := HB.out.trans (hb15.mono HB.out.size)
  replace HE : Hid (Bk _ _ _) := Bk.below HE.out hb15
  replace XV : Hid (Bk _ _ _) := Bk.below XV.out hb15
  replace XA : Hid (DE _ _ _ _ _ _ _) := DE.below XA.out hb15
  have hz15 := hb15.size
  clear hb15
  have hqq : (q != q) = false := by simp
  generalize hkX : w14.heap.size = kX at *
  generalize hlo : w13.heap.size = loX at *
  obtain ⟨hiX, hhi⟩ : ∃ h, h = kX := ⟨_, rfl⟩
  have XA' : Hid (DE w15 loX hiX a14 zs b14 ys) := (show DE w15 loX hiX a14 zs b14 ys by rw [hhi]; exact XA.out)
  clear XA
  have XA := XA'
  clear XA' hhi hlo hkX
  go_wp2
  have HXS : Hid (∀ X, Below w15.heap.size w15 X → DE X loX hiX a14 zs b14 ys) := fun X hX => DE.below XA.out hX
  have hb : Below w15.heap.size w15 w15 := Below.refl _ _
  have HBX : Hid (∀ X, Below w15.heap.size w15 X → Below w.heap.size w X) := fun X hX => HB.out.trans (hX.mono HB.out.size)
  have AC0 : Hid (w15.cell? ⟨kX, 0, none⟩ = some (.slice a14 n n)) := XV.out.cell 0 _ rfl
  have ac0 := AC0.out
  have AC1 : Hid (w15.cell? ⟨kX, 1, none⟩ = some (.slice b14 m m)) := XV.out.cell 1 _ rfl
  have ac1 := AC1.out
  have BC0 : Hid (w15.cell? ⟨w.heap.size, 0, none⟩ = some (.slice a n ca)) := HE.out.cell 0 _ rfl
  have bc0 := BC0.out
  have BC1 : Hid (w15.cell? ⟨w.heap.size, 1, none⟩ = some (.slice b m cb)) := HE.out.cell 1 _ rfl
  have bc1 := BC1.out
  try go_wp2
  go_region_held_law (fun w' => w'.cell? ⟨kX, 0, none⟩ = some (.slice a14 n n) ∧ w'.cell? ⟨kX, 1, none⟩ = some (.slice b14 m m) ∧ w'.cell? ⟨w.heap.size, 0, none⟩ = some (.slice a n ca) ∧ w'.cell? ⟨w.heap.size, 1, none⟩ = some (.slice b m cb)) (first | with_reducible exact ⟨ac0, ac1, bc0, bc1⟩ | with_reducible exact ⟨dr_c ac0, dr_c ac1, dr_c bc0, dr_c bc1⟩ | with_reducible exact ⟨al_c _ ac0, al_c _ ac1, al_c _ bc0, al_c _ bc1⟩ | with_reducible exact ⟨al_c _ (dr_c ac0), al_c _ (dr_c ac1), al_c _ (dr_c bc0), al_c _ (dr_c bc1)⟩ | with_reducible exact ⟨dr_c (al_c _ ac0), dr_c (al_c _ ac1), dr_c (al_c _ bc0), dr_c (al_c _ bc1)⟩)
    (first | (go_at_call 11; refine Calls.mono (TO.out _ (HBX.out _ (by first | exact hb | exact hb.drew | exact hb.alloc hb.size _ | exact (hb.alloc hb.size _).drew))) ?_; rintro u w78 ⟨a8, b8, rfl, hbb, hsO⟩; have hbn := (by first | exact hb.trans (hbb.mono hb.size) | exact hb.drew.trans (hbb.mono hb.drew.size) | exact (hb.alloc hb.size _).trans (hbb.mono (hb.alloc hb.size _).size) | exact ((hb.alloc hb.size _).drew).trans (hbb.mono ((hb.alloc hb.size _).drew).size)); replace hb := hbn; clear hbn; replace ac0 := kept_c hb AC0.out; replace ac1 := kept_c hb AC1.out; replace bc0 := kept_c hb BC0.out; replace bc1 := kept_c hb BC1.out; have hz90 := hb.size; clear hbb) | (go_at_call 13; refine Calls.mono (EQ.out _ a14 b14 a8 b8 (DE.seg1 (HXS.out _ (by first | exact hb | exact hb.drew))) (DE.seg2 (HXS.out _ (by first | exact hb | exact hb.drew))) (DE.seg1 (lo := _) (hi := _) (by first | exact hsO | exact de_kept ((Below.refl _ _).alloc (Nat.le_refl _) _) hsO)) (DE.seg2 (lo := _) (hi := _) (by first | exact hsO | exact de_kept ((Below.refl _ _).alloc (Nat.le_refl _) _) hsO))) ?_; rintro u w77 ⟨rfl, hbb⟩; have hbn := (by first | exact hb.trans (hbb.mono hb.size) | exact hb.drew.trans (hbb.mono hb.drew.size) | exact (hb.alloc hb.size _).trans (hbb.mono (hb.alloc hb.size _).size) | exact ((hb.alloc hb.size _).drew).trans (hbb.mono ((hb.alloc hb.size _).drew).size)); replace hb := hbn; clear hbn; replace ac0 := kept_c hb AC0.out; replace ac1 := kept_c hb AC1.out; replace bc0 := kept_c hb BC0.out; replace bc1 := kept_c hb BC1.out; have hz91 := hb.size; clear hbb))
  all_goals
    rename_i hhh
    clear hhh
    have hbR := hb
    clear hb ac0 ac1 bc0 bc1
    try clear hsO
    clear hz90 hz91
    revert hbR
    revert w77
    revert a8 b8
    try clear w78
    refine ?wayE
  intro a8 b8 w77 hbR
  have hzE := hbR.size
  clear HBX HXS AC0 AC1 BC0 BC1
  replace HB : Hid (Below w.heap.size w _) := HB.out.trans (hbR.mono HB.out.size)
  replace HE : Hid (Bk _ _ _) := Bk.below HE.out hbR
  replace XV : Hid (Bk _ _ _) := Bk.below XV.out hbR
  replace XA : Hid (DE _ _ _ _ _ _ _) := DE.below XA.out hbR
  clear hbR
  go_wp2
  go_ret
  exact ⟨rfl, HB.out⟩


/-! ### The row -/
set_option maxRecDepth 100000 in
theorem lifted (os : Os) (started : os.Started) (H : Type) (enc : TypeId × Value → H) :
    ReturnsInHanded {} Try.checked os 3 .any (Rows.fnExactDevOkSpec.pre6 enc Try.prog Try.f3 Rows.fnExactDevOkRow.domain false) (Rows.fnExactDevOkSpec.post enc Try.prog Try.f3 false true false false) := by
  refine returnsInHanded_of_change (C := Try.checked) own started (by kernel_rfl) Try.func3
    (ChangeSpec.witness6 (enc := enc) (C := Try.checked) false ⟨#[], #[dst none 0 0 none 0 0], []⟩ 8 (by kernel_rfl) (by kernel_rfl) (by kernel_rfl) (by kernel_rfl)) ?_
  intro W base args ds gs before hval0 hW hcnd _
  have hval : ∀ (j : Nat) t v, Try.f3.params[j]? = some t → args[j]? = some v → Value.okWide Try.prog W .any base t v := hval0
  have hW' := hW
  obtain ⟨p, q, hA0, hV, rfl, hfz, hnd⟩ := hW
  have hA : DataW.TrodAll enc Try.prog W 0 (fun _ => true) true Try.f3.params.toList args.toList ds p := hA0
  rw [Try.params3] at hA hval
  obtain ⟨v0, vs0, d0, ds0, p0, q0, hargs, rfl, rfl, h0, r0⟩ := trodAll_cons hA
  obtain ⟨rfl, rfl, rfl⟩ := trodAll_nil r0
  obtain rfl : args = #[v0] := by cases args; simp_all
  obtain ⟨rfl, rfl⟩ := trodVars_none hV
  have k0 := h0
  have lt0 : ∀ x ∈ p0, x.block < W.heap.size := by obtain ⟨m, hm⟩ := k0; exact DataW.trod_lt m _ _ _ hm
  obtain ⟨a, zs, c, b, ys, c2, rfl, hw1, hw2⟩ := dst_arg (hval 0 24 v0 rfl rfl) h0
  clear hA0 hval0
  refine (walk a zs.length c b ys.length c2 zs ys W hw1.seg rfl hw1.len hw2.seg rfl hw2.len).mono fun e W' ⟨he, bel⟩ => ?_
  subst he
  exact ⟨_, rfl, _, _, _, [], _, [], hW', (trodAll_cons_mk (shut_bool Try.underlying4 _) trodAll_mk0), (trodAll_cons_mk (Below.trod laidOut (by kernel_rfl) (of_decide_eq_true (by kernel_rfl)) k0 bel lt0) trodAll_mk0), rfl, bel.frame _, fun h => by cases h⟩

theorem over : Rows.fnExactDevOkRow.holds Try.pinned (OpenSpec.ofChange Rows.fnExactDevOkSpec) :=
  OpenClaim.holds_of_wide 3 Try.f3 rfl rfl rfl rfl rfl rfl rfl ⟨rfl, rfl, rfl, rfl, rfl⟩ rfl rfl rfl rfl rfl (by kernel_rfl) Try.func3 (by kernel_rfl)
    (of_decide_eq_true (by kernel_rfl)) (by unfold Func.isWrapper; first | (rw [if_pos (by decide +kernel)]; kernel_rfl) | (rw [if_neg (by decide +kernel)]; exact ⟨rfl, rfl⟩))
    (fun os started H enc _ => lifted os started H enc)

end Go.Proofs.Ytijpkggolllpkaa.fnExactDevOk
namespace Go.Proofs.Ytijpkggolllpkaa
theorem FnExactDevOk_holds : Rows.FnExactDevOkSaid := fnExactDevOk.over
end Go.Proofs.Ytijpkggolllpkaa
