
/-
  At every device DevRead answers as its model and leaves its arguments as they were: the law FnExactDevRead returns true and its arguments read as before. No conditions.
  Built over the program of the commit that COMMIT names.
-/
import Derived.Test.YthfmggfohegpnaaRows
import Derived.WalkKit
import Derived.ProofKit
import Derived.OpenShut
import Derived.Below
import Derived.Carry
import Derived.Test.YthfmggfohegpnaaDvr
import Derived.ShutString
namespace Go.Proofs.Ythfmggfohegpnaa.fnExactDevRead
open Go.ChangeShapes Go.WideShapes Go.ChangeAt Go.RowKit Go.Deep
set_option linter.unusedVariables false

theorem own : ownKnob Try.prog.godebug = none := by kernel_rfl
theorem de_kept {w w' : World} {lo hi : Nat} {a b : Option Addr} {zs ys : List Int} (hb : Below w.heap.size w w') (h : DE w lo hi a zs b ys) : DE w' lo hi a zs b ys := h.below hb

/-! ### The walk -/
set_option maxRecDepth 20000 in
set_option maxHeartbeats 16000000 in
theorem walk (a : Option Addr) (n ca : Nat) (b : Option Addr) (m cb : Nat) (zs ys : List Int) (w : World) (hs : Seg .u32 w a zs) (hl : zs.length = n) (hn : n ≤ 9223372036854775807) (ht : Seg .u32 w b ys) (hlm : ys.length = m) (hm : m ≤ 9223372036854775807) :
    Calls Try.prog 6 #[dst a n ca b m cb] w fun e w' => e = .returned (.bool true) ∧ Below w.heap.size w w' := by
  have hrn : n ≤ 9223372036854775807 := hn
  have hrm : m ≤ 9223372036854775807 := hm
  have HS0 : Hid (Seg .u32 w a zs) := hs
  have HT0 : Hid (Seg .u32 w b ys) := ht
  have HL0 : Hid (zs.length = n) := hl
  have HM0 : Hid (ys.length = m) := hlm
  clear hs hl hn ht hlm hm
  have HB : Hid (Below w.heap.size w (w.alloc (.cells (dsr a n ca b m cb) 24))) := (Below.refl _ w).alloc (Nat.le_refl _) _
  have HE : Hid (Bk (w.alloc (.cells (dsr a n ca b m cb) 24)) w.heap.size (dsr a n ca b m cb)) := Bk.new w _ _ _ rfl
  go_enter Try.func6, Try.ntmps6
  go_wp2_with fail
  refine Calls.mono (sz_dst a n ca b m cb _ hrn hrm) ?_
  rintro u w11 ⟨⟨r, rfl, hr⟩, hb11⟩
  replace HB : Hid (Below w.heap.size w _) := HB.out.trans (hb11.mono HB.out.size)
  replace HE : Hid (Bk _ _ _) := Bk.below HE.out hb11
  clear hb11
  rcases hr with hr | ⟨hr, hbig⟩
  · go_wp2
    go_ret
    exact ⟨rfl, HB.out⟩
  have hr0 : ¬ (r < 0) := by omega
  have hrow : w.heap.size < w11.heap.size := HE.out.lt
  have hn1 : n ≤ 1048576 := by omega
  have hm1 : m ≤ 1048576 := by omega
  have TO : Hid (∀ X, Below w.heap.size w X → Calls Try.prog 11 #[dst a n ca b m cb] X fun e w' => ∃ a' b', e = .returned (dst a' n n b' m m) ∧ Below X.heap.size X w' ∧ DE w' X.heap.size w'.heap.size a' zs b' ys) := fun X hX => to_dst a n ca b m cb zs ys X (HS0.out.below hX) HL0.out hn1 (HT0.out.below hX) HM0.out hm1
  have EQ : Hid (∀ (X : World) a1 b1 a2 b2, Seg .u32 X a1 zs → Seg .u32 X b1 ys → Seg .u32 X a2 zs → Seg .u32 X b2 ys → Calls Try.prog 13 #[dst a1 n n b1 m m, dst a2 n n b2 m m] X fun e w' => e = .returned (.bool true) ∧ Below X.heap.size X w') := fun X a1 b1 a2 b2 h1 h2 h3 h4 => eq_dst a1 a2 n n n b1 b2 m m m zs ys X h1 h3 HL0.out hn1 h2 h4 HM0.out hm1
  obtain ⟨ls, ms, x, cd, HQ⟩ : ∃ ls ms x cd, Hid (redF zs ys = (ls, ms, x, cd)) := ⟨_, _, _, _, rfl⟩
  have hy0 := red_len HQ.out HL0.out hn1 HM0.out hm1
  obtain ⟨y, HYL⟩ : ∃ y, Hid (ls.length = y) := ⟨_, rfl⟩
  have hy : y ≤ 1048576 := by have := HYL.out; omega
  obtain ⟨z, HZL⟩ : ∃ z, Hid (ms.length = z) := ⟨_, rfl⟩
  have hz : z ≤ 1048576 := by have := HZL.out; omega
  have SP : Hid (∀ (X : World) a1 b1, Seg .u32 X a1 zs → Seg .u32 X b1 ys → Calls Try.prog 20 #[dst a1 n n b1 m m] X fun e w' => ∃ a' c' b' d', e = .returned (.tuple #[dst a' y c' b' z d', .int .u32 x, .int .i64 cd]) ∧ Below X.heap.size X w' ∧ DE w' X.heap.size w'.heap.size a' ls b' ms) := fun X a1 b1 h1 h2 => by have g := spec_red a1 n n b1 m m zs ys X h1 HL0.out hn1 (Nat.le_refl _) h2 HM0.out hm1 (Nat.le_refl _) ls ms x cd HQ; rw [HYL.out, HZL.out] at g; exact g.mono fun e w' ⟨a', c', b', d', g1, g2, g3, _⟩ => ⟨a', c', b', d', g1, g2, g3⟩
  have IM : Hid (∀ (X : World) a1 b1, Seg .u32 X a1 zs → Seg .u32 X b1 ys → Calls Try.prog 21 #[dst a1 n n b1 m m] X fun e w' => ∃ a' c' b' d', e = .returned (.tuple #[dst a' y c' b' z d', .int .u32 x, .int .i64 cd]) ∧ Below X.heap.size X w' ∧ DE w' X.heap.size w'.heap.size a' ls b' ms) := fun X a1 b1 h1 h2 => by have g := impl_red a1 n n b1 m m zs ys X h1 HL0.out hn1 h2 HM0.out hm1 ls ms x cd HQ; rw [HYL.out, HZL.out] at g; exact g.mono fun e w' ⟨a', c', b', d', g1, g2, g3⟩ => ⟨a', c', b', d', g1, g2, g3⟩
  clear HQ hy0
  have g0 := HE.out.cell 0 _ rfl
  have g1 := HE.out.cell 1 _ rfl
  go_wp2_with fail
  refine Calls.mono (TO.out _ HB.out) ?_
  rintro u w12 ⟨a12, b12, rfl, hb12, ho12⟩
  clear g0 g1
  replace HB : Hid (Below w.heap.size w _) := HB.out.trans (hb12.mono HB.out.size)
  replace HE : Hid (Bk _ _ _) := Bk.below HE.out hb12
  have hz12 := hb12.size
  clear hb12
  have hE12 := ho12
  clear hE12
  go_wp2_with fail
  refine Calls.mono (SP.out _ a12 b12 ho12.seg1 ho12.seg2) ?_
  rintro u w13 ⟨a7, c7, b7, d7, rfl, hb13, ho13⟩
  replace HB : Hid (Below w.heap.size w _) := HB.out.trans (hb13.mono HB.out.size)
  replace HE : Hid (Bk _ _ _) := Bk.below HE.out hb13
  have hz13 := hb13.size
  clear hb13 ho12
  have hal : Below w13.heap.size w13 (w13.alloc (.cells (dsr a7 y c7 b7 z d7) 27)) := (Below.refl _ _).alloc (Nat.le_refl _) _
  have hvSV : w13.heap.size + 1 ≤ (w13.alloc (.cells (dsr a7 y c7 b7 z d7) 27)).heap.size := by simp
  replace HB : Hid (Below w.heap.size w _) := HB.out.trans (hal.mono HB.out.size)
  replace HE : Hid (Bk _ _ _) := Bk.below HE.out hal
  have SV : Hid (Bk (w13.alloc (.cells (dsr a7 y c7 b7 z d7) 27)) w13.heap.size (dsr a7 y c7 b7 z d7)) := Bk.new _ _ _ _ rfl
  have SA : Hid (DE (w13.alloc (.cells (dsr a7 y c7 b7 z d7) 27)) w12.heap.size w13.heap.size a7 ls b7 ms) := ho13.below hal
  clear hal ho13
  have hloS : w.heap.size < w12.heap.size := by omega
  have g0 := HE.out.cell 0 _ rfl
  have g1 := HE.out.cell 1 _ rfl
  go_wp2_with fail
  refine Calls.mono (TO.out _ HB.out) ?_
  rintro u w14 ⟨a14, b14, rfl, hb14, ho14⟩
  clear g0 g1
  replace HB : Hid (Below w.heap.size w _) := HB.out.trans (hb14.mono HB.out.size)
  replace HE : Hid (Bk _ _ _) := Bk.below HE.out hb14
  replace SV : Hid (Bk _ _ _) := Bk.below SV.out hb14
  replace SA : Hid (DE _ _ _ _ _ _ _) := DE.below SA.out hb14
  have hz14 := hb14.size
  clear hb14
  have hal : Below w14.heap.size w14 (w14.alloc (.cells (dsr a14 n n b14 m m) 27)) := (Below.refl _ _).alloc (Nat.le_refl _) _
  have hvXV : w14.heap.size + 1 ≤ (w14.alloc (.cells (dsr a14 n n b14 m m) 27)).heap.size := by simp
  replace HB : Hid (Below w.heap.size w _) := HB.out.trans (hal.mono HB.out.size)
  replace HE : Hid (Bk _ _ _) := Bk.below HE.out hal
  replace SV : Hid (Bk _ _ _) := Bk.below SV.out hal
  replace SA : Hid (DE _ _ _ _ _ _ _) := DE.below SA.out hal
  have XV : Hid (Bk (w14.alloc (.cells (dsr a14 n n b14 m m) 27)) w14.heap.size (dsr a14 n n b14 m m)) := Bk.new _ _ _ _ rfl
  have XA : Hid (DE (w14.alloc (.cells (dsr a14 n n b14 m m) 27)) (w13.alloc (.cells (dsr a7 y c7 b7 z d7) 27)).heap.size w14.heap.size a14 zs b14 ys) := ho14.below hal
  clear hal ho14
  have g0 := XV.out.cell 0 _ rfl
  have g1 := XV.out.cell 1 _ rfl
  go_wp2_with fail
  refine Calls.mono (IM.out _ a14 b14 XA.out.seg1 XA.out.seg2) ?_
  rintro u w15 ⟨p7, e7, q7, f7, rfl, hb15, ho15⟩
  clear g0 g1
  replace HB : Hid (Below w.heap.size w _) := HB.out.trans (hb15.mono HB.out.size)
  replace HE : Hid (Bk _ _ _) := Bk.below HE.out hb15
  replace SV : Hid (Bk _ _ _) := Bk.below SV.out hb15
  replace SA : Hid (DE _ _ _ _ _ _ _) := DE.below SA.out hb15
  replace XV : Hid (Bk _ _ _) := Bk.below XV.out hb15
  replace XA : Hid (DE _ _ _ _ _ _ _) := DE.below XA.out hb15
  have hz15 := hb15.size
  clear hb15
  have hal : Below w15.heap.size w15 (w15.alloc (.cells (dsr p7 y e7 q7 z f7) 27)) := (Below.refl _ _).alloc (Nat.le_refl _) _
  have hvGV : w15.heap.size + 1 ≤ (w15.alloc (.cells (dsr p7 y e7 q7 z f7) 27)).heap.size := by simp
  replace HB : Hid (Below w.heap.size w _) := HB.out.trans (hal.mono HB.out.size)
  replace HE : Hid (Bk _ _ _) := Bk.below HE.out hal
  replace SV : Hid (Bk _ _ _) := Bk.below SV.out hal
  replace SA : Hid (DE _ _ _ _ _ _ _) := DE.below SA.out hal
  replace XV : Hid (Bk _ _ _) := Bk.below XV.out hal
  replace XA : Hid (DE _ _ _ _ _ _ _) := DE.below XA.out hal
  have GV : Hid (Bk (w15.alloc (.cells (dsr p7 y e7 q7 z f7) 27)) w15.heap.size (dsr p7 y e7 q7 z f7)) := Bk.new _ _ _ _ rfl
  have GA : Hid (DE (w15.alloc (.cells (dsr p7 y e7 q7 z f7) 27)) (w14.alloc (.cells (dsr a14 n n b14 m m) 27)).heap.size w15.heap.size p7 ls q7 ms) := ho15.below hal
  clear hal ho15
  have g0 := GV.out.cell 0 _ rfl
  have g1 := GV.out.cell 1 _ rfl
  have s0 := SV.out.cell 0 _ rfl
  have s1 := SV.out.cell 1 _ rfl
  go_wp2_with fail
  refine Calls.mono (eq_dst p7 a7 y e7 c7 q7 b7 z f7 d7 ls ms _ (DE.seg1 GA.out) (DE.seg1 SA.out) HYL.out hy (DE.seg2 GA.out) (DE.seg2 SA.out) HZL.out hz) ?_
  rintro u w16 ⟨rfl, hb16⟩
  clear g0 g1
  clear s0 s1
  replace HB : Hid (Below w.heap.size w _) := HB.out.trans (hb16.mono HB.out.size)
  replace HE : Hid (Bk _ _ _) := Bk.below HE.out hb16
  replace SV : Hid (Bk _ _ _) := Bk.below SV.out hb16
  replace SA : Hid (DE _ _ _ _ _ _ _) := DE.below SA.out hb16
  replace XV : Hid (Bk _ _ _) := Bk.below XV.out hb16
  replace XA : Hid (DE _ _ _ _ _ _ _) := DE.below XA.out hb16
  replace GV : Hid (Bk _ _ _) := Bk.below GV.out hb16
  replace GA : Hid (DE _ _ _ _ _ _ _) := DE.below GA.out hb16
  have hz16 := hb16.size
  clear hb16
  obtain ⟨kS, hkS⟩ : ∃ zz, zz = w13.heap.size := ⟨_, rfl⟩
  obtain ⟨loS, hloS'⟩ : ∃ zz, zz = w12.heap.size := ⟨_, rfl⟩
  obtain ⟨kX, hkX⟩ : ∃ zz, zz = w14.heap.size := ⟨_, rfl⟩
  obtain ⟨kG, hkG⟩ : ∃ zz, zz = w15.heap.size := ⟨_, rfl⟩
  obtain ⟨loX, hloX⟩ : ∃ zz, zz = (w13.alloc (.cells (dsr a7 y c7 b7 z d7) 27)).heap.size := ⟨_, rfl⟩
  obtain ⟨loG, hloG⟩ : ∃ zz, zz = (w14.alloc (.cells (dsr a14 n n b14 m m) 27)).heap.size := ⟨_, rfl⟩
  rw [← hkS] at SV
  rw [← hkX] at XV
  rw [← hkG] at GV
  rw [← hkS, ← hloS'] at SA
  rw [← hkX, ← hloX] at XA
  rw [← hkG, ← hloG] at GA
  obtain ⟨hiX, hhX⟩ : ∃ zz, zz = kX := ⟨_, rfl⟩
  have XA' : Hid (DE w16 loX hiX a14 zs b14 ys) := (show DE w16 loX hiX a14 zs b14 ys by rw [hhX]; exact XA.out)
  have hord : w.heap.size < loS ∧ loS ≤ kS ∧ kS < loX ∧ loX ≤ kX ∧ kX < loG ∧ loG ≤ kG ∧ kG < w16.heap.size ∧ hiX = kX := by rw [hkS, hloS', hkX, hkG, hloX, hloG, hhX]; (try simp at hz14); (try simp at hz15); (try simp at hz16); simp <;> omega
  clear XA
  have XA := XA'
  rw [← hkS, ← hkX, ← hkG]
  clear XA' hkS hloS' hkX hkG hloX hloG hhX hloS hvSV hvXV hvGV
  obtain ⟨or1, or2, or3, or4, or5, or6, or7, or8⟩ := hord
  go_wp2
  have HXS : Hid (∀ X, Below w16.heap.size w16 X → DE X loX hiX a14 zs b14 ys) := fun X hX => DE.below XA.out hX
  have hb : Below w16.heap.size w16 w16 := Below.refl _ _
  have HBX : Hid (∀ X, Below w16.heap.size w16 X → Below w.heap.size w X) := fun X hX => HB.out.trans (hX.mono HB.out.size)
  have AC0 : Hid (w16.cell? ⟨kX, 0, none⟩ = some (.slice a14 n n)) := XV.out.cell 0 _ rfl
  have ac0 := AC0.out
  have AC1 : Hid (w16.cell? ⟨kX, 1, none⟩ = some (.slice b14 m m)) := XV.out.cell 1 _ rfl
  have ac1 := AC1.out
  have BC0 : Hid (w16.cell? ⟨w.heap.size, 0, none⟩ = some (.slice a n ca)) := HE.out.cell 0 _ rfl
  have bc0 := BC0.out
  have BC1 : Hid (w16.cell? ⟨w.heap.size, 1, none⟩ = some (.slice b m cb)) := HE.out.cell 1 _ rfl
  have bc1 := BC1.out
  try go_wp2
  go_region_held_law (fun w' => w'.cell? ⟨kX, 0, none⟩ = some (.slice a14 n n) ∧ w'.cell? ⟨kX, 1, none⟩ = some (.slice b14 m m) ∧ w'.cell? ⟨w.heap.size, 0, none⟩ = some (.slice a n ca) ∧ w'.cell? ⟨w.heap.size, 1, none⟩ = some (.slice b m cb)) (first | with_reducible exact ⟨ac0, ac1, bc0, bc1⟩ | with_reducible exact ⟨dr_c ac0, dr_c ac1, dr_c bc0, dr_c bc1⟩ | with_reducible exact ⟨al_c _ ac0, al_c _ ac1, al_c _ bc0, al_c _ bc1⟩ | with_reducible exact ⟨al_c _ (dr_c ac0), al_c _ (dr_c ac1), al_c _ (dr_c bc0), al_c _ (dr_c bc1)⟩ | with_reducible exact ⟨dr_c (al_c _ ac0), dr_c (al_c _ ac1), dr_c (al_c _ bc0), dr_c (al_c _ bc1)⟩)
    (first | (go_at_call 11; refine Calls.mono (TO.out _ (HBX.out _ (by first | exact hb | exact hb.drew | exact hb.alloc hb.size _ | exact (hb.alloc hb.size _).drew))) ?_; rintro u w78 ⟨a8, b8, rfl, hbb, hsO⟩; have hbn := (by first | exact hb.trans (hbb.mono hb.size) | exact hb.drew.trans (hbb.mono hb.drew.size) | exact (hb.alloc hb.size _).trans (hbb.mono (hb.alloc hb.size _).size) | exact ((hb.alloc hb.size _).drew).trans (hbb.mono ((hb.alloc hb.size _).drew).size)); replace hb := hbn; clear hbn; replace ac0 := kept_c hb AC0.out; replace ac1 := kept_c hb AC1.out; replace bc0 := kept_c hb BC0.out; replace bc1 := kept_c hb BC1.out; have hz90 := hb.size; clear hbb) | (go_at_call 13; refine Calls.mono (EQ.out _ a14 b14 a8 b8 (DE.seg1 (HXS.out _ (by first | exact hb | exact hb.drew))) (DE.seg2 (HXS.out _ (by first | exact hb | exact hb.drew))) (DE.seg1 (lo := _) (hi := _) (by first | exact hsO | exact de_kept ((Below.refl _ _).alloc (Nat.le_refl _) _) hsO)) (DE.seg2 (lo := _) (hi := _) (by first | exact hsO | exact de_kept ((Below.refl _ _).alloc (Nat.le_refl _) _) hsO))) ?_; rintro u w77 ⟨rfl, hbb⟩; have hbn := (by first | exact hb.trans (hbb.mono hb.size) | exact hb.drew.trans (hbb.mono hb.drew.size) | exact (hb.alloc hb.size _).trans (hbb.mono (hb.alloc hb.size _).size) | exact ((hb.alloc hb.size _).drew).trans (hbb.mono ((hb.alloc hb.size _).drew).size)); replace hb := hbn; clear hbn; replace ac0 := kept_c hb AC0.out; replace ac1 := kept_c hb AC1.out; replace bc0 := kept_c hb BC0.out; replace bc1 := kept_c hb BC1.out; have hz91 := hb.size; clear hbb))
  all_goals
    rename_i hhh
    clear hhh
    have hbR := hb
    clear hb ac0 ac1 bc0 bc1
    try clear hsO
    clear hz90 hz91
    revert hbR
    revert w77
    revert a8 b8
    try clear w78
    refine ?wayE
  intro a8 b8 w77 hbR
  have hzE := hbR.size
  clear HBX HXS AC0 AC1 BC0 BC1
  replace HB : Hid (Below w.heap.size w _) := HB.out.trans (hbR.mono HB.out.size)
  replace HE : Hid (Bk _ _ _) := Bk.below HE.out hbR
  replace SV : Hid (Bk _ _ _) := Bk.below SV.out hbR
  replace SA : Hid (DE _ _ _ _ _ _ _) := DE.below SA.out hbR
  replace XV : Hid (Bk _ _ _) := Bk.below XV.out hbR
  replace XA : Hid (DE _ _ _ _ _ _ _) := DE.below XA.out hbR
  replace GV : Hid (Bk _ _ _) := Bk.below GV.out hbR
  replace GA : Hid (DE _ _ _ _ _ _ _) := DE.below GA.out hbR
  clear hbR
  have g0 := XV.out.cell 0 _ rfl
  have g1 := XV.out.cell 1 _ rfl
  go_wp2_with fail
  refine Calls.mono (mark_dst loX hiX a14 n n b14 m m 1 zs ys _ XA.out HL0.out hn1 HM0.out hm1 (by omega) (by omega)) ?_
  rintro u w17 ⟨rfl, hb17, ho17⟩
  clear g0 g1
  clear XA
  replace HB : Hid (Below w.heap.size w _) := HB.out.trans (hb17.below (by omega) HB.out.size)
  replace HE : Hid (Bk _ _ _) := Bk.betw HE.out hb17 (.inl (by omega))
  replace SV : Hid (Bk _ _ _) := Bk.betw SV.out hb17 (.inl (by omega))
  replace SA : Hid (DE _ _ _ _ _ _ _) := DE.betw SA.out hb17 (.inl (by omega))
  replace XV : Hid (Bk _ _ _) := Bk.betw XV.out hb17 (.inr (by omega))
  replace GV : Hid (Bk _ _ _) := Bk.betw GV.out hb17 (.inr (by omega))
  replace GA : Hid (DE _ _ _ _ _ _ _) := DE.betw GA.out hb17 (.inr (by omega))
  have hz17 := hb17.size
  clear hb17 ho17
  obtain ⟨K1, HK1⟩ : ∃ K, Hid (1 + n + m = K) := ⟨_, rfl⟩
  have hK1 : ¬ ((K1 : Int) < 0) := by omega
  rw [HK1.out]
  have g0 := GV.out.cell 0 _ rfl
  have g1 := GV.out.cell 1 _ rfl
  have s0 := SV.out.cell 0 _ rfl
  have s1 := SV.out.cell 1 _ rfl
  go_wp2_with fail
  refine Calls.mono (eq_dst p7 a7 y e7 c7 q7 b7 z f7 d7 ls ms _ (DE.seg1 GA.out) (DE.seg1 SA.out) HYL.out hy (DE.seg2 GA.out) (DE.seg2 SA.out) HZL.out hz) ?_
  rintro u w18 ⟨rfl, hb18⟩
  clear g0 g1
  clear s0 s1
  replace HB : Hid (Below w.heap.size w _) := HB.out.trans (hb18.mono HB.out.size)
  replace HE : Hid (Bk _ _ _) := Bk.below HE.out hb18
  replace SV : Hid (Bk _ _ _) := Bk.below SV.out hb18
  replace SA : Hid (DE _ _ _ _ _ _ _) := DE.below SA.out hb18
  replace XV : Hid (Bk _ _ _) := Bk.below XV.out hb18
  replace GV : Hid (Bk _ _ _) := Bk.below GV.out hb18
  replace GA : Hid (DE _ _ _ _ _ _ _) := DE.below GA.out hb18
  have hz18 := hb18.size
  clear hb18
  have g0 := GV.out.cell 0 _ rfl
  have g1 := GV.out.cell 1 _ rfl
  go_wp2_with fail
  refine Calls.mono (mark_dst loG kG p7 y e7 q7 z f7 1 ls ms _ GA.out HYL.out hy HZL.out hz (by omega) (by omega)) ?_
  rintro u w19 ⟨rfl, hb19, ho19⟩
  clear g0 g1
  clear GA
  replace HB : Hid (Below w.heap.size w _) := HB.out.trans (hb19.below (by omega) HB.out.size)
  replace HE : Hid (Bk _ _ _) := Bk.betw HE.out hb19 (.inl (by omega))
  replace SV : Hid (Bk _ _ _) := Bk.betw SV.out hb19 (.inl (by omega))
  replace SA : Hid (DE _ _ _ _ _ _ _) := DE.betw SA.out hb19 (.inl (by omega))
  replace XV : Hid (Bk _ _ _) := Bk.betw XV.out hb19 (.inl (by omega))
  replace GV : Hid (Bk _ _ _) := Bk.betw GV.out hb19 (.inr (by omega))
  have GM : Hid (DE w19 loG kG p7 (marksM 4294967296 1 y) q7 (marksM 4294967296 (1 + y) z)) := ho19
  have hz19 := hb19.size
  clear hb19 ho19
  obtain ⟨K2, HK2⟩ : ∃ K, Hid (1 + y + z = K) := ⟨_, rfl⟩
  have hK2 : ¬ ((K2 : Int) < 0) := by omega
  rw [HK2.out]
  have g0 := GV.out.cell 0 _ rfl
  have g1 := GV.out.cell 1 _ rfl
  go_wp2_with fail
  refine Calls.mono (held_dst p7 y e7 q7 z f7 1 _ (DE.seg1 GM.out) hy (DE.seg2 GM.out) hz (by omega)) ?_
  rintro u w20 ⟨rfl, hb20⟩
  clear g0 g1
  replace HB : Hid (Below w.heap.size w _) := HB.out.trans (hb20.mono HB.out.size)
  replace HE : Hid (Bk _ _ _) := Bk.below HE.out hb20
  replace SV : Hid (Bk _ _ _) := Bk.below SV.out hb20
  replace SA : Hid (DE _ _ _ _ _ _ _) := DE.below SA.out hb20
  replace XV : Hid (Bk _ _ _) := Bk.below XV.out hb20
  replace GV : Hid (Bk _ _ _) := Bk.below GV.out hb20
  replace GM : Hid (DE _ _ _ _ _ _ _) := DE.below GM.out hb20
  have hz20 := hb20.size
  clear hb20
  rw [HK2.out]
  have g0 := HE.out.cell 0 _ rfl
  have g1 := HE.out.cell 1 _ rfl
  go_wp2_with fail
  refine Calls.mono (TO.out _ HB.out) ?_
  rintro u w21 ⟨a21, b21, rfl, hb21, ho21⟩
  clear g0 g1
  replace HB : Hid (Below w.heap.size w _) := HB.out.trans (hb21.mono HB.out.size)
  replace HE : Hid (Bk _ _ _) := Bk.below HE.out hb21
  replace SV : Hid (Bk _ _ _) := Bk.below SV.out hb21
  replace SA : Hid (DE _ _ _ _ _ _ _) := DE.below SA.out hb21
  replace XV : Hid (Bk _ _ _) := Bk.below XV.out hb21
  replace GV : Hid (Bk _ _ _) := Bk.below GV.out hb21
  replace GM : Hid (DE _ _ _ _ _ _ _) := DE.below GM.out hb21
  have hz21 := hb21.size
  clear hb21
  go_wp2_with fail
  refine Calls.mono (IM.out _ a21 b21 ho21.seg1 ho21.seg2) ?_
  rintro u w22 ⟨r7, s7, t7, u7, rfl, hb22, ho22⟩
  replace HB : Hid (Below w.heap.size w _) := HB.out.trans (hb22.mono HB.out.size)
  replace HE : Hid (Bk _ _ _) := Bk.below HE.out hb22
  replace SV : Hid (Bk _ _ _) := Bk.below SV.out hb22
  replace SA : Hid (DE _ _ _ _ _ _ _) := DE.below SA.out hb22
  replace XV : Hid (Bk _ _ _) := Bk.below XV.out hb22
  replace GV : Hid (Bk _ _ _) := Bk.below GV.out hb22
  replace GM : Hid (DE _ _ _ _ _ _ _) := DE.below GM.out hb22
  have hz22 := hb22.size
  clear hb22 ho21
  have hal : Below w22.heap.size w22 (w22.alloc (.cells (dsr r7 y s7 t7 z u7) 27)) := (Below.refl _ _).alloc (Nat.le_refl _) _
  have hvYV : w22.heap.size + 1 ≤ (w22.alloc (.cells (dsr r7 y s7 t7 z u7) 27)).heap.size := by simp
  replace HB : Hid (Below w.heap.size w _) := HB.out.trans (hal.mono HB.out.size)
  replace HE : Hid (Bk _ _ _) := Bk.below HE.out hal
  replace SV : Hid (Bk _ _ _) := Bk.below SV.out hal
  replace SA : Hid (DE _ _ _ _ _ _ _) := DE.below SA.out hal
  replace XV : Hid (Bk _ _ _) := Bk.below XV.out hal
  replace GV : Hid (Bk _ _ _) := Bk.below GV.out hal
  replace GM : Hid (DE _ _ _ _ _ _ _) := DE.below GM.out hal
  have YV : Hid (Bk (w22.alloc (.cells (dsr r7 y s7 t7 z u7) 27)) w22.heap.size (dsr r7 y s7 t7 z u7)) := Bk.new _ _ _ _ rfl
  have YA : Hid (DE (w22.alloc (.cells (dsr r7 y s7 t7 z u7) 27)) w21.heap.size w22.heap.size r7 ls t7 ms) := ho22.below hal
  clear hal ho22
  have g0 := YV.out.cell 0 _ rfl
  have g1 := YV.out.cell 1 _ rfl
  have s0 := SV.out.cell 0 _ rfl
  have s1 := SV.out.cell 1 _ rfl
  go_wp2_with fail
  refine Calls.mono (eq_dst r7 a7 y s7 c7 t7 b7 z u7 d7 ls ms _ (DE.seg1 YA.out) (DE.seg1 SA.out) HYL.out hy (DE.seg2 YA.out) (DE.seg2 SA.out) HZL.out hz) ?_
  rintro u w23 ⟨rfl, hb23⟩
  clear g0 g1
  clear s0 s1
  replace HB : Hid (Below w.heap.size w _) := HB.out.trans (hb23.mono HB.out.size)
  replace HE : Hid (Bk _ _ _) := Bk.below HE.out hb23
  replace SV : Hid (Bk _ _ _) := Bk.below SV.out hb23
  replace SA : Hid (DE _ _ _ _ _ _ _) := DE.below SA.out hb23
  replace XV : Hid (Bk _ _ _) := Bk.below XV.out hb23
  replace GV : Hid (Bk _ _ _) := Bk.below GV.out hb23
  replace GM : Hid (DE _ _ _ _ _ _ _) := DE.below GM.out hb23
  replace YV : Hid (Bk _ _ _) := Bk.below YV.out hb23
  replace YA : Hid (DE _ _ _ _ _ _ _) := DE.below YA.out hb23
  have hz23 := hb23.size
  clear hb23
  have g0 := GV.out.cell 0 _ rfl
  have g1 := GV.out.cell 1 _ rfl
  go_wp2_with fail
  refine Calls.mono (held_dst p7 y e7 q7 z f7 1 _ (DE.seg1 GM.out) hy (DE.seg2 GM.out) hz (by omega)) ?_
  rintro u w24 ⟨rfl, hb24⟩
  clear g0 g1
  replace HB : Hid (Below w.heap.size w _) := HB.out.trans (hb24.mono HB.out.size)
  replace HE : Hid (Bk _ _ _) := Bk.below HE.out hb24
  replace SV : Hid (Bk _ _ _) := Bk.below SV.out hb24
  replace SA : Hid (DE _ _ _ _ _ _ _) := DE.below SA.out hb24
  replace XV : Hid (Bk _ _ _) := Bk.below XV.out hb24
  replace GV : Hid (Bk _ _ _) := Bk.below GV.out hb24
  replace GM : Hid (DE _ _ _ _ _ _ _) := DE.below GM.out hb24
  replace YV : Hid (Bk _ _ _) := Bk.below YV.out hb24
  replace YA : Hid (DE _ _ _ _ _ _ _) := DE.below YA.out hb24
  have hz24 := hb24.size
  clear hb24
  rw [HK2.out]
  go_wp2
  go_ret
  exact ⟨rfl, HB.out⟩


/-! ### The row -/
set_option maxRecDepth 100000 in
theorem lifted (os : Os) (started : os.Started) (H : Type) (enc : TypeId × Value → H) :
    ReturnsInHanded {} Try.checked os 6 .any (Rows.fnExactDevReadSpec.pre6 enc Try.prog Try.f6 Rows.fnExactDevReadRow.domain false) (Rows.fnExactDevReadSpec.post enc Try.prog Try.f6 false true false false) := by
  refine returnsInHanded_of_change (C := Try.checked) own started (by kernel_rfl) Try.func6
    (ChangeSpec.witness6 (enc := enc) (C := Try.checked) false ⟨#[], #[dst none 0 0 none 0 0], []⟩ 8 (by kernel_rfl) (by kernel_rfl) (by kernel_rfl) (by kernel_rfl)) ?_
  intro W base args ds gs before hval0 hW hcnd _
  have hval : ∀ (j : Nat) t v, Try.f6.params[j]? = some t → args[j]? = some v → Value.okWide Try.prog W .any base t v := hval0
  have hW' := hW
  obtain ⟨p, q, hA0, hV, rfl, hfz, hnd⟩ := hW
  have hA : DataW.TrodAll enc Try.prog W 0 (fun _ => true) true Try.f6.params.toList args.toList ds p := hA0
  rw [Try.params6] at hA hval
  obtain ⟨v0, vs0, d0, ds0, p0, q0, hargs, rfl, rfl, h0, r0⟩ := trodAll_cons hA
  obtain ⟨rfl, rfl, rfl⟩ := trodAll_nil r0
  obtain rfl : args = #[v0] := by cases args; simp_all
  obtain ⟨rfl, rfl⟩ := trodVars_none hV
  have k0 := h0
  have lt0 : ∀ x ∈ p0, x.block < W.heap.size := by obtain ⟨m, hm⟩ := k0; exact DataW.trod_lt m _ _ _ hm
  obtain ⟨a, zs, c, b, ys, c2, rfl, hw1, hw2⟩ := dst_arg (hval 0 24 v0 rfl rfl) h0
  clear hA0 hval0
  refine (walk a zs.length c b ys.length c2 zs ys W hw1.seg rfl hw1.len hw2.seg rfl hw2.len).mono fun e W' ⟨he, bel⟩ => ?_
  subst he
  exact ⟨_, rfl, _, _, _, [], _, [], hW', (trodAll_cons_mk (shut_bool Try.underlying4 _) trodAll_mk0), (trodAll_cons_mk (Below.trod laidOut (by kernel_rfl) (of_decide_eq_true (by kernel_rfl)) k0 bel lt0) trodAll_mk0), rfl, bel.frame _, fun h => by cases h⟩

theorem over : Rows.fnExactDevReadRow.holds Try.pinned (OpenSpec.ofChange Rows.fnExactDevReadSpec) :=
  OpenClaim.holds_of_wide 6 Try.f6 rfl rfl rfl rfl rfl rfl rfl ⟨rfl, rfl, rfl, rfl, rfl⟩ rfl rfl rfl rfl rfl (by kernel_rfl) Try.func6 (by kernel_rfl)
    (of_decide_eq_true (by kernel_rfl)) (by unfold Func.isWrapper; first | (rw [if_pos (by decide +kernel)]; kernel_rfl) | (rw [if_neg (by decide +kernel)]; exact ⟨rfl, rfl⟩))
    (fun os started H enc _ => lifted os started H enc)

end Go.Proofs.Ythfmggfohegpnaa.fnExactDevRead
namespace Go.Proofs.Ythfmggfohegpnaa
theorem FnExactDevRead_holds : Rows.FnExactDevReadSaid := fnExactDevRead.over
end Go.Proofs.Ythfmggfohegpnaa
