
/-
  At every row of a channel and every end Room answers as its model and leaves its arguments as they were: the law FnExactRoom returns true and its arguments read as before. No conditions.
  Built over the program of the commit that COMMIT names.
-/
import Derived.Test.YtnkmppggfflhfaaRows
import Derived.WalkKit
import Derived.ProofKit
import Derived.OpenShut
import Derived.Below
import Derived.Carry
import Derived.Test.YtnkmppggfflhfaaChn
import Derived.Test.YtnkmppggfflhfaaChk
import Derived.ShutString
namespace Go.Proofs.Ytnkmppggfflhfaa.fnExactRoom
open Go.ChangeShapes Go.WideShapes Go.ChangeAt Go.RowKit Go.Deep
set_option linter.unusedVariables false

theorem own : ownKnob Try.prog.godebug = none := by kernel_rfl

/-! ### The walk -/
set_option maxRecDepth 20000 in
set_option maxHeartbeats 16000000 in
theorem walk (rk rf rt rd : Int) (hd : Int) (a : Option Addr) (cap n : Nat) (zs : List Int) (w : World) (hs : Seg .u32 w a zs) (hl : zs.length = n) (hn : n ≤ 9223372036854775807) :
    Calls Try.prog 6 #[crw rk rf rt rd, oen hd a n cap] w fun e w' => e = .returned (.bool true) ∧ Below w.heap.size w w' := by
  have hrb : n ≤ 9223372036854775807 := hn
  have HS0 : Hid (Seg .u32 w a zs) := hs
  have HL0 : Hid (zs.length = n) := hl
  clear hs hl hn
  have HB : Hid (Below w.heap.size w ((w.alloc (.cells (crow rk rf rt rd) 23)).alloc (.cells (orow hd a n cap) 30))) := ((Below.refl _ w).alloc (Nat.le_refl _) _).alloc (by simp) _
  have HR : Hid (Bk ((w.alloc (.cells (crow rk rf rt rd) 23)).alloc (.cells (orow hd a n cap) 30)) w.heap.size (crow rk rf rt rd)) := (Bk.new w _ _ _ rfl).alloc _
  have HE : Hid (Bk ((w.alloc (.cells (crow rk rf rt rd) 23)).alloc (.cells (orow hd a n cap) 30)) (w.heap.size + 1) (orow hd a n cap)) := Bk.new _ _ _ _ (by simp)
  go_enter Try.func6, Try.ntmps6
  go_wp2_with fail
  refine Calls.mono (sz_out hd a cap n 1048576 _ hrb (Nat.le_refl _)) ?_
  rintro u w11 ⟨⟨r, rfl, hr⟩, hb11⟩
  replace HB : Hid (Below w.heap.size w _) := HB.out.trans (hb11.mono HB.out.size)
  replace HR : Hid (Bk _ _ _) := Bk.below HR.out hb11
  replace HE : Hid (Bk _ _ _) := Bk.below HE.out hb11
  clear hb11
  rcases hr with hr | ⟨hr, hbig⟩
  · go_wp2
    go_ret
    exact ⟨rfl, HB.out⟩
  have hr0 : ¬ (r < 0) := by omega
  have hrow : w.heap.size + 1 < w11.heap.size := HE.out.lt
  have TO : Hid (∀ X, Below w.heap.size w X → Calls Try.prog 19 #[oen hd a n cap] X fun e w' => ∃ a', e = .returned (oen hd a' n n) ∧ Below X.heap.size X w' ∧ OE w' X.heap.size w'.heap.size a' zs) := fun X hX => to_out hd a cap n zs X (HS0.out.below hX) HL0.out hbig
  have EQ : Hid (∀ (X : World) a1 a2, Seg .u32 X a1 zs → Seg .u32 X a2 zs → Calls Try.prog 21 #[oen hd a1 n n, oen hd a2 n n] X fun e w' => e = .returned (.bool true) ∧ Below X.heap.size X w') := fun X a1 a2 h1 h2 => eq_out hd a1 a2 n n n zs X h1 h2 HL0.out hbig
  obtain ⟨q, HQ⟩ : ∃ q : Int, Hid (roomF rk rf rt rd hd (n : Int) = q) := ⟨_, rfl⟩
  have SP : Hid (∀ (X : World) a1, Seg .u32 X a1 zs → Calls Try.prog 27 #[crw rk rf rt rd, oen hd a1 n n] X fun e w' => e = .returned (.int .i64 q) ∧ Below X.heap.size X w') := fun X a1 _ => spec_room rk rf rt rd hd a1 n n q X HQ hbig
  have IM : Hid (∀ (X : World) a1, Seg .u32 X a1 zs → Calls Try.prog 28 #[crw rk rf rt rd, oen hd a1 n n] X fun e w' => e = .returned (.int .i64 q) ∧ Below X.heap.size X w') := fun X a1 h1 => impl_room rk rf rt rd hd a1 n n q X HQ hbig
  clear HQ
  have hb : Below w11.heap.size w11 w11 := Below.refl _ _
  have HBX : Hid (∀ X, Below w11.heap.size w11 X → Below w.heap.size w X) := fun X hX => HB.out.trans (hX.mono HB.out.size)
  have AC0 : Hid (w11.cell? ⟨w.heap.size, 0, none⟩ = some (.int .i64 rk)) := HR.out.cell 0 _ rfl
  have ac0 := AC0.out
  have AC1 : Hid (w11.cell? ⟨w.heap.size, 1, none⟩ = some (.int .i64 rf)) := HR.out.cell 1 _ rfl
  have ac1 := AC1.out
  have AC2 : Hid (w11.cell? ⟨w.heap.size, 2, none⟩ = some (.int .i64 rt)) := HR.out.cell 2 _ rfl
  have ac2 := AC2.out
  have AC3 : Hid (w11.cell? ⟨w.heap.size, 3, none⟩ = some (.int .i64 rd)) := HR.out.cell 3 _ rfl
  have ac3 := AC3.out
  have BC0 : Hid (w11.cell? ⟨w.heap.size + 1, 0, none⟩ = some (.int .i64 hd)) := HE.out.cell 0 _ rfl
  have bc0 := BC0.out
  have BC1 : Hid (w11.cell? ⟨w.heap.size + 1, 1, none⟩ = some (.slice a n cap)) := HE.out.cell 1 _ rfl
  have bc1 := BC1.out
  try go_wp2
  go_region_held_law (fun w' => w'.cell? ⟨w.heap.size, 0, none⟩ = some (.int .i64 rk) ∧ w'.cell? ⟨w.heap.size, 1, none⟩ = some (.int .i64 rf) ∧ w'.cell? ⟨w.heap.size, 2, none⟩ = some (.int .i64 rt) ∧ w'.cell? ⟨w.heap.size, 3, none⟩ = some (.int .i64 rd) ∧ w'.cell? ⟨w.heap.size + 1, 0, none⟩ = some (.int .i64 hd) ∧ w'.cell? ⟨w.heap.size + 1, 1, none⟩ = some (.slice a n cap)) (first | with_reducible exact ⟨ac0, ac1, ac2, ac3, bc0, bc1⟩ | with_reducible exact ⟨dr_c ac0, dr_c ac1, dr_c ac2, dr_c ac3, dr_c bc0, dr_c bc1⟩ | with_reducible exact ⟨al_c _ ac0, al_c _ ac1, al_c _ ac2, al_c _ ac3, al_c _ bc0, al_c _ bc1⟩ | with_reducible exact ⟨al_c _ (dr_c ac0), al_c _ (dr_c ac1), al_c _ (dr_c ac2), al_c _ (dr_c ac3), al_c _ (dr_c bc0), al_c _ (dr_c bc1)⟩ | with_reducible exact ⟨dr_c (al_c _ ac0), dr_c (al_c _ ac1), dr_c (al_c _ ac2), dr_c (al_c _ ac3), dr_c (al_c _ bc0), dr_c (al_c _ bc1)⟩)
    (first | (go_at_call 15; refine Calls.mono (to_row rk rf rt rd _) ?_; rintro u w99 ⟨rfl, hbb⟩; have hbn := (by first | exact hb.trans (hbb.mono hb.size) | exact hb.drew.trans (hbb.mono hb.drew.size) | exact (hb.alloc hb.size _).trans (hbb.mono (hb.alloc hb.size _).size) | exact ((hb.alloc hb.size _).drew).trans (hbb.mono ((hb.alloc hb.size _).drew).size)); replace hb := hbn; clear hbn; replace ac0 := kept_c hb AC0.out; replace ac1 := kept_c hb AC1.out; replace ac2 := kept_c hb AC2.out; replace ac3 := kept_c hb AC3.out; replace bc0 := kept_c hb BC0.out; replace bc1 := kept_c hb BC1.out; (first | replace hsO := oe_kept hbb hsO | replace hsO := oe_kept hbb (oe_kept ((Below.refl _ _).alloc (Nat.le_refl _) _) hsO) | skip); have hz90 := hb.size; clear hbb) | (go_at_call 19; refine Calls.mono (TO.out _ (HBX.out _ (by first | exact hb | exact hb.drew | exact hb.alloc hb.size _ | exact (hb.alloc hb.size _).drew))) ?_; rintro u w98 ⟨a9, rfl, hbb, hsO⟩; have hbn := (by first | exact hb.trans (hbb.mono hb.size) | exact hb.drew.trans (hbb.mono hb.drew.size) | exact (hb.alloc hb.size _).trans (hbb.mono (hb.alloc hb.size _).size) | exact ((hb.alloc hb.size _).drew).trans (hbb.mono ((hb.alloc hb.size _).drew).size)); replace hb := hbn; clear hbn; replace ac0 := kept_c hb AC0.out; replace ac1 := kept_c hb AC1.out; replace ac2 := kept_c hb AC2.out; replace ac3 := kept_c hb AC3.out; replace bc0 := kept_c hb BC0.out; replace bc1 := kept_c hb BC1.out; have hz91 := hb.size; clear hbb) | (go_at_call 27; refine Calls.mono (SP.out _ a9 (by first | exact OE.seg hsO | exact OE.seg (oe_kept ((Below.refl _ _).alloc (Nat.le_refl _) _) hsO))) ?_; rintro u w97 ⟨rfl, hbb⟩; have hbn := (by first | exact hb.trans (hbb.mono hb.size) | exact hb.drew.trans (hbb.mono hb.drew.size) | exact (hb.alloc hb.size _).trans (hbb.mono (hb.alloc hb.size _).size) | exact ((hb.alloc hb.size _).drew).trans (hbb.mono ((hb.alloc hb.size _).drew).size)); replace hb := hbn; clear hbn; replace ac0 := kept_c hb AC0.out; replace ac1 := kept_c hb AC1.out; replace ac2 := kept_c hb AC2.out; replace ac3 := kept_c hb AC3.out; replace bc0 := kept_c hb BC0.out; replace bc1 := kept_c hb BC1.out; have hz92 := hb.size; clear hbb))
  all_goals
    rename_i hhh
    clear hhh
    have hbR := hb
    clear hb ac0 ac1 ac2 ac3 bc0 bc1
    try clear hsO
    clear hz90 hz91 hz92
    revert hbR
    revert w97
    try clear a9
    try clear w98
    try clear w99
    try clear w98
    refine ?wayS
  intro w97 hbR
  clear HBX AC0 AC1 AC2 AC3 BC0 BC1
  replace HB : Hid (Below w.heap.size w _) := HB.out.trans (hbR.mono HB.out.size)
  replace HR : Hid (Bk _ _ _) := Bk.below HR.out hbR
  replace HE : Hid (Bk _ _ _) := Bk.below HE.out hbR
  clear hbR
  have g0 := HE.out.cell 0 _ rfl
  have g1 := HE.out.cell 1 _ rfl
  go_wp2_with fail
  refine Calls.mono (TO.out _ HB.out) ?_
  rintro u w12 ⟨a12, rfl, hb12, ho12⟩
  clear g0 g1
  have hal : Below w12.heap.size w12 (w12.alloc (.cells (orow hd a12 n n) 33)) := (Below.refl _ _).alloc (Nat.le_refl _) _
  have hb12' := hb12.trans (hal.mono hb12.size)
  replace HB : Hid (Below w.heap.size w _) := HB.out.trans (hb12'.mono HB.out.size)
  replace HR : Hid (Bk _ _ _) := Bk.below HR.out hb12'
  replace HE : Hid (Bk _ _ _) := Bk.below HE.out hb12'
  have hXA : OE (w12.alloc (.cells (orow hd a12 n n) 33)) w97.heap.size w12.heap.size a12 zs := ho12.below hal
  have hXV : Bk (w12.alloc (.cells (orow hd a12 n n) 33)) w12.heap.size (orow hd a12 n n) := Bk.new _ _ _ _ rfl
  clear hb12 hb12' hal ho12
  go_wp2
  revert hXA hXV HB HR HE
  generalize (w12.alloc (.cells (orow hd a12 n n) 33)) = V1
  generalize w12.heap.size = kx
  intro HB HR HE hXA hXV
  have XA : Hid (OE V1 w97.heap.size kx a12 zs) := hXA
  have XV : Hid (Bk V1 kx (orow hd a12 n n)) := hXV
  clear hXA hXV
  have HXS : Hid (∀ X, Below V1.heap.size V1 X → Seg .u32 X a12 zs) := fun X hX => OE.seg (OE.below XA.out hX)
  have hb : Below V1.heap.size V1 V1 := Below.refl _ _
  have HBX : Hid (∀ X, Below V1.heap.size V1 X → Below w.heap.size w X) := fun X hX => HB.out.trans (hX.mono HB.out.size)
  have AC0 : Hid (V1.cell? ⟨w.heap.size, 0, none⟩ = some (.int .i64 rk)) := HR.out.cell 0 _ rfl
  have ac0 := AC0.out
  have AC1 : Hid (V1.cell? ⟨w.heap.size, 1, none⟩ = some (.int .i64 rf)) := HR.out.cell 1 _ rfl
  have ac1 := AC1.out
  have AC2 : Hid (V1.cell? ⟨w.heap.size, 2, none⟩ = some (.int .i64 rt)) := HR.out.cell 2 _ rfl
  have ac2 := AC2.out
  have AC3 : Hid (V1.cell? ⟨w.heap.size, 3, none⟩ = some (.int .i64 rd)) := HR.out.cell 3 _ rfl
  have ac3 := AC3.out
  have BC0 : Hid (V1.cell? ⟨kx, 0, none⟩ = some (.int .i64 hd)) := XV.out.cell 0 _ rfl
  have bc0 := BC0.out
  have BC1 : Hid (V1.cell? ⟨kx, 1, none⟩ = some (.slice a12 n n)) := XV.out.cell 1 _ rfl
  have bc1 := BC1.out
  try go_wp2
  go_region_held_law (fun w' => w'.cell? ⟨w.heap.size, 0, none⟩ = some (.int .i64 rk) ∧ w'.cell? ⟨w.heap.size, 1, none⟩ = some (.int .i64 rf) ∧ w'.cell? ⟨w.heap.size, 2, none⟩ = some (.int .i64 rt) ∧ w'.cell? ⟨w.heap.size, 3, none⟩ = some (.int .i64 rd) ∧ w'.cell? ⟨kx, 0, none⟩ = some (.int .i64 hd) ∧ w'.cell? ⟨kx, 1, none⟩ = some (.slice a12 n n)) (first | with_reducible exact ⟨ac0, ac1, ac2, ac3, bc0, bc1⟩ | with_reducible exact ⟨dr_c ac0, dr_c ac1, dr_c ac2, dr_c ac3, dr_c bc0, dr_c bc1⟩ | with_reducible exact ⟨al_c _ ac0, al_c _ ac1, al_c _ ac2, al_c _ ac3, al_c _ bc0, al_c _ bc1⟩ | with_reducible exact ⟨al_c _ (dr_c ac0), al_c _ (dr_c ac1), al_c _ (dr_c ac2), al_c _ (dr_c ac3), al_c _ (dr_c bc0), al_c _ (dr_c bc1)⟩ | with_reducible exact ⟨dr_c (al_c _ ac0), dr_c (al_c _ ac1), dr_c (al_c _ ac2), dr_c (al_c _ ac3), dr_c (al_c _ bc0), dr_c (al_c _ bc1)⟩)
    (first | (go_at_call 15; refine Calls.mono (to_row rk rf rt rd _) ?_; rintro u w89 ⟨rfl, hbb⟩; have hbn := (by first | exact hb.trans (hbb.mono hb.size) | exact hb.drew.trans (hbb.mono hb.drew.size) | exact (hb.alloc hb.size _).trans (hbb.mono (hb.alloc hb.size _).size) | exact ((hb.alloc hb.size _).drew).trans (hbb.mono ((hb.alloc hb.size _).drew).size)); replace hb := hbn; clear hbn; replace ac0 := kept_c hb AC0.out; replace ac1 := kept_c hb AC1.out; replace ac2 := kept_c hb AC2.out; replace ac3 := kept_c hb AC3.out; replace bc0 := kept_c hb BC0.out; replace bc1 := kept_c hb BC1.out; have hz90 := hb.size; clear hbb) | (go_at_call 28; refine Calls.mono (IM.out _ a12 (HXS.out _ (by first | exact hb | exact hb.drew))) ?_; rintro u w87 ⟨rfl, hbb⟩; have hbn := (by first | exact hb.trans (hbb.mono hb.size) | exact hb.drew.trans (hbb.mono hb.drew.size) | exact (hb.alloc hb.size _).trans (hbb.mono (hb.alloc hb.size _).size) | exact ((hb.alloc hb.size _).drew).trans (hbb.mono ((hb.alloc hb.size _).drew).size)); replace hb := hbn; clear hbn; replace ac0 := kept_c hb AC0.out; replace ac1 := kept_c hb AC1.out; replace ac2 := kept_c hb AC2.out; replace ac3 := kept_c hb AC3.out; replace bc0 := kept_c hb BC0.out; replace bc1 := kept_c hb BC1.out; have hz91 := hb.size; clear hbb))
  all_goals
    rename_i hhh
    clear hhh
    have hbR := hb
    clear hb ac0 ac1 ac2 ac3 bc0 bc1
    clear hz90 hz91
    revert hbR
    revert w87
    try clear w89
    refine ?wayI
  intro w87 hbR
  clear HBX HXS AC0 AC1 AC2 AC3 BC0 BC1
  replace HB : Hid (Below w.heap.size w _) := HB.out.trans (hbR.mono HB.out.size)
  replace HR : Hid (Bk _ _ _) := Bk.below HR.out hbR
  replace HE : Hid (Bk _ _ _) := Bk.below HE.out hbR
  replace XA : Hid (OE _ _ _ _ _) := OE.below XA.out hbR
  replace XV : Hid (Bk _ _ _) := Bk.below XV.out hbR
  clear hbR
  go_wp2
  have HXS : Hid (∀ X, Below w87.heap.size w87 X → Seg .u32 X a12 zs) := fun X hX => OE.seg (OE.below XA.out hX)
  have hb : Below w87.heap.size w87 w87 := Below.refl _ _
  have HBX : Hid (∀ X, Below w87.heap.size w87 X → Below w.heap.size w X) := fun X hX => HB.out.trans (hX.mono HB.out.size)
  have AC0 : Hid (w87.cell? ⟨kx, 0, none⟩ = some (.int .i64 hd)) := XV.out.cell 0 _ rfl
  have ac0 := AC0.out
  have AC1 : Hid (w87.cell? ⟨kx, 1, none⟩ = some (.slice a12 n n)) := XV.out.cell 1 _ rfl
  have ac1 := AC1.out
  have BC0 : Hid (w87.cell? ⟨w.heap.size + 1, 0, none⟩ = some (.int .i64 hd)) := HE.out.cell 0 _ rfl
  have bc0 := BC0.out
  have BC1 : Hid (w87.cell? ⟨w.heap.size + 1, 1, none⟩ = some (.slice a n cap)) := HE.out.cell 1 _ rfl
  have bc1 := BC1.out
  try go_wp2
  go_region_held_law (fun w' => w'.cell? ⟨kx, 0, none⟩ = some (.int .i64 hd) ∧ w'.cell? ⟨kx, 1, none⟩ = some (.slice a12 n n) ∧ w'.cell? ⟨w.heap.size + 1, 0, none⟩ = some (.int .i64 hd) ∧ w'.cell? ⟨w.heap.size + 1, 1, none⟩ = some (.slice a n cap)) (first | with_reducible exact ⟨ac0, ac1, bc0, bc1⟩ | with_reducible exact ⟨dr_c ac0, dr_c ac1, dr_c bc0, dr_c bc1⟩ | with_reducible exact ⟨al_c _ ac0, al_c _ ac1, al_c _ bc0, al_c _ bc1⟩ | with_reducible exact ⟨al_c _ (dr_c ac0), al_c _ (dr_c ac1), al_c _ (dr_c bc0), al_c _ (dr_c bc1)⟩ | with_reducible exact ⟨dr_c (al_c _ ac0), dr_c (al_c _ ac1), dr_c (al_c _ bc0), dr_c (al_c _ bc1)⟩)
    (first | (go_at_call 19; refine Calls.mono (TO.out _ (HBX.out _ (by first | exact hb | exact hb.drew | exact hb.alloc hb.size _ | exact (hb.alloc hb.size _).drew))) ?_; rintro u w78 ⟨a8, rfl, hbb, hsO⟩; have hbn := (by first | exact hb.trans (hbb.mono hb.size) | exact hb.drew.trans (hbb.mono hb.drew.size) | exact (hb.alloc hb.size _).trans (hbb.mono (hb.alloc hb.size _).size) | exact ((hb.alloc hb.size _).drew).trans (hbb.mono ((hb.alloc hb.size _).drew).size)); replace hb := hbn; clear hbn; replace ac0 := kept_c hb AC0.out; replace ac1 := kept_c hb AC1.out; replace bc0 := kept_c hb BC0.out; replace bc1 := kept_c hb BC1.out; have hz90 := hb.size; clear hbb) | (go_at_call 21; refine Calls.mono (EQ.out _ a12 a8 (HXS.out _ (by first | exact hb | exact hb.drew)) (by first | exact OE.seg hsO | exact OE.seg (oe_kept ((Below.refl _ _).alloc (Nat.le_refl _) _) hsO))) ?_; rintro u w77 ⟨rfl, hbb⟩; have hbn := (by first | exact hb.trans (hbb.mono hb.size) | exact hb.drew.trans (hbb.mono hb.drew.size) | exact (hb.alloc hb.size _).trans (hbb.mono (hb.alloc hb.size _).size) | exact ((hb.alloc hb.size _).drew).trans (hbb.mono ((hb.alloc hb.size _).drew).size)); replace hb := hbn; clear hbn; replace ac0 := kept_c hb AC0.out; replace ac1 := kept_c hb AC1.out; replace bc0 := kept_c hb BC0.out; replace bc1 := kept_c hb BC1.out; have hz91 := hb.size; clear hbb))
  all_goals
    rename_i hhh
    clear hhh
    have hbR := hb
    clear hb ac0 ac1 bc0 bc1
    try clear hsO
    clear hz90 hz91
    revert hbR
    revert w77
    try clear a8
    try clear w78
    refine ?wayE
  intro w77 hbR
  clear HBX HXS AC0 AC1 BC0 BC1
  replace HB : Hid (Below w.heap.size w _) := HB.out.trans (hbR.mono HB.out.size)
  replace HR : Hid (Bk _ _ _) := Bk.below HR.out hbR
  replace HE : Hid (Bk _ _ _) := Bk.below HE.out hbR
  replace XA : Hid (OE _ _ _ _ _) := OE.below XA.out hbR
  replace XV : Hid (Bk _ _ _) := Bk.below XV.out hbR
  clear hbR
  go_wp2
  go_ret
  exact ⟨rfl, HB.out⟩


/-! ### The row -/
set_option maxRecDepth 100000 in
theorem lifted (os : Os) (started : os.Started) (H : Type) (enc : TypeId × Value → H) :
    ReturnsInHanded {} Try.checked os 6 .any (Rows.fnExactRoomSpec.pre6 enc Try.prog Try.f6 Rows.fnExactRoomRow.domain false) (Rows.fnExactRoomSpec.post enc Try.prog Try.f6 false true false false) := by
  refine returnsInHanded_of_change (C := Try.checked) own started (by kernel_rfl) Try.func6
    (ChangeSpec.witness6 (enc := enc) (C := Try.checked) false ⟨#[], #[crw 0 0 0 0, oen 0 none 0 0], []⟩ 8 (by kernel_rfl) (by kernel_rfl) (by kernel_rfl) (by kernel_rfl)) ?_
  intro W base args ds gs before hval0 hW hcnd _
  have hval : ∀ (j : Nat) t v, Try.f6.params[j]? = some t → args[j]? = some v → Value.okWide Try.prog W .any base t v := hval0
  have hW' := hW
  obtain ⟨p, q, hA0, hV, rfl, hfz, hnd⟩ := hW
  have hA : DataW.TrodAll enc Try.prog W 0 (fun _ => true) true Try.f6.params.toList args.toList ds p := hA0
  rw [Try.params6] at hA hval
  obtain ⟨v0, vs0, d0, ds0, p0, q0, hargs, rfl, rfl, h0, r0⟩ := trodAll_cons hA
  obtain ⟨v1, vs1, d1, ds1, p1, q1, rfl, rfl, rfl, h1, r1⟩ := trodAll_cons r0
  obtain ⟨rfl, rfl, rfl⟩ := trodAll_nil r1
  obtain rfl : args = #[v0, v1] := by cases args; simp_all
  obtain ⟨rfl, rfl⟩ := trodVars_none hV
  have k1 := h1
  have lt1 : ∀ x ∈ p1, x.block < W.heap.size := by obtain ⟨m, hm⟩ := k1; exact DataW.trod_lt m _ _ _ hm
  obtain ⟨rk, rf, rt, rd, rfl, rfl, rfl, w0⟩ := crw_open (hval 0 23 v0 rfl rfl) h0
  obtain ⟨hd, a, zs, c, rfl, wh, hw1⟩ := out_arg (hval 1 30 v1 rfl rfl) h1
  clear hA0 hval0
  refine (walk rk rf rt rd hd a c zs.length zs W hw1.seg rfl hw1.len).mono fun e W' ⟨he, bel⟩ => ?_
  subst he
  exact ⟨_, rfl, _, _, _, [], _, [], hW', (trodAll_cons_mk (shut_bool Try.underlying4 _) trodAll_mk0), (trodAll_cons_mk (crw_reads w0) (trodAll_cons_mk (Below.trod laidOut (by kernel_rfl) (of_decide_eq_true (by kernel_rfl)) k1 bel lt1) trodAll_mk0)), rfl, bel.frame _, fun h => by cases h⟩

theorem over : Rows.fnExactRoomRow.holds Try.pinned (OpenSpec.ofChange Rows.fnExactRoomSpec) :=
  OpenClaim.holds_of_wide 6 Try.f6 rfl rfl rfl rfl rfl rfl rfl ⟨rfl, rfl, rfl, rfl, rfl⟩ rfl rfl rfl rfl rfl (by kernel_rfl) Try.func6 (by kernel_rfl)
    (of_decide_eq_true (by kernel_rfl)) (by unfold Func.isWrapper; first | (rw [if_pos (by decide +kernel)]; kernel_rfl) | (rw [if_neg (by decide +kernel)]; exact ⟨rfl, rfl⟩))
    (fun os started H enc _ => lifted os started H enc)

end Go.Proofs.Ytnkmppggfflhfaa.fnExactRoom
namespace Go.Proofs.Ytnkmppggfflhfaa
theorem FnExactRoom_holds : Rows.FnExactRoomSaid := fnExactRoom.over
end Go.Proofs.Ytnkmppggfflhfaa
