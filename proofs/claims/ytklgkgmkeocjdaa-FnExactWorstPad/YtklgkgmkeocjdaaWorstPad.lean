
/-
  At all costs, shapes and lists of channels WorstPad answers as its model and leaves its list as it was: the law FnExactWorstPad returns true and its arguments read as before. No conditions.
  Built over the program of the commit that COMMIT names.
-/
import Derived.Test.YtklgkgmkeocjdaaBas
import Derived.Test.YtklgkgmkeocjdaaRows
import Derived.WalkKit
import Derived.ProofKit
import Derived.OpenShut
import Derived.Below
import Derived.Deep.RegionHeldLaw
import Derived.Test.YtklgkgmkeocjdaaWpd
import Derived.Test.YtklgkgmkeocjdaaCrs
import Derived.Test.YtklgkgmkeocjdaaSho
import Derived.Test.YtklgkgmkeocjdaaCop
import Derived.ShutString
namespace Go.Proofs.Ytklgkgmkeocjdaa.fnExactWorstPad
open Go.ChangeShapes Go.WideShapes Go.ChangeAt Go.RowKit Go.Deep
set_option linter.unusedVariables false

theorem own : ownKnob Try.prog.godebug = none := by kernel_rfl
theorem kept_c {w w' : World} {p : Addr} {v : Value} (hb : Below w.heap.size w w') (h : w.cell? p = some v) : w'.cell? p = some v :=
  (hb.cell (p := p) (World.block_lt_of_cell? w _ h)).trans h
theorem al_c {w : World} {p : Addr} {v : Value} (o : Obj) (h : w.cell? p = some v) : (w.alloc o).cell? p = some v := kept_c ((Below.refl _ _).alloc (Nat.le_refl _) _) h
theorem dr_c {w : World} {p : Addr} {v : Value} (h : w.cell? p = some v) : w.drew.cell? p = some v := h
theorem gs_kept {k n : Nat} {w w' : World} {a : Option Addr} {X : Nat → List Value} (hb : Below w.heap.size w w') (h : GSeg k w a n X) : GSeg k w' a n X := h.below hb

/-! ### The walk -/
set_option maxRecDepth 20000 in
set_option maxHeartbeats 16000000 in
theorem walk (b m e s k t l s1 s2 s3 : Int) (a : Option Addr) (cap n : Nat) (xs : List chT) (w : World) (hs : GSeg 4 w a n (chX xs)) (hn : n ≤ 9223372036854775807) :
    Calls Try.prog 4 #[cst b m e s k t l, shp s1 s2 s3, .slice a n cap] w fun e w' => e = .returned (.bool true) ∧ Below w.heap.size w w' := by
  have hrb : n ≤ 9223372036854775807 := hn
  have HS0 : Hid (GSeg 4 w a n (chX xs)) := hs
  clear hs hn
  have HB : Hid (Below w.heap.size w ((w.alloc (crow 29 b m e s k t l)).alloc (shrow 31 s1 s2 s3))) := ((Below.refl _ w).alloc (Nat.le_refl _) _).alloc (by simp) _
  have HR : Hid (CellsAt ((w.alloc (crow 29 b m e s k t l)).alloc (shrow 31 s1 s2 s3)) w.heap.size 0 [.int .i64 b, .int .i64 m, .int .i64 e, .int .i64 s, .int .i64 k, .int .i64 t, .int .i64 l]) := (CellsAt.new w [.int .i64 b, .int .i64 m, .int .i64 e, .int .i64 s, .int .i64 k, .int .i64 t, .int .i64 l] 29 _ rfl).alloc _
  have HE : Hid (CellsAt ((w.alloc (crow 29 b m e s k t l)).alloc (shrow 31 s1 s2 s3)) (w.heap.size + 1) 0 [.int .i64 s1, .int .i64 s2, .int .i64 s3]) := CellsAt.new _ [.int .i64 s1, .int .i64 s2, .int .i64 s3] 31 _ (by simp)
  go_enter Try.func4, Try.ntmps4
  go_wp2_with fail
  refine Calls.mono (ch_sz a cap n 1048576 _ hrb (Nat.le_refl _)) ?_
  rintro u w11 ⟨⟨r, rfl, hr⟩, rfl⟩
  rcases hr with rfl | ⟨hr, hbig⟩
  · go_wp2
    go_ret
    exact ⟨rfl, HB.out⟩
  have hr0 : ¬ (r < 0) := by omega
  clear hr
  obtain ⟨v, HV⟩ : ∃ v : Int, Hid ((padOk b m e s k t l s1 s2 s3 xs n → v = b * (16 + mostN xs n) + l * (s1 * s2)) ∧ (¬ padOk b m e s k t l s1 s2 s3 xs n → v = -1)) := by
    by_cases g : padOk b m e s k t l s1 s2 s3 xs n
    · exact ⟨_, fun _ => rfl, fun h => absurd g h⟩
    · exact ⟨-1, fun h => absurd h g, fun _ => rfl⟩
  have HVV : Hid (∀ v' : Int, (padOk b m e s k t l s1 s2 s3 xs n → v' = b * (16 + mostN xs n) + l * (s1 * s2)) → (¬ padOk b m e s k t l s1 s2 s3 xs n → v' = -1) → v' = v) := fun v' h1 h2 => by
    by_cases g : padOk b m e s k t l s1 s2 s3 xs n
    · rw [h1 g, HV.out.1 g]
    · rw [h2 g, HV.out.2 g]
  have TO : Hid (∀ X, Below w.heap.size w X → Calls Try.prog 12 #[.slice a n cap] X fun e w' => ∃ a', e = .returned (.slice a' n n) ∧ Below X.heap.size X w' ∧ GSeg 4 w' a' n (chX xs)) := fun X hX =>
    (ch_tos a cap n xs X (HS0.out.below hX) hbig).mono fun e w' ⟨h1, h2, h3⟩ => ⟨_, h1, h2, h3.seg⟩
  have EQ : Hid (∀ (X : World) a1 a2, GSeg 4 X a1 n (chX xs) → GSeg 4 X a2 n (chX xs) → Calls Try.prog 14 #[.slice a1 n n, .slice a2 n n] X fun e w' => e = .returned (.bool true) ∧ Below X.heap.size X w') := fun X a1 a2 h1 h2 => ch_eqs a1 a2 n n n xs X h1 h2 hbig
  have SP : Hid (∀ (X : World) a1, GSeg 4 X a1 n (chX xs) → Calls Try.prog 9 #[cst b m e s k t l, shp s1 s2 s3, .slice a1 n n] X fun e w' => e = .returned (.int .i64 v) ∧ Below X.heap.size X w') := fun X a1 h => (spec_pad b m e s k t l s1 s2 s3 a1 n n xs X h hrb).mono fun e w' ⟨⟨v', h1, h2, h3⟩, h4⟩ => ⟨by rw [h1, HVV.out v' h2 h3], h4⟩
  have IM : Hid (∀ (X : World) a1, GSeg 4 X a1 n (chX xs) → Calls Try.prog 13 #[cst b m e s k t l, shp s1 s2 s3, .slice a1 n n] X fun e w' => e = .returned (.int .i64 v) ∧ Below X.heap.size X w') := fun X a1 h => (impl_pad b m e s k t l s1 s2 s3 a1 n n xs X h hrb).mono fun e w' ⟨⟨v', h1, h2, h3⟩, h4⟩ => ⟨by rw [h1, HVV.out v' h2 h3], h4⟩
  clear HV HVV
  have hnn : (v != v) = false := by simp
  generalize HW0 : (w.alloc (crow 29 b m e s k t l)).alloc (shrow 31 s1 s2 s3) = V0 at HB HR HE
  have hb : Below V0.heap.size V0 V0 := Below.refl _ _
  have HBX : Hid (∀ X, Below V0.heap.size V0 X → Below w.heap.size w X) := fun X hX => HB.out.trans (hX.mono HB.out.size)
  have AC0 : Hid (V0.cell? ⟨w.heap.size, 0, none⟩ = some (.int .i64 b)) := HR.out 0 _ rfl
  have ac0 := AC0.out
  have AC1 : Hid (V0.cell? ⟨w.heap.size, 1, none⟩ = some (.int .i64 m)) := HR.out 1 _ rfl
  have ac1 := AC1.out
  have AC2 : Hid (V0.cell? ⟨w.heap.size, 2, none⟩ = some (.int .i64 e)) := HR.out 2 _ rfl
  have ac2 := AC2.out
  have AC3 : Hid (V0.cell? ⟨w.heap.size, 3, none⟩ = some (.int .i64 s)) := HR.out 3 _ rfl
  have ac3 := AC3.out
  have AC4 : Hid (V0.cell? ⟨w.heap.size, 4, none⟩ = some (.int .i64 k)) := HR.out 4 _ rfl
  have ac4 := AC4.out
  have AC5 : Hid (V0.cell? ⟨w.heap.size, 5, none⟩ = some (.int .i64 t)) := HR.out 5 _ rfl
  have ac5 := AC5.out
  have AC6 : Hid (V0.cell? ⟨w.heap.size, 6, none⟩ = some (.int .i64 l)) := HR.out 6 _ rfl
  have ac6 := AC6.out
  have BC0 : Hid (V0.cell? ⟨w.heap.size + 1, 0, none⟩ = some (.int .i64 s1)) := HE.out 0 _ rfl
  have bc0 := BC0.out
  have BC1 : Hid (V0.cell? ⟨w.heap.size + 1, 1, none⟩ = some (.int .i64 s2)) := HE.out 1 _ rfl
  have bc1 := BC1.out
  have BC2 : Hid (V0.cell? ⟨w.heap.size + 1, 2, none⟩ = some (.int .i64 s3)) := HE.out 2 _ rfl
  have bc2 := BC2.out
  go_wp2
  clear HW0
  go_region_held_law (fun w' => w'.cell? ⟨w.heap.size, 0, none⟩ = some (.int .i64 b) ∧ w'.cell? ⟨w.heap.size, 1, none⟩ = some (.int .i64 m) ∧ w'.cell? ⟨w.heap.size, 2, none⟩ = some (.int .i64 e) ∧ w'.cell? ⟨w.heap.size, 3, none⟩ = some (.int .i64 s) ∧ w'.cell? ⟨w.heap.size, 4, none⟩ = some (.int .i64 k) ∧ w'.cell? ⟨w.heap.size, 5, none⟩ = some (.int .i64 t) ∧ w'.cell? ⟨w.heap.size, 6, none⟩ = some (.int .i64 l) ∧ w'.cell? ⟨w.heap.size + 1, 0, none⟩ = some (.int .i64 s1) ∧ w'.cell? ⟨w.heap.size + 1, 1, none⟩ = some (.int .i64 s2) ∧ w'.cell? ⟨w.heap.size + 1, 2, none⟩ = some (.int .i64 s3)) (first | with_reducible exact ⟨ac0, ac1, ac2, ac3, ac4, ac5, ac6, bc0, bc1, bc2⟩ | with_reducible exact ⟨dr_c ac0, dr_c ac1, dr_c ac2, dr_c ac3, dr_c ac4, dr_c ac5, dr_c ac6, dr_c bc0, dr_c bc1, dr_c bc2⟩ | with_reducible exact ⟨al_c _ ac0, al_c _ ac1, al_c _ ac2, al_c _ ac3, al_c _ ac4, al_c _ ac5, al_c _ ac6, al_c _ bc0, al_c _ bc1, al_c _ bc2⟩ | with_reducible exact ⟨al_c _ (dr_c ac0), al_c _ (dr_c ac1), al_c _ (dr_c ac2), al_c _ (dr_c ac3), al_c _ (dr_c ac4), al_c _ (dr_c ac5), al_c _ (dr_c ac6), al_c _ (dr_c bc0), al_c _ (dr_c bc1), al_c _ (dr_c bc2)⟩ | with_reducible exact ⟨dr_c (al_c _ ac0), dr_c (al_c _ ac1), dr_c (al_c _ ac2), dr_c (al_c _ ac3), dr_c (al_c _ ac4), dr_c (al_c _ ac5), dr_c (al_c _ ac6), dr_c (al_c _ bc0), dr_c (al_c _ bc1), dr_c (al_c _ bc2)⟩)
    (first | (go_at_call 10; refine Calls.mono (to_costs b m e s k t l _) ?_; rintro u w99 ⟨rfl, hbb⟩; have hbn := (by first | exact hb.trans (hbb.mono hb.size) | exact hb.drew.trans (hbb.mono hb.drew.size) | exact (hb.alloc hb.size _).trans (hbb.mono (hb.alloc hb.size _).size) | exact ((hb.alloc hb.size _).drew).trans (hbb.mono ((hb.alloc hb.size _).drew).size)); replace hb := hbn; clear hbn; replace ac0 := kept_c hb AC0.out; replace ac1 := kept_c hb AC1.out; replace ac2 := kept_c hb AC2.out; replace ac3 := kept_c hb AC3.out; replace ac4 := kept_c hb AC4.out; replace ac5 := kept_c hb AC5.out; replace ac6 := kept_c hb AC6.out; replace bc0 := kept_c hb BC0.out; replace bc1 := kept_c hb BC1.out; replace bc2 := kept_c hb BC2.out; have hz90 := hb.size; clear hbb) | (go_at_call 11; refine Calls.mono (to_shape s1 s2 s3 _) ?_; rintro u w98 ⟨rfl, hbb⟩; have hbn := (by first | exact hb.trans (hbb.mono hb.size) | exact hb.drew.trans (hbb.mono hb.drew.size) | exact (hb.alloc hb.size _).trans (hbb.mono (hb.alloc hb.size _).size) | exact ((hb.alloc hb.size _).drew).trans (hbb.mono ((hb.alloc hb.size _).drew).size)); replace hb := hbn; clear hbn; replace ac0 := kept_c hb AC0.out; replace ac1 := kept_c hb AC1.out; replace ac2 := kept_c hb AC2.out; replace ac3 := kept_c hb AC3.out; replace ac4 := kept_c hb AC4.out; replace ac5 := kept_c hb AC5.out; replace ac6 := kept_c hb AC6.out; replace bc0 := kept_c hb BC0.out; replace bc1 := kept_c hb BC1.out; replace bc2 := kept_c hb BC2.out; have hz91 := hb.size; clear hbb) | (go_at_call 12; refine Calls.mono (TO.out _ (HBX.out _ (by first | exact hb | exact hb.drew))) ?_; rintro u w97 ⟨a9, rfl, hbb, hsO⟩; have hbn := (by first | exact hb.trans (hbb.mono hb.size) | exact hb.drew.trans (hbb.mono hb.drew.size) | exact (hb.alloc hb.size _).trans (hbb.mono (hb.alloc hb.size _).size) | exact ((hb.alloc hb.size _).drew).trans (hbb.mono ((hb.alloc hb.size _).drew).size)); replace hb := hbn; clear hbn; replace ac0 := kept_c hb AC0.out; replace ac1 := kept_c hb AC1.out; replace ac2 := kept_c hb AC2.out; replace ac3 := kept_c hb AC3.out; replace ac4 := kept_c hb AC4.out; replace ac5 := kept_c hb AC5.out; replace ac6 := kept_c hb AC6.out; replace bc0 := kept_c hb BC0.out; replace bc1 := kept_c hb BC1.out; replace bc2 := kept_c hb BC2.out; have hz92 := hb.size; clear hbb) | (go_at_call 9; refine Calls.mono (SP.out _ a9 (by first | exact hsO | exact gs_kept ((Below.refl _ _).drew) hsO)) ?_; rintro u w96 ⟨rfl, hbb⟩; have hbn := (by first | exact hb.trans (hbb.mono hb.size) | exact hb.drew.trans (hbb.mono hb.drew.size) | exact (hb.alloc hb.size _).trans (hbb.mono (hb.alloc hb.size _).size) | exact ((hb.alloc hb.size _).drew).trans (hbb.mono ((hb.alloc hb.size _).drew).size)); replace hb := hbn; clear hbn; replace ac0 := kept_c hb AC0.out; replace ac1 := kept_c hb AC1.out; replace ac2 := kept_c hb AC2.out; replace ac3 := kept_c hb AC3.out; replace ac4 := kept_c hb AC4.out; replace ac5 := kept_c hb AC5.out; replace ac6 := kept_c hb AC6.out; replace bc0 := kept_c hb BC0.out; replace bc1 := kept_c hb BC1.out; replace bc2 := kept_c hb BC2.out; have hz93 := hb.size; clear hbb))
  all_goals
    rename_i hhh
    clear hhh
    have hbR := hb
    clear hb ac0 ac1 ac2 ac3 ac4 ac5 ac6 bc0 bc1 bc2
    try clear hsO
    clear hz90 hz91 hz92 hz93
    revert hbR
    revert w96
    try clear a9
    try clear w97
    try clear w98
    try clear w99
    refine ?wayS
  intro w96 hbR
  clear HBX AC0 AC1 AC2 AC3 AC4 AC5 AC6 BC0 BC1 BC2
  replace HB : Hid (Below w.heap.size w w96) := HB.out.trans (hbR.mono HB.out.size)
  replace HR : Hid (CellsAt _ _ _ _) := CellsAt.below HR.out hbR
  replace HE : Hid (CellsAt _ _ _ _) := CellsAt.below HE.out hbR
  clear hbR
  go_wp2_with fail
  refine Calls.mono (TO.out _ HB.out) ?_
  rintro u w12 ⟨a12, rfl, hb12, ho12⟩
  replace HB : Hid (Below w.heap.size w w12) := HB.out.trans (hb12.mono HB.out.size)
  replace HR : Hid (CellsAt _ _ _ _) := CellsAt.below HR.out hb12
  replace HE : Hid (CellsAt _ _ _ _) := CellsAt.below HE.out hb12
  have HXS : Hid (∀ X, Below w12.heap.size w12 X → GSeg 4 X a12 n (chX xs)) := fun X hX => ho12.below hX
  clear hb12 ho12
  have hb : Below w12.heap.size w12 w12 := Below.refl _ _
  have HBX : Hid (∀ X, Below w12.heap.size w12 X → Below w.heap.size w X) := fun X hX => HB.out.trans (hX.mono HB.out.size)
  have AC0 : Hid (w12.cell? ⟨w.heap.size, 0, none⟩ = some (.int .i64 b)) := HR.out 0 _ rfl
  have ac0 := AC0.out
  have AC1 : Hid (w12.cell? ⟨w.heap.size, 1, none⟩ = some (.int .i64 m)) := HR.out 1 _ rfl
  have ac1 := AC1.out
  have AC2 : Hid (w12.cell? ⟨w.heap.size, 2, none⟩ = some (.int .i64 e)) := HR.out 2 _ rfl
  have ac2 := AC2.out
  have AC3 : Hid (w12.cell? ⟨w.heap.size, 3, none⟩ = some (.int .i64 s)) := HR.out 3 _ rfl
  have ac3 := AC3.out
  have AC4 : Hid (w12.cell? ⟨w.heap.size, 4, none⟩ = some (.int .i64 k)) := HR.out 4 _ rfl
  have ac4 := AC4.out
  have AC5 : Hid (w12.cell? ⟨w.heap.size, 5, none⟩ = some (.int .i64 t)) := HR.out 5 _ rfl
  have ac5 := AC5.out
  have AC6 : Hid (w12.cell? ⟨w.heap.size, 6, none⟩ = some (.int .i64 l)) := HR.out 6 _ rfl
  have ac6 := AC6.out
  have BC0 : Hid (w12.cell? ⟨w.heap.size + 1, 0, none⟩ = some (.int .i64 s1)) := HE.out 0 _ rfl
  have bc0 := BC0.out
  have BC1 : Hid (w12.cell? ⟨w.heap.size + 1, 1, none⟩ = some (.int .i64 s2)) := HE.out 1 _ rfl
  have bc1 := BC1.out
  have BC2 : Hid (w12.cell? ⟨w.heap.size + 1, 2, none⟩ = some (.int .i64 s3)) := HE.out 2 _ rfl
  have bc2 := BC2.out
  go_wp2
  go_region_held_law (fun w' => w'.cell? ⟨w.heap.size, 0, none⟩ = some (.int .i64 b) ∧ w'.cell? ⟨w.heap.size, 1, none⟩ = some (.int .i64 m) ∧ w'.cell? ⟨w.heap.size, 2, none⟩ = some (.int .i64 e) ∧ w'.cell? ⟨w.heap.size, 3, none⟩ = some (.int .i64 s) ∧ w'.cell? ⟨w.heap.size, 4, none⟩ = some (.int .i64 k) ∧ w'.cell? ⟨w.heap.size, 5, none⟩ = some (.int .i64 t) ∧ w'.cell? ⟨w.heap.size, 6, none⟩ = some (.int .i64 l) ∧ w'.cell? ⟨w.heap.size + 1, 0, none⟩ = some (.int .i64 s1) ∧ w'.cell? ⟨w.heap.size + 1, 1, none⟩ = some (.int .i64 s2) ∧ w'.cell? ⟨w.heap.size + 1, 2, none⟩ = some (.int .i64 s3)) (first | with_reducible exact ⟨ac0, ac1, ac2, ac3, ac4, ac5, ac6, bc0, bc1, bc2⟩ | with_reducible exact ⟨dr_c ac0, dr_c ac1, dr_c ac2, dr_c ac3, dr_c ac4, dr_c ac5, dr_c ac6, dr_c bc0, dr_c bc1, dr_c bc2⟩ | with_reducible exact ⟨al_c _ ac0, al_c _ ac1, al_c _ ac2, al_c _ ac3, al_c _ ac4, al_c _ ac5, al_c _ ac6, al_c _ bc0, al_c _ bc1, al_c _ bc2⟩ | with_reducible exact ⟨al_c _ (dr_c ac0), al_c _ (dr_c ac1), al_c _ (dr_c ac2), al_c _ (dr_c ac3), al_c _ (dr_c ac4), al_c _ (dr_c ac5), al_c _ (dr_c ac6), al_c _ (dr_c bc0), al_c _ (dr_c bc1), al_c _ (dr_c bc2)⟩ | with_reducible exact ⟨dr_c (al_c _ ac0), dr_c (al_c _ ac1), dr_c (al_c _ ac2), dr_c (al_c _ ac3), dr_c (al_c _ ac4), dr_c (al_c _ ac5), dr_c (al_c _ ac6), dr_c (al_c _ bc0), dr_c (al_c _ bc1), dr_c (al_c _ bc2)⟩)
    (first | (go_at_call 10; refine Calls.mono (to_costs b m e s k t l _) ?_; rintro u w89 ⟨rfl, hbb⟩; have hbn := (by first | exact hb.trans (hbb.mono hb.size) | exact hb.drew.trans (hbb.mono hb.drew.size) | exact (hb.alloc hb.size _).trans (hbb.mono (hb.alloc hb.size _).size) | exact ((hb.alloc hb.size _).drew).trans (hbb.mono ((hb.alloc hb.size _).drew).size)); replace hb := hbn; clear hbn; replace ac0 := kept_c hb AC0.out; replace ac1 := kept_c hb AC1.out; replace ac2 := kept_c hb AC2.out; replace ac3 := kept_c hb AC3.out; replace ac4 := kept_c hb AC4.out; replace ac5 := kept_c hb AC5.out; replace ac6 := kept_c hb AC6.out; replace bc0 := kept_c hb BC0.out; replace bc1 := kept_c hb BC1.out; replace bc2 := kept_c hb BC2.out; have hz90 := hb.size; clear hbb) | (go_at_call 11; refine Calls.mono (to_shape s1 s2 s3 _) ?_; rintro u w88 ⟨rfl, hbb⟩; have hbn := (by first | exact hb.trans (hbb.mono hb.size) | exact hb.drew.trans (hbb.mono hb.drew.size) | exact (hb.alloc hb.size _).trans (hbb.mono (hb.alloc hb.size _).size) | exact ((hb.alloc hb.size _).drew).trans (hbb.mono ((hb.alloc hb.size _).drew).size)); replace hb := hbn; clear hbn; replace ac0 := kept_c hb AC0.out; replace ac1 := kept_c hb AC1.out; replace ac2 := kept_c hb AC2.out; replace ac3 := kept_c hb AC3.out; replace ac4 := kept_c hb AC4.out; replace ac5 := kept_c hb AC5.out; replace ac6 := kept_c hb AC6.out; replace bc0 := kept_c hb BC0.out; replace bc1 := kept_c hb BC1.out; replace bc2 := kept_c hb BC2.out; have hz91 := hb.size; clear hbb) | (go_at_call 13; refine Calls.mono (IM.out _ a12 (HXS.out _ (by first | exact hb | exact hb.drew))) ?_; rintro u w86 ⟨rfl, hbb⟩; have hbn := (by first | exact hb.trans (hbb.mono hb.size) | exact hb.drew.trans (hbb.mono hb.drew.size) | exact (hb.alloc hb.size _).trans (hbb.mono (hb.alloc hb.size _).size) | exact ((hb.alloc hb.size _).drew).trans (hbb.mono ((hb.alloc hb.size _).drew).size)); replace hb := hbn; clear hbn; replace ac0 := kept_c hb AC0.out; replace ac1 := kept_c hb AC1.out; replace ac2 := kept_c hb AC2.out; replace ac3 := kept_c hb AC3.out; replace ac4 := kept_c hb AC4.out; replace ac5 := kept_c hb AC5.out; replace ac6 := kept_c hb AC6.out; replace bc0 := kept_c hb BC0.out; replace bc1 := kept_c hb BC1.out; replace bc2 := kept_c hb BC2.out; have hz93 := hb.size; clear hbb))
  all_goals
    rename_i hhh
    clear hhh
    have hbR := hb
    clear hb ac0 ac1 ac2 ac3 ac4 ac5 ac6 bc0 bc1 bc2
    clear hz90 hz91 hz93
    revert hbR
    revert w86
    try clear w88
    try clear w89
    refine ?wayI
  intro w86 hbR
  clear HBX AC0 AC1 AC2 AC3 AC4 AC5 AC6 BC0 BC1 BC2
  replace HB : Hid (Below w.heap.size w w86) := HB.out.trans (hbR.mono HB.out.size)
  have HX2 : Hid (GSeg 4 w86 a12 n (chX xs)) := HXS.out _ hbR
  clear hbR HXS HR HE
  go_wp2_with fail
  refine Calls.mono (TO.out _ HB.out) ?_
  rintro u w13 ⟨a13, rfl, hb13, ho13⟩
  replace HB : Hid (Below w.heap.size w w13) := HB.out.trans (hb13.mono HB.out.size)
  have HX3 : Hid (GSeg 4 w13 a12 n (chX xs) ∧ GSeg 4 w13 a13 n (chX xs)) := ⟨HX2.out.below hb13, ho13⟩
  clear hb13 ho13
  go_wp2_with fail
  refine Calls.mono (EQ.out _ a12 a13 HX3.out.1 HX3.out.2) ?_
  rintro u w14 ⟨rfl, hb14⟩
  replace HB : Hid (Below w.heap.size w w14) := HB.out.trans (hb14.mono HB.out.size)
  clear hb14
  go_wp2
  go_ret
  exact ⟨rfl, HB.out⟩

/-! ### The row -/
set_option maxRecDepth 100000 in
theorem lifted (os : Os) (started : os.Started) (H : Type) (enc : TypeId × Value → H) :
    ReturnsInHanded {} Try.checked os 4 .any (Rows.fnExactWorstPadSpec.pre6 enc Try.prog Try.f4 Rows.fnExactWorstPadRow.domain false) (Rows.fnExactWorstPadSpec.post enc Try.prog Try.f4 false true false false) := by
  refine returnsInHanded_of_change (C := Try.checked) own started (by kernel_rfl) Try.func4
    (ChangeSpec.witness6 (enc := enc) (C := Try.checked) false ⟨#[], #[cst 0 0 0 0 0 0 0, shp 0 0 0, .slice none 0 0], []⟩ 8 (by kernel_rfl) (by kernel_rfl) (by kernel_rfl) (by kernel_rfl)) ?_
  intro W base args ds gs before hval0 hW hcnd _
  have hval : ∀ (j : Nat) t v, Try.f4.params[j]? = some t → args[j]? = some v → Value.okWide Try.prog W .any base t v := hval0
  have hW' := hW
  obtain ⟨p, q, hA0, hV, rfl, hfz, hnd⟩ := hW
  have hA : DataW.TrodAll enc Try.prog W 0 (fun _ => true) true Try.f4.params.toList args.toList ds p := hA0
  rw [Try.params4] at hA hval
  obtain ⟨v0, vs0, d0, ds0, p0, q0, hargs, rfl, rfl, h0, r0⟩ := trodAll_cons hA
  obtain ⟨v1, vs1, d1, ds1, p1, q1, rfl, rfl, rfl, h1, r1⟩ := trodAll_cons r0
  obtain ⟨v2, vs2, d2, ds2, p2, q2, rfl, rfl, rfl, h2, r2⟩ := trodAll_cons r1
  obtain ⟨rfl, rfl, rfl⟩ := trodAll_nil r2
  obtain rfl : args = #[v0, v1, v2] := by cases args; simp_all
  obtain ⟨rfl, rfl⟩ := trodVars_none hV
  have k0 := h0
  have lt0 : ∀ x ∈ p0, x.block < W.heap.size := by obtain ⟨m, hm⟩ := k0; exact DataW.trod_lt m _ _ _ hm
  have k1 := h1
  have lt1 : ∀ x ∈ p1, x.block < W.heap.size := by obtain ⟨m, hm⟩ := k1; exact DataW.trod_lt m _ _ _ hm
  have k2 := h2
  have lt2 : ∀ x ∈ p2, x.block < W.heap.size := by obtain ⟨m, hm⟩ := k2; exact DataW.trod_lt m _ _ _ hm
  obtain ⟨b, m, e, s, k, t, l, rfl, _, _, _⟩ := cst_open (hval 0 29 v0 rfl rfl) h0
  obtain ⟨s1, s2, s3, rfl⟩ := shp_open (hval 1 31 v1 rfl rfl) h1
  obtain ⟨a, n, c, rfl⟩ := okWide_slice Try.underlying32 (hval 2 32 v2 rfl rfl)
  obtain ⟨fuel, hf⟩ := h2
  obtain ⟨a', n', c', xs, e', hs, hl, hn, _⟩ := ch_open hf
  simp [Value.cells] at e'
  obtain ⟨rfl, rfl, rfl⟩ := e'
  clear hA0 hval0
  refine (walk b m e s k t l s1 s2 s3 _ _ _ xs W hs hn).mono fun e W' ⟨he, bel⟩ => ?_
  subst he
  exact ⟨_, rfl, _, _, _, [], _, [], hW', (trodAll_cons_mk (shut_bool Try.underlying4 _) trodAll_mk0), (trodAll_cons_mk (Below.trod laidOut (by kernel_rfl) (of_decide_eq_true (by kernel_rfl)) k0 bel lt0) (trodAll_cons_mk (Below.trod laidOut (by kernel_rfl) (of_decide_eq_true (by kernel_rfl)) k1 bel lt1) (trodAll_cons_mk (Below.trod laidOut (by kernel_rfl) (of_decide_eq_true (by kernel_rfl)) k2 bel lt2) trodAll_mk0))), rfl, bel.frame _, fun h => by cases h⟩

theorem over : Rows.fnExactWorstPadRow.holds Try.pinned (OpenSpec.ofChange Rows.fnExactWorstPadSpec) :=
  OpenClaim.holds_of_wide 4 Try.f4 rfl rfl rfl rfl rfl rfl rfl ⟨rfl, rfl, rfl, rfl, rfl⟩ rfl rfl rfl rfl rfl (by kernel_rfl) Try.func4 (by kernel_rfl)
    (of_decide_eq_true (by kernel_rfl)) (by unfold Func.isWrapper; first | (rw [if_pos (by decide +kernel)]; kernel_rfl) | (rw [if_neg (by decide +kernel)]; exact ⟨rfl, rfl⟩))
    (fun os started H enc _ => lifted os started H enc)

end Go.Proofs.Ytklgkgmkeocjdaa.fnExactWorstPad
namespace Go.Proofs.Ytklgkgmkeocjdaa
theorem FnExactWorstPad_holds : Rows.FnExactWorstPadSaid := fnExactWorstPad.over
end Go.Proofs.Ytklgkgmkeocjdaa
