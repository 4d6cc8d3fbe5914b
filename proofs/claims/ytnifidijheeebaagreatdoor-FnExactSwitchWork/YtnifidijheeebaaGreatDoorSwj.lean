
/-
  The work of a switch: the program's own function and the specification's. Conditions: the lists lie in memory; the program's table of extras holds what the program's text lays.
-/
import Derived.Test.YtnifidijheeebaaGreatDoorBas
import Derived.Test.YtnifidijheeebaaGreatDoorSwi
namespace Go.Proofs.YtnifidijheeebaaGreatDoor
open Go.ChangeShapes Go.WideShapes Go.ChangeAt Go.RowKit Go.Deep Go.Joins
set_option linter.unusedVariables false

set_option maxRecDepth 40000 in
set_option maxHeartbeats 8000000 in
theorem impl_switch (t : Tb) (a : Ad) (s y l : Int) (ra : Option Addr) (cap n : Nat) (D : Nat → List Wy) (m : Int) (w : World) (hm : TM 0 w t a) (hw : TW t a) (hs : TS a) (he : TabE w) (hcp : a.pn ≤ a.pc) (hrs : RSeg w ra n D) (hn : n ≤ 1048576) (ht : tot D n ≤ 1048576) :
    Calls Tryz.prog 12 #[tbV t a, cch s y l (.slice ra n cap), .int .i64 m] w fun e w' => (∃ f sc c r, e = .returned (wkv f sc c r) ∧ SwR t s y l n D m f sc c r) ∧ Below w.heap.size w w' := by
  obtain ⟨q1, hq1⟩ := told (Sd t)
  obtain ⟨q2, hq2⟩ := told (CacheOkP s y l n D)
  obtain ⟨q3, hq3⟩ := told (0 ≤ m ∧ m ≤ mostN t.cs t.cs.length)
  have HC1 : Hid (∀ X, Below w.heap.size w X → Calls Tryz.prog 50 #[tbV t a] X fun e w' => e = .returned (.bool q1) ∧ Below X.heap.size X w') := fun X hX => impl_sound t a q1 X (hm.below hX) hw hs (he.below hX) hcp hq1
  have HC2 : Hid (∀ X, Below w.heap.size w X → Calls Tryz.prog 51 #[cch s y l (.slice ra n cap)] X fun e w' => e = .returned (.bool q2) ∧ Below X.heap.size X w') := fun X hX => impl_cachek s y l ra cap n D X (RSeg.below hrs hX) hn ht q2 hq2
  have HC3 : Hid (Sd t → ∀ X, Below w.heap.size w X → Calls Tryz.prog 52 #[tbV t a, .int .i64 m] X fun e w' => e = .returned (.bool q3) ∧ Below X.heap.size X w') := fun hd X hX => impl_cancarry t a m X (hm.below hX) hw hd q3 hq3
  have HC4 : Hid (CacheOkP s y l n D → ∀ X, Below w.heap.size w X → Calls Tryz.prog 53 #[cch s y l (.slice ra n cap)] X (FPost X s y l n noD ((dt D n : Nat) : Int))) := fun hd X hX => by
    obtain ⟨h1, h2, h3⟩ := hd
    subst h2
    exact impl_fl n y l ra cap D X (RSeg.below hrs hX) hn ht ⟨h1, rfl, h3⟩
  have HC5 : Hid (SwOk t s y l n D m → ∃ f sc c r, SwR t s y l n D m f sc c r ∧ ∀ X, Calls Tryz.prog 54 #[tbV t a, .int .i64 ((dt D n : Nat) : Int), .int .i64 m] X fun e w' => e = .returned (wkv f sc c r) ∧ Below X.heap.size X w') := fun hd => by
    have hr := sw_rng hd
    exact ⟨_, _, _, _, .inr ⟨hd, rfl, rfl, rfl, rfl⟩, fun X => impl_swork t a _ m _ _ _ _ _ X rfl rfl rfl rfl rfl hr.2.2.2.2.2.1 (by have := hr.2.1; omega) hr.2.2.2.2.2.2.1 hr.2.2.2.2.1⟩
  have HQ1 : Hid (q1 = true ↔ Sd t) := hq1
  have HQ2 : Hid (q2 = true ↔ CacheOkP s y l n D) := hq2
  have HQ3 : Hid (q3 = true ↔ (0 ≤ m ∧ m ≤ mostN t.cs t.cs.length)) := hq3
  clear hq1 hq2 hq3 hm hw hs he hcp hrs
  have HB0 : Hid (Below w.heap.size w (((w.alloc (.cells (tbA t a) 46)).alloc (.cells #[.int .i64 s, .int .i64 y, .int .i64 l, .slice ra n cap] 50)).alloc (.cells (wkr 0 0 0 0) 38))) := (((Below.refl _ _).alloc (Nat.le_refl _) _).alloc (by simp) _).alloc (by simp; omega) _
  have HX0 : Hid (TBx (((w.alloc (.cells (tbA t a) 46)).alloc (.cells #[.int .i64 s, .int .i64 y, .int .i64 l, .slice ra n cap] 50)).alloc (.cells (wkr 0 0 0 0) 38)) w.heap.size t a) := by
    have h1 := TBx.new w t a w.heap.size rfl
    exact (h1.below ((Below.refl _ _).alloc (Nat.le_refl _) _)).below ((Below.refl _ _).alloc (Nat.le_refl _) _)
  have KC0 : Hid (Bk (((w.alloc (.cells (tbA t a) 46)).alloc (.cells #[.int .i64 s, .int .i64 y, .int .i64 l, .slice ra n cap] 50)).alloc (.cells (wkr 0 0 0 0) 38)) (w.heap.size + 1) #[.int .i64 s, .int .i64 y, .int .i64 l, .slice ra n cap]) := (Bk.new _ _ _ (w.heap.size + 1) (by simp)).alloc _
  have KR0 : Hid (Bk (((w.alloc (.cells (tbA t a) 46)).alloc (.cells #[.int .i64 s, .int .i64 y, .int .i64 l, .slice ra n cap] 50)).alloc (.cells (wkr 0 0 0 0) 38)) (w.heap.size + 2) (wkr 0 0 0 0)) := Bk.new _ _ _ (w.heap.size + 2) (by simp)
  go_enter Tryz.func12, Tryz.ntmps12
  go_wp2_with (first | (refine wpList_load_row rfl 46 (.tmp 3) rfl w.heap.size rfl 46 (tbA t a) (0, 0) _ HX0.out Tryz.underlying46 rfl (by kernel_rfl) ?_) | fail)
  refine Calls.mono (HC1.out _ HB0.out) ?_
  rintro e w1 ⟨rfl, hb⟩
  have HB1 : Hid (Below w.heap.size w w1) := HB0.out.trans (hb.mono HB0.out.size)
  have HX1 : Hid (TBx w1 w.heap.size t a) := HX0.out.below hb
  have KC1 : Hid (Bk w1 (w.heap.size + 1) #[.int .i64 s, .int .i64 y, .int .i64 l, .slice ra n cap]) := KC0.out.below hb
  have KR1 : Hid (Bk w1 (w.heap.size + 2) (wkr 0 0 0 0)) := KR0.out.below hb
  clear hb HB0 HX0 KC0 KR0
  cases q1
  · have HNO : Hid (¬ SwOk t s y l n D m) := fun h => by have := HQ1.out.2 h.1; cases this
    have r0 : w1.cell? ⟨w.heap.size + 2, 0, none⟩ = some (.int .i64 0) := KR1.out.cell 0 _ rfl
    have r1 : w1.cell? ⟨w.heap.size + 2, 1, none⟩ = some (.int .i64 0) := KR1.out.cell 1 _ rfl
    have r2 : w1.cell? ⟨w.heap.size + 2, 2, none⟩ = some (.int .i64 0) := KR1.out.cell 2 _ rfl
    have r3 : w1.cell? ⟨w.heap.size + 2, 3, none⟩ = some (.int .i64 0) := KR1.out.cell 3 _ rfl
    have z0 : w1.frozen? ⟨w.heap.size + 2, 0, none⟩ = false := KR1.out.free 0
    have z1 : w1.frozen? ⟨w.heap.size + 2, 1, none⟩ = false := KR1.out.free 1
    have z2 : w1.frozen? ⟨w.heap.size + 2, 2, none⟩ = false := KR1.out.free 2
    have z3 : w1.frozen? ⟨w.heap.size + 2, 3, none⟩ = false := KR1.out.free 3
    go_wp2
    exact bodyPost_ret (v := wkv 0 0 0 0) (by simp [results, Tryz.results12, go_sem, r0, r1, r2, r3]) rfl ⟨⟨0, 0, 0, 0, rfl, .inl ⟨HNO.out, rfl, rfl, rfl, rfl⟩⟩, ((((HB1.out.setCell (by show w.heap.size ≤ w.heap.size + 2; omega) _).setCell (by show w.heap.size ≤ w.heap.size + 2; omega) _).setCell (by show w.heap.size ≤ w.heap.size + 2; omega) _).setCell (by show w.heap.size ≤ w.heap.size + 2; omega) _)⟩
  have HSD : Hid (Sd t) := HQ1.out.1 rfl
  have c0 : w1.cell? ⟨w.heap.size + 1, 0, none⟩ = some (.int .i64 s) := KC1.out.cell 0 _ rfl
  have c1 : w1.cell? ⟨w.heap.size + 1, 1, none⟩ = some (.int .i64 y) := KC1.out.cell 1 _ rfl
  have c2 : w1.cell? ⟨w.heap.size + 1, 2, none⟩ = some (.int .i64 l) := KC1.out.cell 2 _ rfl
  have c3 : w1.cell? ⟨w.heap.size + 1, 3, none⟩ = some (.slice ra n cap) := KC1.out.cell 3 _ rfl
  go_wp2_with fail
  refine Calls.mono (HC2.out _ HB1.out) ?_
  rintro e w2 ⟨rfl, hb⟩
  clear c0 c1 c2 c3
  have HB2 : Hid (Below w.heap.size w w2) := HB1.out.trans (hb.mono HB1.out.size)
  have HX2 : Hid (TBx w2 w.heap.size t a) := HX1.out.below hb
  have KC2 : Hid (Bk w2 (w.heap.size + 1) #[.int .i64 s, .int .i64 y, .int .i64 l, .slice ra n cap]) := KC1.out.below hb
  have KR2 : Hid (Bk w2 (w.heap.size + 2) (wkr 0 0 0 0)) := KR1.out.below hb
  clear hb HB1 HX1 KC1 KR1
  cases q2
  · have HNO : Hid (¬ SwOk t s y l n D m) := fun h => by have := HQ2.out.2 h.2.1; cases this
    have r0 : w2.cell? ⟨w.heap.size + 2, 0, none⟩ = some (.int .i64 0) := KR2.out.cell 0 _ rfl
    have r1 : w2.cell? ⟨w.heap.size + 2, 1, none⟩ = some (.int .i64 0) := KR2.out.cell 1 _ rfl
    have r2 : w2.cell? ⟨w.heap.size + 2, 2, none⟩ = some (.int .i64 0) := KR2.out.cell 2 _ rfl
    have r3 : w2.cell? ⟨w.heap.size + 2, 3, none⟩ = some (.int .i64 0) := KR2.out.cell 3 _ rfl
    have z0 : w2.frozen? ⟨w.heap.size + 2, 0, none⟩ = false := KR2.out.free 0
    have z1 : w2.frozen? ⟨w.heap.size + 2, 1, none⟩ = false := KR2.out.free 1
    have z2 : w2.frozen? ⟨w.heap.size + 2, 2, none⟩ = false := KR2.out.free 2
    have z3 : w2.frozen? ⟨w.heap.size + 2, 3, none⟩ = false := KR2.out.free 3
    go_wp2
    exact bodyPost_ret (v := wkv 0 0 0 0) (by simp [results, Tryz.results12, go_sem, r0, r1, r2, r3]) rfl ⟨⟨0, 0, 0, 0, rfl, .inl ⟨HNO.out, rfl, rfl, rfl, rfl⟩⟩, ((((HB2.out.setCell (by show w.heap.size ≤ w.heap.size + 2; omega) _).setCell (by show w.heap.size ≤ w.heap.size + 2; omega) _).setCell (by show w.heap.size ≤ w.heap.size + 2; omega) _).setCell (by show w.heap.size ≤ w.heap.size + 2; omega) _)⟩
  have HCO : Hid (CacheOkP s y l n D) := HQ2.out.1 rfl
  have c0 : w2.cell? ⟨w.heap.size + 1, 0, none⟩ = some (.int .i64 s) := KC2.out.cell 0 _ rfl
  have c1 : w2.cell? ⟨w.heap.size + 1, 1, none⟩ = some (.int .i64 y) := KC2.out.cell 1 _ rfl
  have c2 : w2.cell? ⟨w.heap.size + 1, 2, none⟩ = some (.int .i64 l) := KC2.out.cell 2 _ rfl
  have c3 : w2.cell? ⟨w.heap.size + 1, 3, none⟩ = some (.slice ra n cap) := KC2.out.cell 3 _ rfl
  have k1 : w2.cell? ⟨w.heap.size, 1, none⟩ = some (.int .i64 t.s1) := HX2.out.cell 1 rfl
  have k2 : w2.cell? ⟨w.heap.size, 2, none⟩ = some (.int .i64 t.s2) := HX2.out.cell 2 rfl
  have k3 : w2.cell? ⟨w.heap.size, 3, none⟩ = some (.int .i64 t.s3) := HX2.out.cell 3 rfl
  by_cases e1 : s = t.s1
  rotate_left
  · have HNO : Hid (¬ SwOk t s y l n D m) := fun h => e1 h.2.2.1.1
    have e1' : ¬ t.s1 = s := fun h => e1 h.symm
    have r0 : w2.cell? ⟨w.heap.size + 2, 0, none⟩ = some (.int .i64 0) := KR2.out.cell 0 _ rfl
    have r1 : w2.cell? ⟨w.heap.size + 2, 1, none⟩ = some (.int .i64 0) := KR2.out.cell 1 _ rfl
    have r2 : w2.cell? ⟨w.heap.size + 2, 2, none⟩ = some (.int .i64 0) := KR2.out.cell 2 _ rfl
    have r3 : w2.cell? ⟨w.heap.size + 2, 3, none⟩ = some (.int .i64 0) := KR2.out.cell 3 _ rfl
    have z0 : w2.frozen? ⟨w.heap.size + 2, 0, none⟩ = false := KR2.out.free 0
    have z1 : w2.frozen? ⟨w.heap.size + 2, 1, none⟩ = false := KR2.out.free 1
    have z2 : w2.frozen? ⟨w.heap.size + 2, 2, none⟩ = false := KR2.out.free 2
    have z3 : w2.frozen? ⟨w.heap.size + 2, 3, none⟩ = false := KR2.out.free 3
    go_wp2
    exact bodyPost_ret (v := wkv 0 0 0 0) (by simp [results, Tryz.results12, go_sem, r0, r1, r2, r3]) rfl ⟨⟨0, 0, 0, 0, rfl, .inl ⟨HNO.out, rfl, rfl, rfl, rfl⟩⟩, ((((HB2.out.setCell (by show w.heap.size ≤ w.heap.size + 2; omega) _).setCell (by show w.heap.size ≤ w.heap.size + 2; omega) _).setCell (by show w.heap.size ≤ w.heap.size + 2; omega) _).setCell (by show w.heap.size ≤ w.heap.size + 2; omega) _)⟩
  by_cases e2 : y = t.s2
  rotate_left
  · have HNO : Hid (¬ SwOk t s y l n D m) := fun h => e2 h.2.2.1.2.1
    have e2' : ¬ t.s2 = y := fun h => e2 h.symm
    have r0 : w2.cell? ⟨w.heap.size + 2, 0, none⟩ = some (.int .i64 0) := KR2.out.cell 0 _ rfl
    have r1 : w2.cell? ⟨w.heap.size + 2, 1, none⟩ = some (.int .i64 0) := KR2.out.cell 1 _ rfl
    have r2 : w2.cell? ⟨w.heap.size + 2, 2, none⟩ = some (.int .i64 0) := KR2.out.cell 2 _ rfl
    have r3 : w2.cell? ⟨w.heap.size + 2, 3, none⟩ = some (.int .i64 0) := KR2.out.cell 3 _ rfl
    have z0 : w2.frozen? ⟨w.heap.size + 2, 0, none⟩ = false := KR2.out.free 0
    have z1 : w2.frozen? ⟨w.heap.size + 2, 1, none⟩ = false := KR2.out.free 1
    have z2 : w2.frozen? ⟨w.heap.size + 2, 2, none⟩ = false := KR2.out.free 2
    have z3 : w2.frozen? ⟨w.heap.size + 2, 3, none⟩ = false := KR2.out.free 3
    go_wp2
    exact bodyPost_ret (v := wkv 0 0 0 0) (by simp [results, Tryz.results12, go_sem, r0, r1, r2, r3]) rfl ⟨⟨0, 0, 0, 0, rfl, .inl ⟨HNO.out, rfl, rfl, rfl, rfl⟩⟩, ((((HB2.out.setCell (by show w.heap.size ≤ w.heap.size + 2; omega) _).setCell (by show w.heap.size ≤ w.heap.size + 2; omega) _).setCell (by show w.heap.size ≤ w.heap.size + 2; omega) _).setCell (by show w.heap.size ≤ w.heap.size + 2; omega) _)⟩
  by_cases e3 : l = t.s3
  rotate_left
  · have HNO : Hid (¬ SwOk t s y l n D m) := fun h => e3 h.2.2.1.2.2
    have e3' : ¬ t.s3 = l := fun h => e3 h.symm
    have r0 : w2.cell? ⟨w.heap.size + 2, 0, none⟩ = some (.int .i64 0) := KR2.out.cell 0 _ rfl
    have r1 : w2.cell? ⟨w.heap.size + 2, 1, none⟩ = some (.int .i64 0) := KR2.out.cell 1 _ rfl
    have r2 : w2.cell? ⟨w.heap.size + 2, 2, none⟩ = some (.int .i64 0) := KR2.out.cell 2 _ rfl
    have r3 : w2.cell? ⟨w.heap.size + 2, 3, none⟩ = some (.int .i64 0) := KR2.out.cell 3 _ rfl
    have z0 : w2.frozen? ⟨w.heap.size + 2, 0, none⟩ = false := KR2.out.free 0
    have z1 : w2.frozen? ⟨w.heap.size + 2, 1, none⟩ = false := KR2.out.free 1
    have z2 : w2.frozen? ⟨w.heap.size + 2, 2, none⟩ = false := KR2.out.free 2
    have z3 : w2.frozen? ⟨w.heap.size + 2, 3, none⟩ = false := KR2.out.free 3
    go_wp2
    exact bodyPost_ret (v := wkv 0 0 0 0) (by simp [results, Tryz.results12, go_sem, r0, r1, r2, r3]) rfl ⟨⟨0, 0, 0, 0, rfl, .inl ⟨HNO.out, rfl, rfl, rfl, rfl⟩⟩, ((((HB2.out.setCell (by show w.heap.size ≤ w.heap.size + 2; omega) _).setCell (by show w.heap.size ≤ w.heap.size + 2; omega) _).setCell (by show w.heap.size ≤ w.heap.size + 2; omega) _).setCell (by show w.heap.size ≤ w.heap.size + 2; omega) _)⟩
  subst e1 e2 e3
  go_wp2_with (first | (refine wpList_load_rowG rfl 46 (.tmp 3) rfl w.heap.size rfl 46 (tbA t a) (0, 0) _ HX2.out Tryz.underlying46 rfl (by kernel_rfl) ?_) | fail)
  refine Calls.mono (HC3.out HSD.out _ HB2.out) ?_
  rintro e w3 ⟨rfl, hb⟩
  clear c0 c1 c2 c3 k1 k2 k3
  have HB3 : Hid (Below w.heap.size w w3) := HB2.out.trans (hb.mono HB2.out.size)
  have HX3 : Hid (TBx w3 w.heap.size t a) := HX2.out.below hb
  have KC3 : Hid (Bk w3 (w.heap.size + 1) #[.int .i64 t.s1, .int .i64 t.s2, .int .i64 t.s3, .slice ra n cap]) := KC2.out.below hb
  have KR3 : Hid (Bk w3 (w.heap.size + 2) (wkr 0 0 0 0)) := KR2.out.below hb
  clear hb HB2 HX2 KC2 KR2
  cases q3
  · have HNO : Hid (¬ SwOk t t.s1 t.s2 t.s3 n D m) := fun h => by have := HQ3.out.2 h.2.2.2; cases this
    have r0 : w3.cell? ⟨w.heap.size + 2, 0, none⟩ = some (.int .i64 0) := KR3.out.cell 0 _ rfl
    have r1 : w3.cell? ⟨w.heap.size + 2, 1, none⟩ = some (.int .i64 0) := KR3.out.cell 1 _ rfl
    have r2 : w3.cell? ⟨w.heap.size + 2, 2, none⟩ = some (.int .i64 0) := KR3.out.cell 2 _ rfl
    have r3 : w3.cell? ⟨w.heap.size + 2, 3, none⟩ = some (.int .i64 0) := KR3.out.cell 3 _ rfl
    have z0 : w3.frozen? ⟨w.heap.size + 2, 0, none⟩ = false := KR3.out.free 0
    have z1 : w3.frozen? ⟨w.heap.size + 2, 1, none⟩ = false := KR3.out.free 1
    have z2 : w3.frozen? ⟨w.heap.size + 2, 2, none⟩ = false := KR3.out.free 2
    have z3 : w3.frozen? ⟨w.heap.size + 2, 3, none⟩ = false := KR3.out.free 3
    go_wp2
    exact bodyPost_ret (v := wkv 0 0 0 0) (by simp [results, Tryz.results12, go_sem, r0, r1, r2, r3]) rfl ⟨⟨0, 0, 0, 0, rfl, .inl ⟨HNO.out, rfl, rfl, rfl, rfl⟩⟩, ((((HB3.out.setCell (by show w.heap.size ≤ w.heap.size + 2; omega) _).setCell (by show w.heap.size ≤ w.heap.size + 2; omega) _).setCell (by show w.heap.size ≤ w.heap.size + 2; omega) _).setCell (by show w.heap.size ≤ w.heap.size + 2; omega) _)⟩
  have HOK : Hid (SwOk t t.s1 t.s2 t.s3 n D m) := ⟨HSD.out, HCO.out, ⟨rfl, rfl, rfl⟩, HQ3.out.1 rfl⟩
  obtain ⟨f, sc, c, r, hrel, hcall⟩ := HC5.out HOK.out
  have HRL : Hid (SwR t t.s1 t.s2 t.s3 n D m f sc c r) := hrel
  have HCL : Hid (∀ X, Calls Tryz.prog 54 #[tbV t a, .int .i64 ((dt D n : Nat) : Int), .int .i64 m] X fun e w' => e = .returned (wkv f sc c r) ∧ Below X.heap.size X w') := hcall
  clear hrel hcall HC1 HC2 HC3 HC5 HQ1 HQ2 HQ3 HSD HOK
  obtain ⟨d, HD⟩ : ∃ d, Hid (((dt D n : Nat) : Int) = d) := ⟨_, rfl⟩
  rw [HD.out] at HC4 HCL
  clear HD
  have c0 : w3.cell? ⟨w.heap.size + 1, 0, none⟩ = some (.int .i64 t.s1) := KC3.out.cell 0 _ rfl
  have c1 : w3.cell? ⟨w.heap.size + 1, 1, none⟩ = some (.int .i64 t.s2) := KC3.out.cell 1 _ rfl
  have c2 : w3.cell? ⟨w.heap.size + 1, 2, none⟩ = some (.int .i64 t.s3) := KC3.out.cell 2 _ rfl
  have c3 : w3.cell? ⟨w.heap.size + 1, 3, none⟩ = some (.slice ra n cap) := KC3.out.cell 3 _ rfl
  go_wp2_with fail
  refine Calls.mono (HC4.out HCO.out _ HB3.out) ?_
  rintro e w4 ⟨a4, q4, rfl, hb4, _⟩
  have hal : Below w4.heap.size w4 (w4.alloc (.cells #[.int .i64 t.s1, .int .i64 t.s2, .int .i64 t.s3, .slice a4 n q4] 50)) := (Below.refl _ _).alloc (Nat.le_refl _) _
  have hb := hb4.trans (hal.mono hb4.size)
  have HB4 : Hid (Below w.heap.size w (w4.alloc (.cells #[.int .i64 t.s1, .int .i64 t.s2, .int .i64 t.s3, .slice a4 n q4] 50))) := HB3.out.trans (hb.mono HB3.out.size)
  have HX4 : Hid (TBx (w4.alloc (.cells #[.int .i64 t.s1, .int .i64 t.s2, .int .i64 t.s3, .slice a4 n q4] 50)) w.heap.size t a) := HX3.out.below hb
  have KR4 : Hid (Bk (w4.alloc (.cells #[.int .i64 t.s1, .int .i64 t.s2, .int .i64 t.s3, .slice a4 n q4] 50)) (w.heap.size + 2) (wkr 0 0 0 0)) := KR3.out.below hb
  clear hb hal hb4 HB3 HX3 KC3 KR3 c0 c1 c2 c3 HC4 HCO
  go_wp2_with (first | (refine wpList_load_row rfl 46 (.tmp 3) rfl w.heap.size rfl 46 (tbA t a) (0, 0) _ HX4.out Tryz.underlying46 rfl (by kernel_rfl) ?_) | fail)
  refine Calls.mono (HCL.out _) ?_
  rintro e w5 ⟨rfl, hb⟩
  have HB5 : Hid (Below w.heap.size w w5) := HB4.out.trans (hb.mono HB4.out.size)
  have KR5 : Hid (Bk w5 (w.heap.size + 2) (wkr 0 0 0 0)) := KR4.out.below hb
  clear hb HB4 HX4 KR4
  have r0 : w5.cell? ⟨w.heap.size + 2, 0, none⟩ = some (.int .i64 0) := KR5.out.cell 0 _ rfl
  have r1 : w5.cell? ⟨w.heap.size + 2, 1, none⟩ = some (.int .i64 0) := KR5.out.cell 1 _ rfl
  have r2 : w5.cell? ⟨w.heap.size + 2, 2, none⟩ = some (.int .i64 0) := KR5.out.cell 2 _ rfl
  have r3 : w5.cell? ⟨w.heap.size + 2, 3, none⟩ = some (.int .i64 0) := KR5.out.cell 3 _ rfl
  have z0 : w5.frozen? ⟨w.heap.size + 2, 0, none⟩ = false := KR5.out.free 0
  have z1 : w5.frozen? ⟨w.heap.size + 2, 1, none⟩ = false := KR5.out.free 1
  have z2 : w5.frozen? ⟨w.heap.size + 2, 2, none⟩ = false := KR5.out.free 2
  have z3 : w5.frozen? ⟨w.heap.size + 2, 3, none⟩ = false := KR5.out.free 3
  go_wp2
  exact bodyPost_ret (v := wkv f sc c r) (by simp [results, Tryz.results12, go_sem, r0, r1, r2, r3]) rfl ⟨⟨f, sc, c, r, rfl, HRL.out⟩, ((((HB5.out.setCell (by show w.heap.size ≤ w.heap.size + 2; omega) _).setCell (by show w.heap.size ≤ w.heap.size + 2; omega) _).setCell (by show w.heap.size ≤ w.heap.size + 2; omega) _).setCell (by show w.heap.size ≤ w.heap.size + 2; omega) _)⟩
set_option maxRecDepth 40000 in
set_option maxHeartbeats 8000000 in
theorem spec_switch (t : Tb) (a : Ad) (s y l : Int) (ra : Option Addr) (cap n : Nat) (D : Nat → List Wy) (m : Int) (w : World) (hm : TM 0 w t a) (hw : TW t a) (hs : TS a) (hrs : RSeg w ra n D) (hn : n ≤ 1048576) (ht : tot D n ≤ 1048576) :
    Calls Tryz.prog 9 #[tbV t a, cch s y l (.slice ra n cap), .int .i64 m] w fun e w' => (∃ f sc c r, e = .returned (wkv f sc c r) ∧ SwR t s y l n D m f sc c r) ∧ Below w.heap.size w w' := by
  obtain ⟨q2, hq2⟩ := told (CacheOkP s y l n D)
  have HC1 : Hid (∀ X, Below w.heap.size w X → Calls Tryz.prog 20 #[tbV t a] X fun e w' => (∃ r : Int, e = .returned (.int .i64 r) ∧ CR t r) ∧ Below X.heap.size X w') := fun X hX => spec_car t a X (hm.below hX) hw hs
  have HC2 : Hid (∀ X, Below w.heap.size w X → Calls Tryz.prog 19 #[cch s y l (.slice ra n cap)] X fun e w' => e = .returned (.bool q2) ∧ Below X.heap.size X w') := fun X hX => spec_cachek s y l ra cap n D X (RSeg.below hrs hX) hn ht q2 hq2
  have HC4 : Hid (CacheOkP s y l n D → ∀ X, Below w.heap.size w X → Calls Tryz.prog 22 #[cch s y l (.slice ra n cap)] X (FPost X s y l n noD ((dt D n : Nat) : Int))) := fun hd X hX => by
    obtain ⟨h1, h2, h3⟩ := hd
    subst h2
    exact spec_fl n y l ra cap D X (RSeg.below hrs hX) hn ht ⟨h1, rfl, h3⟩
  have HQ2 : Hid (q2 = true ↔ CacheOkP s y l n D) := hq2
  clear hq2 hm hw hs hrs
  have HB0 : Hid (Below w.heap.size w (((w.alloc (.cells (tbA t a) 46)).alloc (.cells #[.int .i64 s, .int .i64 y, .int .i64 l, .slice ra n cap] 50)).alloc (.cells (wkr 0 0 0 0) 38))) := (((Below.refl _ _).alloc (Nat.le_refl _) _).alloc (by simp) _).alloc (by simp; omega) _
  have HX0 : Hid (TBx (((w.alloc (.cells (tbA t a) 46)).alloc (.cells #[.int .i64 s, .int .i64 y, .int .i64 l, .slice ra n cap] 50)).alloc (.cells (wkr 0 0 0 0) 38)) w.heap.size t a) := by
    have h1 := TBx.new w t a w.heap.size rfl
    exact (h1.below ((Below.refl _ _).alloc (Nat.le_refl _) _)).below ((Below.refl _ _).alloc (Nat.le_refl _) _)
  have KC0 : Hid (Bk (((w.alloc (.cells (tbA t a) 46)).alloc (.cells #[.int .i64 s, .int .i64 y, .int .i64 l, .slice ra n cap] 50)).alloc (.cells (wkr 0 0 0 0) 38)) (w.heap.size + 1) #[.int .i64 s, .int .i64 y, .int .i64 l, .slice ra n cap]) := (Bk.new _ _ _ (w.heap.size + 1) (by simp)).alloc _
  have KR0 : Hid (Bk (((w.alloc (.cells (tbA t a) 46)).alloc (.cells #[.int .i64 s, .int .i64 y, .int .i64 l, .slice ra n cap] 50)).alloc (.cells (wkr 0 0 0 0) 38)) (w.heap.size + 2) (wkr 0 0 0 0)) := Bk.new _ _ _ (w.heap.size + 2) (by simp)
  go_enter Tryz.func9, Tryz.ntmps9
  have c0 : (((w.alloc (.cells (tbA t a) 46)).alloc (.cells #[.int .i64 s, .int .i64 y, .int .i64 l, .slice ra n cap] 50)).alloc (.cells (wkr 0 0 0 0) 38)).cell? ⟨w.heap.size + 1, 0, none⟩ = some (.int .i64 s) := KC0.out.cell 0 _ rfl
  have c1 : (((w.alloc (.cells (tbA t a) 46)).alloc (.cells #[.int .i64 s, .int .i64 y, .int .i64 l, .slice ra n cap] 50)).alloc (.cells (wkr 0 0 0 0) 38)).cell? ⟨w.heap.size + 1, 1, none⟩ = some (.int .i64 y) := KC0.out.cell 1 _ rfl
  have c2 : (((w.alloc (.cells (tbA t a) 46)).alloc (.cells #[.int .i64 s, .int .i64 y, .int .i64 l, .slice ra n cap] 50)).alloc (.cells (wkr 0 0 0 0) 38)).cell? ⟨w.heap.size + 1, 2, none⟩ = some (.int .i64 l) := KC0.out.cell 2 _ rfl
  have c3 : (((w.alloc (.cells (tbA t a) 46)).alloc (.cells #[.int .i64 s, .int .i64 y, .int .i64 l, .slice ra n cap] 50)).alloc (.cells (wkr 0 0 0 0) 38)).cell? ⟨w.heap.size + 1, 3, none⟩ = some (.slice ra n cap) := KC0.out.cell 3 _ rfl
  go_wp2_with fail
  refine Calls.mono (HC2.out _ HB0.out) ?_
  rintro e w1 ⟨rfl, hb⟩
  clear c0 c1 c2 c3
  have HB1 : Hid (Below w.heap.size w w1) := HB0.out.trans (hb.mono HB0.out.size)
  have HX1 : Hid (TBx w1 w.heap.size t a) := HX0.out.below hb
  have KC1 : Hid (Bk w1 (w.heap.size + 1) #[.int .i64 s, .int .i64 y, .int .i64 l, .slice ra n cap]) := KC0.out.below hb
  have KR1 : Hid (Bk w1 (w.heap.size + 2) (wkr 0 0 0 0)) := KR0.out.below hb
  clear hb HB0 HX0 KC0 KR0
  cases q2
  · have HNO : Hid (¬ SwOk t s y l n D m) := fun h => by have := HQ2.out.2 h.2.1; cases this
    have r0 : w1.cell? ⟨w.heap.size + 2, 0, none⟩ = some (.int .i64 0) := KR1.out.cell 0 _ rfl
    have r1 : w1.cell? ⟨w.heap.size + 2, 1, none⟩ = some (.int .i64 0) := KR1.out.cell 1 _ rfl
    have r2 : w1.cell? ⟨w.heap.size + 2, 2, none⟩ = some (.int .i64 0) := KR1.out.cell 2 _ rfl
    have r3 : w1.cell? ⟨w.heap.size + 2, 3, none⟩ = some (.int .i64 0) := KR1.out.cell 3 _ rfl
    have z0 : w1.frozen? ⟨w.heap.size + 2, 0, none⟩ = false := KR1.out.free 0
    have z1 : w1.frozen? ⟨w.heap.size + 2, 1, none⟩ = false := KR1.out.free 1
    have z2 : w1.frozen? ⟨w.heap.size + 2, 2, none⟩ = false := KR1.out.free 2
    have z3 : w1.frozen? ⟨w.heap.size + 2, 3, none⟩ = false := KR1.out.free 3
    go_wp2
    exact bodyPost_ret (v := wkv 0 0 0 0) (by simp [results, Tryz.results9, go_sem, r0, r1, r2, r3]) rfl ⟨⟨0, 0, 0, 0, rfl, .inl ⟨HNO.out, rfl, rfl, rfl, rfl⟩⟩, ((((HB1.out.setCell (by show w.heap.size ≤ w.heap.size + 2; omega) _).setCell (by show w.heap.size ≤ w.heap.size + 2; omega) _).setCell (by show w.heap.size ≤ w.heap.size + 2; omega) _).setCell (by show w.heap.size ≤ w.heap.size + 2; omega) _)⟩
  have HCO : Hid (CacheOkP s y l n D) := HQ2.out.1 rfl
  have c0 : w1.cell? ⟨w.heap.size + 1, 0, none⟩ = some (.int .i64 s) := KC1.out.cell 0 _ rfl
  have c1 : w1.cell? ⟨w.heap.size + 1, 1, none⟩ = some (.int .i64 y) := KC1.out.cell 1 _ rfl
  have c2 : w1.cell? ⟨w.heap.size + 1, 2, none⟩ = some (.int .i64 l) := KC1.out.cell 2 _ rfl
  have c3 : w1.cell? ⟨w.heap.size + 1, 3, none⟩ = some (.slice ra n cap) := KC1.out.cell 3 _ rfl
  have k1 : w1.cell? ⟨w.heap.size, 1, none⟩ = some (.int .i64 t.s1) := HX1.out.cell 1 rfl
  have k2 : w1.cell? ⟨w.heap.size, 2, none⟩ = some (.int .i64 t.s2) := HX1.out.cell 2 rfl
  have k3 : w1.cell? ⟨w.heap.size, 3, none⟩ = some (.int .i64 t.s3) := HX1.out.cell 3 rfl
  by_cases e1 : s = t.s1
  rotate_left
  · have HNO : Hid (¬ SwOk t s y l n D m) := fun h => e1 h.2.2.1.1
    have e1' : ¬ t.s1 = s := fun h => e1 h.symm
    have r0 : w1.cell? ⟨w.heap.size + 2, 0, none⟩ = some (.int .i64 0) := KR1.out.cell 0 _ rfl
    have r1 : w1.cell? ⟨w.heap.size + 2, 1, none⟩ = some (.int .i64 0) := KR1.out.cell 1 _ rfl
    have r2 : w1.cell? ⟨w.heap.size + 2, 2, none⟩ = some (.int .i64 0) := KR1.out.cell 2 _ rfl
    have r3 : w1.cell? ⟨w.heap.size + 2, 3, none⟩ = some (.int .i64 0) := KR1.out.cell 3 _ rfl
    have z0 : w1.frozen? ⟨w.heap.size + 2, 0, none⟩ = false := KR1.out.free 0
    have z1 : w1.frozen? ⟨w.heap.size + 2, 1, none⟩ = false := KR1.out.free 1
    have z2 : w1.frozen? ⟨w.heap.size + 2, 2, none⟩ = false := KR1.out.free 2
    have z3 : w1.frozen? ⟨w.heap.size + 2, 3, none⟩ = false := KR1.out.free 3
    go_wp2
    exact bodyPost_ret (v := wkv 0 0 0 0) (by simp [results, Tryz.results9, go_sem, r0, r1, r2, r3]) rfl ⟨⟨0, 0, 0, 0, rfl, .inl ⟨HNO.out, rfl, rfl, rfl, rfl⟩⟩, ((((HB1.out.setCell (by show w.heap.size ≤ w.heap.size + 2; omega) _).setCell (by show w.heap.size ≤ w.heap.size + 2; omega) _).setCell (by show w.heap.size ≤ w.heap.size + 2; omega) _).setCell (by show w.heap.size ≤ w.heap.size + 2; omega) _)⟩
  by_cases e2 : y = t.s2
  rotate_left
  · have HNO : Hid (¬ SwOk t s y l n D m) := fun h => e2 h.2.2.1.2.1
    have e2' : ¬ t.s2 = y := fun h => e2 h.symm
    have r0 : w1.cell? ⟨w.heap.size + 2, 0, none⟩ = some (.int .i64 0) := KR1.out.cell 0 _ rfl
    have r1 : w1.cell? ⟨w.heap.size + 2, 1, none⟩ = some (.int .i64 0) := KR1.out.cell 1 _ rfl
    have r2 : w1.cell? ⟨w.heap.size + 2, 2, none⟩ = some (.int .i64 0) := KR1.out.cell 2 _ rfl
    have r3 : w1.cell? ⟨w.heap.size + 2, 3, none⟩ = some (.int .i64 0) := KR1.out.cell 3 _ rfl
    have z0 : w1.frozen? ⟨w.heap.size + 2, 0, none⟩ = false := KR1.out.free 0
    have z1 : w1.frozen? ⟨w.heap.size + 2, 1, none⟩ = false := KR1.out.free 1
    have z2 : w1.frozen? ⟨w.heap.size + 2, 2, none⟩ = false := KR1.out.free 2
    have z3 : w1.frozen? ⟨w.heap.size + 2, 3, none⟩ = false := KR1.out.free 3
    go_wp2
    exact bodyPost_ret (v := wkv 0 0 0 0) (by simp [results, Tryz.results9, go_sem, r0, r1, r2, r3]) rfl ⟨⟨0, 0, 0, 0, rfl, .inl ⟨HNO.out, rfl, rfl, rfl, rfl⟩⟩, ((((HB1.out.setCell (by show w.heap.size ≤ w.heap.size + 2; omega) _).setCell (by show w.heap.size ≤ w.heap.size + 2; omega) _).setCell (by show w.heap.size ≤ w.heap.size + 2; omega) _).setCell (by show w.heap.size ≤ w.heap.size + 2; omega) _)⟩
  by_cases e3 : l = t.s3
  rotate_left
  · have HNO : Hid (¬ SwOk t s y l n D m) := fun h => e3 h.2.2.1.2.2
    have e3' : ¬ t.s3 = l := fun h => e3 h.symm
    have r0 : w1.cell? ⟨w.heap.size + 2, 0, none⟩ = some (.int .i64 0) := KR1.out.cell 0 _ rfl
    have r1 : w1.cell? ⟨w.heap.size + 2, 1, none⟩ = some (.int .i64 0) := KR1.out.cell 1 _ rfl
    have r2 : w1.cell? ⟨w.heap.size + 2, 2, none⟩ = some (.int .i64 0) := KR1.out.cell 2 _ rfl
    have r3 : w1.cell? ⟨w.heap.size + 2, 3, none⟩ = some (.int .i64 0) := KR1.out.cell 3 _ rfl
    have z0 : w1.frozen? ⟨w.heap.size + 2, 0, none⟩ = false := KR1.out.free 0
    have z1 : w1.frozen? ⟨w.heap.size + 2, 1, none⟩ = false := KR1.out.free 1
    have z2 : w1.frozen? ⟨w.heap.size + 2, 2, none⟩ = false := KR1.out.free 2
    have z3 : w1.frozen? ⟨w.heap.size + 2, 3, none⟩ = false := KR1.out.free 3
    go_wp2
    exact bodyPost_ret (v := wkv 0 0 0 0) (by simp [results, Tryz.results9, go_sem, r0, r1, r2, r3]) rfl ⟨⟨0, 0, 0, 0, rfl, .inl ⟨HNO.out, rfl, rfl, rfl, rfl⟩⟩, ((((HB1.out.setCell (by show w.heap.size ≤ w.heap.size + 2; omega) _).setCell (by show w.heap.size ≤ w.heap.size + 2; omega) _).setCell (by show w.heap.size ≤ w.heap.size + 2; omega) _).setCell (by show w.heap.size ≤ w.heap.size + 2; omega) _)⟩
  subst e1 e2 e3
  go_wp2_with (first | (refine wpList_load_rowG rfl 46 (.tmp 3) rfl w.heap.size rfl 46 (tbA t a) (0, 0) _ HX1.out Tryz.underlying46 rfl (by kernel_rfl) ?_) | fail)
  refine Calls.mono (HC1.out _ HB1.out) ?_
  rintro e w2 ⟨⟨M, rfl, hM⟩, hb⟩
  have HM : Hid (CR t M) := hM
  clear c0 c1 c2 c3 k1 k2 k3 hM
  have HB2 : Hid (Below w.heap.size w w2) := HB1.out.trans (hb.mono HB1.out.size)
  have HX2 : Hid (TBx w2 w.heap.size t a) := HX1.out.below hb
  have KC2 : Hid (Bk w2 (w.heap.size + 1) #[.int .i64 t.s1, .int .i64 t.s2, .int .i64 t.s3, .slice ra n cap]) := KC1.out.below hb
  have KR2 : Hid (Bk w2 (w.heap.size + 2) (wkr 0 0 0 0)) := KR1.out.below hb
  clear hb HB1 HX1 KC1 KR1
  go_wp2_with fail
  refine Calls.mono (in_any m 0 M _) ?_
  rintro e w3 ⟨rfl, hw3⟩
  obtain rfl : w2 = w3 := hw3.symm
  clear hw3
  obtain ⟨q3, HQ3⟩ : ∃ q, Hid (inr m 0 M = q) := ⟨_, rfl⟩
  rw [HQ3.out]
  cases q3
  · have HNO : Hid (¬ SwOk t t.s1 t.s2 t.s3 n D m) := fun h => by
      have h1 := inr_niff.1 HQ3.out
      rcases HM.out with ⟨g, _⟩ | ⟨_, g⟩
      · exact g h.1
      · exact h1 ⟨h.2.2.2.1, by rw [g]; exact h.2.2.2.2⟩
    have r0 : w2.cell? ⟨w.heap.size + 2, 0, none⟩ = some (.int .i64 0) := KR2.out.cell 0 _ rfl
    have r1 : w2.cell? ⟨w.heap.size + 2, 1, none⟩ = some (.int .i64 0) := KR2.out.cell 1 _ rfl
    have r2 : w2.cell? ⟨w.heap.size + 2, 2, none⟩ = some (.int .i64 0) := KR2.out.cell 2 _ rfl
    have r3 : w2.cell? ⟨w.heap.size + 2, 3, none⟩ = some (.int .i64 0) := KR2.out.cell 3 _ rfl
    have z0 : w2.frozen? ⟨w.heap.size + 2, 0, none⟩ = false := KR2.out.free 0
    have z1 : w2.frozen? ⟨w.heap.size + 2, 1, none⟩ = false := KR2.out.free 1
    have z2 : w2.frozen? ⟨w.heap.size + 2, 2, none⟩ = false := KR2.out.free 2
    have z3 : w2.frozen? ⟨w.heap.size + 2, 3, none⟩ = false := KR2.out.free 3
    go_wp2
    exact bodyPost_ret (v := wkv 0 0 0 0) (by simp [results, Tryz.results9, go_sem, r0, r1, r2, r3]) rfl ⟨⟨0, 0, 0, 0, rfl, .inl ⟨HNO.out, rfl, rfl, rfl, rfl⟩⟩, ((((HB2.out.setCell (by show w.heap.size ≤ w.heap.size + 2; omega) _).setCell (by show w.heap.size ≤ w.heap.size + 2; omega) _).setCell (by show w.heap.size ≤ w.heap.size + 2; omega) _).setCell (by show w.heap.size ≤ w.heap.size + 2; omega) _)⟩
  have HOK : Hid (SwOk t t.s1 t.s2 t.s3 n D m) := by
    have h1 := inr_iff.1 HQ3.out
    rcases HM.out with ⟨_, g⟩ | ⟨g0, g⟩
    · omega
    · exact ⟨g0, HCO.out, ⟨rfl, rfl, rfl⟩, h1.1, by rw [← g]; exact h1.2⟩
  have HFIN : Hid (∀ f c : Int, t.c7 * ((dt D n : Nat) : Int) = f → t.c1 * m = c → SwR t t.s1 t.s2 t.s3 n D m f (16 * t.c1) c (t.pad - f - 16 * t.c1 - c)) := fun f c h1 h2 => .inr ⟨HOK.out, h1.symm, Int.mul_comm _ _, h2.symm, by omega⟩
  have hr := sw_rng HOK.out
  clear HC1 HC2 HQ2 HQ3 HM HOK
  obtain ⟨d, HD⟩ : ∃ d, Hid (((dt D n : Nat) : Int) = d) := ⟨_, rfl⟩
  rw [HD.out] at HC4 HFIN hr
  clear HD
  obtain ⟨_, ⟨hc1, hc2⟩, _, _, ⟨hp1, hp2⟩, ⟨hf1, hf2⟩, ⟨hg1, hg2⟩, _⟩ := hr
  have c0 : w2.cell? ⟨w.heap.size + 1, 0, none⟩ = some (.int .i64 t.s1) := KC2.out.cell 0 _ rfl
  have c1 : w2.cell? ⟨w.heap.size + 1, 1, none⟩ = some (.int .i64 t.s2) := KC2.out.cell 1 _ rfl
  have c2 : w2.cell? ⟨w.heap.size + 1, 2, none⟩ = some (.int .i64 t.s3) := KC2.out.cell 2 _ rfl
  have c3 : w2.cell? ⟨w.heap.size + 1, 3, none⟩ = some (.slice ra n cap) := KC2.out.cell 3 _ rfl
  go_wp2_with fail
  refine Calls.mono (HC4.out HCO.out _ HB2.out) ?_
  rintro e w4 ⟨a4, q4, rfl, hb4, _⟩
  have hal : Below w4.heap.size w4 (w4.alloc (.cells #[.int .i64 t.s1, .int .i64 t.s2, .int .i64 t.s3, .slice a4 n q4] 50)) := (Below.refl _ _).alloc (Nat.le_refl _) _
  have hb := hb4.trans (hal.mono hb4.size)
  have hz4 : w.heap.size + 2 < w4.heap.size := Nat.lt_of_lt_of_le KR2.out.lt hb4.size
  have HB4 : Hid (Below w.heap.size w (w4.alloc (.cells #[.int .i64 t.s1, .int .i64 t.s2, .int .i64 t.s3, .slice a4 n q4] 50))) := HB2.out.trans (hb.mono HB2.out.size)
  have HX4 : Hid (TBx (w4.alloc (.cells #[.int .i64 t.s1, .int .i64 t.s2, .int .i64 t.s3, .slice a4 n q4] 50)) w.heap.size t a) := HX2.out.below hb
  have KR4 : Hid (Bk (w4.alloc (.cells #[.int .i64 t.s1, .int .i64 t.s2, .int .i64 t.s3, .slice a4 n q4] 50)) (w.heap.size + 2) (wkr 0 0 0 0)) := KR2.out.below hb
  clear hb hal hb4 HB2 HX2 KC2 KR2 c0 c1 c2 c3 HC4 HCO
  obtain ⟨V, hV⟩ : ∃ V, Hid (w4.alloc (.cells #[.int .i64 t.s1, .int .i64 t.s2, .int .i64 t.s3, .slice a4 n q4] 50) = V) := ⟨_, rfl⟩
  have k5 : (w4.alloc (.cells #[.int .i64 t.s1, .int .i64 t.s2, .int .i64 t.s3, .slice a4 n q4] 50)).cell? ⟨w.heap.size, 5, none⟩ = some (.int .i64 t.c1) := HX4.out.cell 5 rfl
  have k11 : (w4.alloc (.cells #[.int .i64 t.s1, .int .i64 t.s2, .int .i64 t.s3, .slice a4 n q4] 50)).cell? ⟨w.heap.size, 11, none⟩ = some (.int .i64 t.c7) := HX4.out.cell 11 rfl
  have k12 : (w4.alloc (.cells #[.int .i64 t.s1, .int .i64 t.s2, .int .i64 t.s3, .slice a4 n q4] 50)).cell? ⟨w.heap.size, 12, none⟩ = some (.int .i64 t.pad) := HX4.out.cell 12 rfl
  obtain ⟨f, hf⟩ : ∃ f, t.c7 * d = f := ⟨_, rfl⟩
  obtain ⟨c, hc⟩ : ∃ c, t.c1 * m = c := ⟨_, rfl⟩
  rw [hf] at hf1 hf2
  rw [hc] at hg1 hg2
  have HRL : Hid (SwR t t.s1 t.s2 t.s3 n D m f (16 * t.c1) c (t.pad - f - 16 * t.c1 - c)) := HFIN.out f c hf hc
  have hw1 : IntKind.i64.wrap (t.c7 * d) = f := by rw [hf, IntKind.wrap_i64]; omega
  have hw2 : IntKind.i64.wrap (16 * t.c1) = 16 * t.c1 := by rw [IntKind.wrap_i64]; omega
  have hw3 : IntKind.i64.wrap (t.c1 * m) = c := by rw [hc, IntKind.wrap_i64]; omega
  have hw4 : IntKind.i64.wrap (t.pad - f) = t.pad - f := by rw [IntKind.wrap_i64]; omega
  have hw5 : IntKind.i64.wrap (t.pad - f - 16 * t.c1) = t.pad - f - 16 * t.c1 := by rw [IntKind.wrap_i64]; omega
  have hw6 : IntKind.i64.wrap (t.pad - f - 16 * t.c1 - c) = t.pad - f - 16 * t.c1 - c := by rw [IntKind.wrap_i64]; omega
  clear HFIN hf hc hf1 hf2 hg1 hg2 hp1 hp2 hc1 hc2
  have k12' : ((w4.alloc (.cells #[.int .i64 t.s1, .int .i64 t.s2, .int .i64 t.s3, .slice a4 n q4] 50)).alloc (.cells (wkr f (16 * t.c1) c 0) 38)).cell? ⟨w.heap.size, 12, none⟩ = some (.int .i64 t.pad) := (HX4.out.below ((Below.refl _ _).alloc (Nat.le_refl _) _)).cell 12 rfl
  have KR5 : Hid (Bk ((w4.alloc (.cells #[.int .i64 t.s1, .int .i64 t.s2, .int .i64 t.s3, .slice a4 n q4] 50)).alloc (.cells (wkr f (16 * t.c1) c (t.pad - f - 16 * t.c1 - c)) 38)) (w.heap.size + 2) (wkr 0 0 0 0)) := KR4.out.alloc _
  have HB5 : Hid (Below w.heap.size w ((w4.alloc (.cells #[.int .i64 t.s1, .int .i64 t.s2, .int .i64 t.s3, .slice a4 n q4] 50)).alloc (.cells (wkr f (16 * t.c1) c (t.pad - f - 16 * t.c1 - c)) 38))) := HB4.out.alloc HB4.out.size _
  have r0 : ((w4.alloc (.cells #[.int .i64 t.s1, .int .i64 t.s2, .int .i64 t.s3, .slice a4 n q4] 50)).alloc (.cells (wkr f (16 * t.c1) c (t.pad - f - 16 * t.c1 - c)) 38)).cell? ⟨w.heap.size + 2, 0, none⟩ = some (.int .i64 0) := KR5.out.cell 0 _ rfl
  have z0 : ((w4.alloc (.cells #[.int .i64 t.s1, .int .i64 t.s2, .int .i64 t.s3, .slice a4 n q4] 50)).alloc (.cells (wkr f (16 * t.c1) c (t.pad - f - 16 * t.c1 - c)) 38)).frozen? ⟨w.heap.size + 2, 0, none⟩ = false := KR5.out.free 0
  have r1 : ((w4.alloc (.cells #[.int .i64 t.s1, .int .i64 t.s2, .int .i64 t.s3, .slice a4 n q4] 50)).alloc (.cells (wkr f (16 * t.c1) c (t.pad - f - 16 * t.c1 - c)) 38)).cell? ⟨w.heap.size + 2, 1, none⟩ = some (.int .i64 0) := KR5.out.cell 1 _ rfl
  have z1 : ((w4.alloc (.cells #[.int .i64 t.s1, .int .i64 t.s2, .int .i64 t.s3, .slice a4 n q4] 50)).alloc (.cells (wkr f (16 * t.c1) c (t.pad - f - 16 * t.c1 - c)) 38)).frozen? ⟨w.heap.size + 2, 1, none⟩ = false := KR5.out.free 1
  have r2 : ((w4.alloc (.cells #[.int .i64 t.s1, .int .i64 t.s2, .int .i64 t.s3, .slice a4 n q4] 50)).alloc (.cells (wkr f (16 * t.c1) c (t.pad - f - 16 * t.c1 - c)) 38)).cell? ⟨w.heap.size + 2, 2, none⟩ = some (.int .i64 0) := KR5.out.cell 2 _ rfl
  have z2 : ((w4.alloc (.cells #[.int .i64 t.s1, .int .i64 t.s2, .int .i64 t.s3, .slice a4 n q4] 50)).alloc (.cells (wkr f (16 * t.c1) c (t.pad - f - 16 * t.c1 - c)) 38)).frozen? ⟨w.heap.size + 2, 2, none⟩ = false := KR5.out.free 2
  have r3 : ((w4.alloc (.cells #[.int .i64 t.s1, .int .i64 t.s2, .int .i64 t.s3, .slice a4 n q4] 50)).alloc (.cells (wkr f (16 * t.c1) c (t.pad - f - 16 * t.c1 - c)) 38)).cell? ⟨w.heap.size + 2, 3, none⟩ = some (.int .i64 0) := KR5.out.cell 3 _ rfl
  have z3 : ((w4.alloc (.cells #[.int .i64 t.s1, .int .i64 t.s2, .int .i64 t.s3, .slice a4 n q4] 50)).alloc (.cells (wkr f (16 * t.c1) c (t.pad - f - 16 * t.c1 - c)) 38)).frozen? ⟨w.heap.size + 2, 3, none⟩ = false := KR5.out.free 3
  clear HX4 KR4 HB4
  go_wp2
  exact bodyPost_ret (v := wkv f (16 * t.c1) c (t.pad - f - 16 * t.c1 - c)) (by simp [results, Tryz.results9, go_sem, r0, r1, r2, r3]) rfl ⟨⟨f, 16 * t.c1, c, t.pad - f - 16 * t.c1 - c, rfl, HRL.out⟩, ((((HB5.out.setCell (by show w.heap.size ≤ w.heap.size + 2; omega) _).setCell (by show w.heap.size ≤ w.heap.size + 2; omega) _).setCell (by show w.heap.size ≤ w.heap.size + 2; omega) _).setCell (by show w.heap.size ≤ w.heap.size + 2; omega) _)⟩
end Go.Proofs.YtnifidijheeebaaGreatDoor
