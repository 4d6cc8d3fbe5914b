
/-
  The program's SendOn: what the plain functions say, in memory of its own. Conditions: the words read as words, at most 1048576 of them.
-/
import Derived.Test.YtobgaakcinjnaaaProg
import Derived.Test.YtobgaakcinjnaaaChp
namespace Go.Proofs.Ytobgaakcinjnaaa
open Go.ChangeShapes Go.WideShapes Go.ChangeAt Go.RowKit Go.Deep
set_option linter.unusedVariables false

set_option maxRecDepth 20000 in
set_option maxHeartbeats 4000000 in
theorem impl_send (k f t d h x : Int) (a : Option Addr) (n c : Nat) (zs : List Int) (h' : Int) (ys : List Int) (cd : Int) (w : World) (hs : Seg .u32 w a zs) (hl : zs.length = n) (hn : n ≤ 1048576) (HR : Hid (sndF k f t d h (n : Int) zs x = (h', ys, cd))) :
    Calls Try.prog 9 #[crw k f t d, oen h a n c, .int .u32 x] w fun e w' => ∃ a' c', e = .returned (.tuple #[oen h' a' ys.length c', .int .i64 cd]) ∧ Below w.heap.size w w' ∧ OE w' w.heap.size w'.heap.size a' ys := by
  have HB : Hid (Below w.heap.size w (((w.alloc (.cells (crow k f t d) 25)).alloc (.cells (orow h a n c) 28)).alloc (.cells (orow 0 none 0 0) 28))) := (((Below.refl _ w).alloc (Nat.le_refl _) _).alloc (by simp) _).alloc (by simp; omega) _
  have HK : Hid (Bk (((w.alloc (.cells (crow k f t d) 25)).alloc (.cells (orow h a n c) 28)).alloc (.cells (orow 0 none 0 0) 28)) (w.heap.size + 1 + 1) (orow 0 none 0 0)) := Bk.new _ _ _ _ (by simp)
  have HS : Hid (Seg .u32 w a zs) := hs
  have HL : Hid (zs.length = n) := hl
  clear hs hl
  obtain ⟨q, HQ⟩ : ∃ q, Hid (outOk k f t d h (n : Int) = q) := ⟨_, rfl⟩
  obtain ⟨rm, HRM⟩ : ∃ r, Hid ((if k = 1 then d - h - (n : Int) else 1) = r) := ⟨_, rfl⟩
  have HE0 : Hid (q = false → h' = 0 ∧ ys = [] ∧ cd = 3) := fun e => by
    have g := HR.out
    unfold sndF at g
    rw [HQ.out, e, if_neg (by decide)] at g
    injection g with g1 g2; injection g2 with g2 g3
    exact ⟨g1.symm, g2.symm, g3.symm⟩
  have HKD : Hid (q = true → (k = 0 ∧ d = 0 ∧ h = 0) ∨ (k = 1 ∧ 1 ≤ d ∧ d ≤ 8 ∧ 0 ≤ h ∧ h ≤ d)) := fun g => by
    have g2 := HQ.out.trans g
    rcases outOk_k g2 with ⟨h1, h2⟩ | h1
    · refine .inl ⟨h1, h2, ?_⟩
      unfold outOk at g2
      rw [if_pos h1] at g2
      simp at g2
      exact g2.2.1
    · exact .inr h1
  have HE1 : Hid (q = true → rm = 0 → h' = h ∧ ys = zs ∧ cd = 2) := fun e e2 => by
    have g := HR.out
    unfold sndF at g
    rw [HQ.out, if_pos e] at g
    have g0 := HRM.out
    rcases HKD.out e with ⟨h1, h2, h3⟩ | ⟨h1, h2⟩
    · subst h1
      rw [if_neg (by decide), e2] at g0
      cases g0
    · subst h1
      rw [if_pos rfl, e2] at g0
      rw [if_neg (by decide), if_pos g0] at g
      injection g with g1 g2; injection g2 with g2 g3
      exact ⟨g1.symm, g2.symm, g3.symm⟩
  have HE2 : Hid (q = true → ¬ rm = 0 → h' = h ∧ (if k = 1 then zs ++ [x] else [x]) = ys ∧ cd = 0) := fun e e2 => by
    have g := HR.out
    unfold sndF at g
    rw [HQ.out, if_pos e] at g
    have g0 := HRM.out
    rcases HKD.out e with ⟨h1, h2, h3⟩ | ⟨h1, h2⟩
    · subst h1
      rw [if_pos rfl] at g
      rw [if_neg (by decide)]
      injection g with g1 g2; injection g2 with g2 g3
      exact ⟨by omega, g2, g3.symm⟩
    · subst h1
      rw [if_pos rfl] at g0
      rw [if_neg (by decide), if_neg (by omega)] at g
      rw [if_pos rfl]
      injection g with g1 g2; injection g2 with g2 g3
      exact ⟨g1.symm, g2, g3.symm⟩
  clear HR
  go_enter Try.func9, Try.ntmps9
  go_wp2_with fail
  refine (impl_sside k f t d h a n c _).mono ?_
  rintro y w0 ⟨rfl, hb0⟩
  have HB0 : Hid (Below w.heap.size w (w0.alloc (.cells (ssr k f t d h a n c) 52))) := (HB.out.trans (hb0.mono HB.out.size)).alloc (HB.out.trans (hb0.mono HB.out.size)).size _
  have hz0 : w.heap.size + 1 + 1 < w0.heap.size := (HK.out.below hb0).lt
  have KS : Hid (Bk (w0.alloc (.cells (ssr k f t d h a n c) 52)) w0.heap.size (ssr k f t d h a n c)) := Bk.new w0 _ _ _ rfl
  have KR0 : Hid (Bk (w0.alloc (.cells (ssr k f t d h a n c) 52)) (w.heap.size + 1 + 1) (orow 0 none 0 0)) := (HK.out.below hb0).alloc _
  clear HB hb0 HK
  go_wp2_with fail
  refine (impl_ssound k f t d h a n c q _ HQ hn).mono ?_
  rintro y w1 ⟨rfl, hb1⟩
  have HB1 : Hid (Below w.heap.size w w1) := HB0.out.trans (hb1.mono HB0.out.size)
  have S1 : Hid (Bk w1 w0.heap.size (ssr k f t d h a n c)) := KS.out.below hb1
  have R1 : Hid (Bk w1 (w.heap.size + 1 + 1) (orow 0 none 0 0)) := KR0.out.below hb1
  clear HB0 KS KR0 hb1 HQ
  have hz1 := S1.out.lt
  cases q
  · obtain ⟨rfl, rfl, rfl⟩ : h' = 0 ∧ ys = [] ∧ cd = 3 := HE0.out (by first | rfl | trivial)
    have HB2 : Hid (Below w.heap.size w w1) := HB1.out
    have KR : Hid (Bk w1 (w.heap.size + 1 + 1) (orow 0 none 0 0)) := R1.out
    have r0 := KR.out.cell 0 _ rfl
    have r1 := KR.out.cell 1 _ rfl
    have rf := KR.out.free
    clear HE0 HE1 HE2 HKD
    have k2 : Bk ((w1.setCell ⟨w.heap.size + 1 + 1, 0, none⟩ (.int .i64 0)).setCell ⟨w.heap.size + 1 + 1, 1, none⟩ (.slice none 0 0)) (w.heap.size + 1 + 1) #[.int .i64 0, .slice none 0 0] := (KR.out.set 0 (.int .i64 0) (by simp) (cs' := #[.int .i64 0, .slice none 0 0]) rfl).set 1 _ (by simp) rfl
    have t2 : Betw (w.heap.size + 2) (w.heap.size + 3) w1 ((w1.setCell ⟨w.heap.size + 1 + 1, 0, none⟩ (.int .i64 0)).setCell ⟨w.heap.size + 1 + 1, 1, none⟩ (.slice none 0 0)) := ((Betw.refl (w.heap.size + 2) (w.heap.size + 3) w1).setCell (p := ⟨w.heap.size + 1 + 1, 0, none⟩) (by simp) (by simp) (.int .i64 0)).setCell (p := ⟨w.heap.size + 1 + 1, 1, none⟩) (by simp) (by simp) (.slice none 0 0)
    have x2 : Below w.heap.size w ((w1.setCell ⟨w.heap.size + 1 + 1, 0, none⟩ (.int .i64 0)).setCell ⟨w.heap.size + 1 + 1, 1, none⟩ (.slice none 0 0)) := HB2.out.trans (t2.below (by omega) HB2.out.size)
    have o2 : OE ((w1.setCell ⟨w.heap.size + 1 + 1, 0, none⟩ (.int .i64 0)).setCell ⟨w.heap.size + 1 + 1, 1, none⟩ (.slice none 0 0)) w.heap.size ((w1.setCell ⟨w.heap.size + 1 + 1, 0, none⟩ (.int .i64 0)).setCell ⟨w.heap.size + 1 + 1, 1, none⟩ (.slice none 0 0)).heap.size none [] := OE.nil _ _ _ _
    go_wp2
    clear r0 r1 rf S1 R1 HB1 HB2 KR t2
    revert k2 x2 o2
    generalize ((w1.setCell ⟨w.heap.size + 1 + 1, 0, none⟩ (.int .i64 0)).setCell ⟨w.heap.size + 1 + 1, 1, none⟩ (.slice none 0 0)) = Wf
    intro k2 x2 o2
    skip
    have q0 := k2.cell 0 _ rfl
    have q1 := k2.cell 1 _ rfl
    refine bodyPost_ret (v := .tuple #[.agg #[.int .i64 0, .slice none 0 0], .int .i64 3]) (by simp [results, Try.results9, go_sem, q0, q1]) rfl ?_
    exact ⟨none, 0, rfl, x2, OE.nil _ _ _ _⟩
  have HKT : Hid ((k = 0 ∧ d = 0 ∧ h = 0) ∨ (k = 1 ∧ 1 ≤ d ∧ d ≤ 8 ∧ 0 ≤ h ∧ h ≤ d)) := HKD.out (by first | rfl | trivial)
  have HDD : Hid (k = 1 → 0 ≤ h ∧ h ≤ d ∧ d ≤ 8) := fun g => by
    rcases HKT.out with ⟨g0, _⟩ | ⟨_, g1, g2, g3, g4⟩
    · exact absurd (g0.symm.trans g) (by decide)
    · exact ⟨g3, g4, g2⟩
  have HE1' : Hid (rm = 0 → h' = h ∧ ys = zs ∧ cd = 2) := HE1.out (by first | rfl | trivial)
  have HE2' : Hid (¬ rm = 0 → h' = h ∧ (if k = 1 then zs ++ [x] else [x]) = ys ∧ cd = 0) := HE2.out (by first | rfl | trivial)
  clear HE0 HE1 HE2 HKD HKT
  have c0 := S1.out.cell 0 _ rfl
  have c1 := S1.out.cell 1 _ rfl
  have c2 := S1.out.cell 2 _ rfl
  have c3 := S1.out.cell 3 _ rfl
  have c4 := S1.out.cell 4 _ rfl
  have c5 := S1.out.cell 5 _ rfl
  go_wp2_with fail
  refine (impl_sroom k f t d h a n c rm _ HRM HDD hn).mono ?_
  rintro y w2 ⟨rfl, hb2⟩
  have HB2' : Hid (Below w.heap.size w w2) := HB1.out.trans (hb2.mono HB1.out.size)
  have S2 : Hid (Bk w2 w0.heap.size (ssr k f t d h a n c)) := S1.out.below hb2
  have R2 : Hid (Bk w2 (w.heap.size + 1 + 1) (orow 0 none 0 0)) := R1.out.below hb2
  clear hb2 c0 c1 c2 c3 c4 c5 HB1 S1 R1 HRM HDD hz1
  have hz2 := S2.out.lt
  have hb : Below w2.heap.size w2 w2 := Below.refl _ _
  have C0 : Hid (w2.cell? ⟨w0.heap.size, 0, none⟩ = some (.int .i64 k)) := S2.out.cell 0 _ rfl
  have c0 := C0.out
  have C1 : Hid (w2.cell? ⟨w0.heap.size, 1, none⟩ = some (.int .i64 f)) := S2.out.cell 1 _ rfl
  have c1 := C1.out
  have C2 : Hid (w2.cell? ⟨w0.heap.size, 2, none⟩ = some (.int .i64 t)) := S2.out.cell 2 _ rfl
  have c2 := C2.out
  have C3 : Hid (w2.cell? ⟨w0.heap.size, 3, none⟩ = some (.int .i64 d)) := S2.out.cell 3 _ rfl
  have c3 := C3.out
  have C4 : Hid (w2.cell? ⟨w0.heap.size, 4, none⟩ = some (.int .i64 h)) := S2.out.cell 4 _ rfl
  have c4 := C4.out
  have C5 : Hid (w2.cell? ⟨w0.heap.size, 5, none⟩ = some (.slice a n c)) := S2.out.cell 5 _ rfl
  have c5 := C5.out
  have R0 : Hid (w2.cell? ⟨w.heap.size + 1 + 1, 0, none⟩ = some (.int .i64 0)) := R2.out.cell 0 _ rfl
  have R1 : Hid (w2.cell? ⟨w.heap.size + 1 + 1, 1, none⟩ = some (.slice none 0 0)) := R2.out.cell 1 _ rfl
  have r0 := R0.out
  have r1 := R1.out
  have rf := R2.out.free
  cases hrb : (rm == 0)
  rotate_left
  · obtain ⟨rfl, rfl, rfl⟩ : h' = h ∧ ys = zs ∧ cd = 2 := HE1'.out (by simpa using hrb)
    clear HE1' HE2'
    have CP : Hid (∀ X, Below w2.heap.size w2 X → Calls Try.prog 24 #[.slice a n c] X fun e w' => ∃ g, e = .returned (.slice (some ⟨g, 0, none⟩) n n) ∧ Below X.heap.size X w' ∧ OE w' X.heap.size w'.heap.size (some ⟨g, 0, none⟩) ys) := fun X hX => by
      refine (impl_copied a n c ys X (HS.out.below (HB2'.out.trans (hX.mono HB2'.out.size))) HL.out hn).mono ?_
      rintro e w' ⟨g, h1, h2, h3⟩
      obtain ⟨a', c', e', g'⟩ := OwnU.oe h3
      injection e' with e1 e2 e3
      subst e1
      exact ⟨g, h1, h2, g'⟩
    have WT : Hid (∀ X g, Calls Try.prog 23 #[ssd k f t d h' a n c, .slice (some ⟨g, 0, none⟩) n n] X fun e w' => e = .returned (oen h' (some ⟨g, 0, none⟩) n n) ∧ Below X.heap.size X w') := fun X g => impl_with k f t d h' a n c _ _ _ X
    clear HS
    go_wp2
    go_region_held_law (fun w' => w'.cell? ⟨w0.heap.size, 0, none⟩ = some (.int .i64 k) ∧ w'.cell? ⟨w0.heap.size, 1, none⟩ = some (.int .i64 f) ∧ w'.cell? ⟨w0.heap.size, 2, none⟩ = some (.int .i64 t) ∧ w'.cell? ⟨w0.heap.size, 3, none⟩ = some (.int .i64 d) ∧ w'.cell? ⟨w0.heap.size, 4, none⟩ = some (.int .i64 h') ∧ w'.cell? ⟨w0.heap.size, 5, none⟩ = some (.slice a n c)) (first | with_reducible exact ⟨c0, c1, c2, c3, c4, c5⟩ | with_reducible exact ⟨dr_c c0, dr_c c1, dr_c c2, dr_c c3, dr_c c4, dr_c c5⟩ | with_reducible exact ⟨al_c _ c0, al_c _ c1, al_c _ c2, al_c _ c3, al_c _ c4, al_c _ c5⟩ | with_reducible exact ⟨al_c _ (dr_c c0), al_c _ (dr_c c1), al_c _ (dr_c c2), al_c _ (dr_c c3), al_c _ (dr_c c4), al_c _ (dr_c c5)⟩ | with_reducible exact ⟨dr_c (al_c _ c0), dr_c (al_c _ c1), dr_c (al_c _ c2), dr_c (al_c _ c3), dr_c (al_c _ c4), dr_c (al_c _ c5)⟩ | with_reducible exact ⟨st2 (by omega) c0, st2 (by omega) c1, st2 (by omega) c2, st2 (by omega) c3, st2 (by omega) c4, st2 (by omega) c5⟩ | with_reducible exact ⟨st2 (by omega) (dr_c c0), st2 (by omega) (dr_c c1), st2 (by omega) (dr_c c2), st2 (by omega) (dr_c c3), st2 (by omega) (dr_c c4), st2 (by omega) (dr_c c5)⟩ | with_reducible exact ⟨st1 (by omega) c0, st1 (by omega) c1, st1 (by omega) c2, st1 (by omega) c3, st1 (by omega) c4, st1 (by omega) c5⟩ | with_reducible exact ⟨dr_c (dr_c c0), dr_c (dr_c c1), dr_c (dr_c c2), dr_c (dr_c c3), dr_c (dr_c c4), dr_c (dr_c c5)⟩ | with_reducible exact ⟨dr_c (al_c _ (dr_c c0)), dr_c (al_c _ (dr_c c1)), dr_c (al_c _ (dr_c c2)), dr_c (al_c _ (dr_c c3)), dr_c (al_c _ (dr_c c4)), dr_c (al_c _ (dr_c c5))⟩)
      (first | (go_at_call 24; refine Calls.mono (CP.out _ (by first | exact hb | exact hb.drew | exact hb.alloc hb.size _ | exact (hb.alloc hb.size _).drew | exact hb.drew.alloc hb.drew.size _)) ?_; rintro u w3 ⟨g3, rfl, hbb, ho3⟩; have hbn := (by first | exact hb.trans (hbb.mono hb.size) | exact hb.drew.trans (hbb.mono hb.drew.size) | exact (hb.alloc hb.size _).trans (hbb.mono (hb.alloc hb.size _).size) | exact ((hb.alloc hb.size _).drew).trans (hbb.mono ((hb.alloc hb.size _).drew).size) | exact (hb.drew.alloc hb.drew.size _).trans (hbb.mono (hb.drew.alloc hb.drew.size _).size)); replace hb := hbn; clear hbn; replace c0 := kept_c hb C0.out; replace c1 := kept_c hb C1.out; replace c2 := kept_c hb C2.out; replace c3 := kept_c hb C3.out; replace c4 := kept_c hb C4.out; replace c5 := kept_c hb C5.out; replace r0 := kept_c hb R0.out; replace r1 := kept_c hb R1.out; replace rf := Bk.free (show Bk w3 (w.heap.size + 1 + 1) _ from R2.out.below hb); have HO3 : Hid (OE w3 _ _ _ _) := ho3; have hz3 := hb.size; clear hbb ho3) | (go_at_call 23; refine Calls.mono (WT.out _ _) ?_; rintro u w4 ⟨rfl, hbb⟩; have hz4 := hbb.size; have HO4 : Hid (OE w4 _ _ _ _) := (by first | exact HO3.out.below hbb | exact HO3.out.below ((Below.refl _ _).drew.trans hbb)); have hbn := (by first | exact hb.trans (hbb.mono hb.size) | exact hb.drew.trans (hbb.mono hb.drew.size) | exact (hb.alloc hb.size _).trans (hbb.mono (hb.alloc hb.size _).size) | exact ((hb.alloc hb.size _).drew).trans (hbb.mono ((hb.alloc hb.size _).drew).size) | exact (hb.drew.alloc hb.drew.size _).trans (hbb.mono (hb.drew.alloc hb.drew.size _).size)); replace hb := hbn; clear hbn; replace c0 := kept_c hb C0.out; replace c1 := kept_c hb C1.out; replace c2 := kept_c hb C2.out; replace c3 := kept_c hb C3.out; replace c4 := kept_c hb C4.out; replace c5 := kept_c hb C5.out; replace r0 := kept_c hb R0.out; replace r1 := kept_c hb R1.out; replace rf := Bk.free (show Bk w4 (w.heap.size + 1 + 1) _ from R2.out.below hb); clear hbb))
    all_goals
      rename_i hhh
      try clear hhh
      have HB2 : Hid (Below w.heap.size w w4) := HB2'.out.trans (hb.mono HB2'.out.size)
      have KR : Hid (Bk w4 (w.heap.size + 1 + 1) (orow 0 none 0 0)) := R2.out.below hb
      have hzw := HB2'.out.size
      have k2 : Bk ((w4.setCell ⟨w.heap.size + 1 + 1, 0, none⟩ (.int .i64 h')).setCell ⟨w.heap.size + 1 + 1, 1, none⟩ (.slice (some ⟨g3, 0, none⟩) n n)) (w.heap.size + 1 + 1) #[.int .i64 h', .slice (some ⟨g3, 0, none⟩) n n] := (KR.out.set 0 (.int .i64 h') (by simp) (cs' := #[.int .i64 h', .slice none 0 0]) rfl).set 1 _ (by simp) rfl
      have t2 : Betw (w.heap.size + 2) (w.heap.size + 3) w4 ((w4.setCell ⟨w.heap.size + 1 + 1, 0, none⟩ (.int .i64 h')).setCell ⟨w.heap.size + 1 + 1, 1, none⟩ (.slice (some ⟨g3, 0, none⟩) n n)) := ((Betw.refl (w.heap.size + 2) (w.heap.size + 3) w4).setCell (p := ⟨w.heap.size + 1 + 1, 0, none⟩) (by simp) (by simp) (.int .i64 h')).setCell (p := ⟨w.heap.size + 1 + 1, 1, none⟩) (by simp) (by simp) (.slice (some ⟨g3, 0, none⟩) n n)
      have x2 : Below w.heap.size w ((w4.setCell ⟨w.heap.size + 1 + 1, 0, none⟩ (.int .i64 h')).setCell ⟨w.heap.size + 1 + 1, 1, none⟩ (.slice (some ⟨g3, 0, none⟩) n n)) := HB2.out.trans (t2.below (by omega) HB2.out.size)
      have o2 : OE ((w4.setCell ⟨w.heap.size + 1 + 1, 0, none⟩ (.int .i64 h')).setCell ⟨w.heap.size + 1 + 1, 1, none⟩ (.slice (some ⟨g3, 0, none⟩) n n)) w.heap.size ((w4.setCell ⟨w.heap.size + 1 + 1, 0, none⟩ (.int .i64 h')).setCell ⟨w.heap.size + 1 + 1, 1, none⟩ (.slice (some ⟨g3, 0, none⟩) n n)).heap.size (some ⟨g3, 0, none⟩) ys := OE.wide (OE.betw HO4.out t2 (.inr (by first | omega | (simp; omega)))) (by first | omega | (simp; omega)) (by first | (simp at hz4 ⊢; omega) | (simp; omega) | simp)
      skip
      clear r0 r1 rf S2 R2 HB2' HB2 KR HO3 HO4 c0 c1 c2 c3 c4 c5 C0 C1 C2 C3 C4 C5 R0 R1 hb t2
      revert k2 x2 o2
      generalize ((w4.setCell ⟨w.heap.size + 1 + 1, 0, none⟩ (.int .i64 h')).setCell ⟨w.heap.size + 1 + 1, 1, none⟩ (.slice (some ⟨g3, 0, none⟩) n n)) = Wf
      intro k2 x2 o2
      go_wp2
      have q0 := k2.cell 0 _ rfl
      have q1 := k2.cell 1 _ rfl
      refine bodyPost_ret (v := .tuple #[.agg #[.int .i64 h', .slice (some ⟨g3, 0, none⟩) n n], .int .i64 2]) (by simp [results, Try.results9, go_sem, q0, q1]) rfl ?_
      exact ⟨_, _, by rw [HL.out], x2, o2⟩
  · obtain ⟨e1, e2, e3⟩ : h' = h ∧ (if k = 1 then zs ++ [x] else [x]) = ys ∧ cd = 0 := HE2'.out (by simpa using hrb)
    subst e1 e3
    have HY : Hid ((if k = 1 then zs ++ [x] else [x]) = ys) := e2
    clear e2 HE1' HE2'
    go_wp2_with fail
    refine (impl_sent k f t d h' x a n c zs ys _ (HS.out.below HB2'.out) HL.out hn HY).mono ?_
    rintro y w3 ⟨a3, c3', rfl, hb3, ho3⟩
    have HO3 : Hid (OE w3 w2.heap.size w3.heap.size a3 ys) := ho3
    have HB2 : Hid (Below w.heap.size w w3) := HB2'.out.trans (hb3.mono HB2'.out.size)
    have KR : Hid (Bk w3 (w.heap.size + 1 + 1) (orow 0 none 0 0)) := R2.out.below hb3
    have hzw := HB2'.out.size
    clear r0 r1 rf ho3 hb3 HY HS HL
    have r0 := KR.out.cell 0 _ rfl
    have r1 := KR.out.cell 1 _ rfl
    have rf := KR.out.free
    obtain ⟨yl, HYL⟩ : ∃ yl, Hid (ys.length = yl) := ⟨_, rfl⟩
    rw [HYL.out]
    have k2 : Bk ((w3.setCell ⟨w.heap.size + 1 + 1, 0, none⟩ (.int .i64 h')).setCell ⟨w.heap.size + 1 + 1, 1, none⟩ (.slice a3 yl c3')) (w.heap.size + 1 + 1) #[.int .i64 h', .slice a3 yl c3'] := (KR.out.set 0 (.int .i64 h') (by simp) (cs' := #[.int .i64 h', .slice none 0 0]) rfl).set 1 _ (by simp) rfl
    have t2 : Betw (w.heap.size + 2) (w.heap.size + 3) w3 ((w3.setCell ⟨w.heap.size + 1 + 1, 0, none⟩ (.int .i64 h')).setCell ⟨w.heap.size + 1 + 1, 1, none⟩ (.slice a3 yl c3')) := ((Betw.refl (w.heap.size + 2) (w.heap.size + 3) w3).setCell (p := ⟨w.heap.size + 1 + 1, 0, none⟩) (by simp) (by simp) (.int .i64 h')).setCell (p := ⟨w.heap.size + 1 + 1, 1, none⟩) (by simp) (by simp) (.slice a3 yl c3')
    have x2 : Below w.heap.size w ((w3.setCell ⟨w.heap.size + 1 + 1, 0, none⟩ (.int .i64 h')).setCell ⟨w.heap.size + 1 + 1, 1, none⟩ (.slice a3 yl c3')) := HB2.out.trans (t2.below (by omega) HB2.out.size)
    have o2 : OE ((w3.setCell ⟨w.heap.size + 1 + 1, 0, none⟩ (.int .i64 h')).setCell ⟨w.heap.size + 1 + 1, 1, none⟩ (.slice a3 yl c3')) w.heap.size ((w3.setCell ⟨w.heap.size + 1 + 1, 0, none⟩ (.int .i64 h')).setCell ⟨w.heap.size + 1 + 1, 1, none⟩ (.slice a3 yl c3')).heap.size a3 ys := OE.wide (OE.betw HO3.out t2 (.inr (by first | omega | (simp; omega)))) (by first | omega | (simp; omega)) (by first | (simp; omega) | simp)
    go_wp2
    clear r0 r1 rf S2 R2 HB2' HB2 KR HO3 c0 c1 c2 c3 c4 c5 C0 C1 C2 C3 C4 C5 R0 R1 hb t2
    revert k2 x2 o2
    generalize ((w3.setCell ⟨w.heap.size + 1 + 1, 0, none⟩ (.int .i64 h')).setCell ⟨w.heap.size + 1 + 1, 1, none⟩ (.slice a3 yl c3')) = Wf
    intro k2 x2 o2
    skip
    have q0 := k2.cell 0 _ rfl
    have q1 := k2.cell 1 _ rfl
    refine bodyPost_ret (v := .tuple #[.agg #[.int .i64 h', .slice a3 yl c3'], .int .i64 0]) (by simp [results, Try.results9, go_sem, q0, q1]) rfl ?_
    exact ⟨_, _, by rw [HYL.out], x2, o2⟩
end Go.Proofs.Ytobgaakcinjnaaa
