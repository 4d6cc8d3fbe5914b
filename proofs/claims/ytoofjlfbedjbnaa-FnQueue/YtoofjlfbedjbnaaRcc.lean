
/-
  The specification's RecvOn once more, the capacity of its list told. Conditions: the words read as words, at most 1048576 of them and no more than the capacity.
-/
import Derived.Test.YtoofjlfbedjbnaaRows
import Derived.Test.YtoofjlfbedjbnaaChr
namespace Go.Proofs.Ytoofjlfbedjbnaa
open Go.ChangeShapes Go.WideShapes Go.ChangeAt Go.RowKit Go.Deep
set_option linter.unusedVariables false

set_option maxRecDepth 20000 in
set_option maxHeartbeats 2000000 in
theorem spec_recvc (k f t d : Int) (a : Option Addr) (n c : Nat) (zs : List Int) (ys : List Int) (x cd : Int) (w : World) (hs : Seg .u32 w a zs) (hl : zs.length = n) (hn : n ≤ 1048576) (hc : n ≤ c) (HR : Hid (rcvF k f t d (n : Int) zs = (ys, x, cd))) :
    Calls Try.prog 35 #[crw k f t d, ien a n c] w fun e w' => ∃ a' c', e = .returned (.tuple #[ien a' ys.length c', .int .u32 x, .int .i64 cd]) ∧ Below w.heap.size w w' ∧ OE w' w.heap.size w'.heap.size a' ys ∧ ys.length ≤ c' := by
  have HB : Hid (Below w.heap.size w (((w.alloc (.cells (crow k f t d) 25)).alloc (.cells (irow a n c) 41)).alloc (.cells (irow none 0 0) 41))) := (((Below.refl _ w).alloc (Nat.le_refl _) _).alloc (by simp) _).alloc (by simp; omega) _
  have HK : Hid (Bk (((w.alloc (.cells (crow k f t d) 25)).alloc (.cells (irow a n c) 41)).alloc (.cells (irow none 0 0) 41)) w.heap.size (crow k f t d) ∧ Bk (((w.alloc (.cells (crow k f t d) 25)).alloc (.cells (irow a n c) 41)).alloc (.cells (irow none 0 0) 41)) (w.heap.size + 1) (irow a n c) ∧ Bk (((w.alloc (.cells (crow k f t d) 25)).alloc (.cells (irow a n c) 41)).alloc (.cells (irow none 0 0) 41)) (w.heap.size + 2) (irow none 0 0)) := ⟨((Bk.new w _ _ _ rfl).alloc _).alloc _, (Bk.new _ _ _ _ (by simp)).alloc _, Bk.new _ _ _ _ (by simp)⟩
  have HS : Hid (Seg .u32 w a zs) := hs
  have HL : Hid (zs.length = n) := hl
  clear hs hl
  obtain ⟨q, HQ⟩ : ∃ q, Hid (inOk k f t d (n : Int) = q) := ⟨_, rfl⟩
  have HE : Hid ((if q = true then (if (n : Int) = 0 then ([], 0, 1) else if k = 0 then (zs, zs.getD 0 0, 0) else (zs.drop 1, zs.getD 0 0, 0)) else ([], 0, 3)) = (ys, x, cd)) := by rw [← HR.out]; unfold rcvF; rw [HQ.out]; exact rfl
  have HE0 : Hid (q = false → ys = [] ∧ x = 0 ∧ cd = 3) := fun e => by
    have g := HE.out
    rw [e, if_neg (by decide)] at g
    injection g with g1 g2; injection g2 with g2 g3
    exact ⟨g1.symm, g2.symm, g3.symm⟩
  have HE1 : Hid (q = true → (n : Int) = 0 → ys = [] ∧ x = 0 ∧ cd = 1) := fun e e2 => by
    have g := HE.out
    rw [if_pos e, if_pos e2] at g
    injection g with g1 g2; injection g2 with g2 g3
    exact ⟨g1.symm, g2.symm, g3.symm⟩
  have HE2 : Hid (q = true → ¬ (n : Int) = 0 → k = 0 → ys = zs ∧ x = zs.getD 0 0 ∧ cd = 0) := fun e e2 e3 => by
    have g := HE.out
    rw [if_pos e, if_neg e2, if_pos e3] at g
    injection g with g1 g2; injection g2 with g2 g3
    exact ⟨g1.symm, g2.symm, g3.symm⟩
  have HE3 : Hid (q = true → ¬ (n : Int) = 0 → ¬ k = 0 → ys = zs.drop 1 ∧ x = zs.getD 0 0 ∧ cd = 0) := fun e e2 e3 => by
    have g := HE.out
    rw [if_pos e, if_neg e2, if_neg e3] at g
    injection g with g1 g2; injection g2 with g2 g3
    exact ⟨g1.symm, g2.symm, g3.symm⟩
  have HKD : Hid (q = true → k = 0 ∨ k = 1) := fun g => by
    have := HQ.out.trans g
    unfold inOk at this
    simp only [Bool.and_eq_true] at this
    rcases chOk_k this.1 with h | h
    · exact .inl h.1
    · exact .inr h.1
  clear HE
  go_enter Try.func35, Try.ntmps35
  go_wp2_with fail
  refine (spec_inok k f t d a n c q _ HQ).mono ?_
  rintro y w1 ⟨rfl, hb1⟩
  have HB1 : Hid (Below w.heap.size w w1) := HB.out.trans (hb1.mono HB.out.size)
  have K1 : Hid (Bk w1 w.heap.size (crow k f t d) ∧ Bk w1 (w.heap.size + 1) (irow a n c) ∧ Bk w1 (w.heap.size + 2) (irow none 0 0)) := ⟨HK.out.1.below hb1, HK.out.2.1.below hb1, HK.out.2.2.below hb1⟩
  clear HB HK hb1 HQ HR
  have c0 := K1.out.1.cell 0 _ rfl
  have d0 := K1.out.2.1.cell 0 _ rfl
  have r0 := K1.out.2.2.cell 0 _ rfl
  have rf := K1.out.2.2.free
  cases q
  · obtain ⟨rfl, rfl, rfl⟩ : ys = [] ∧ x = 0 ∧ cd = 3 := HE0.out (by first | rfl | trivial)
    have k2 : Bk (w1.setCell ⟨w.heap.size + 2, 0, none⟩ (.slice none 0 0)) (w.heap.size + 2) (irow none 0 0) := K1.out.2.2.set 0 _ (by simp) rfl
    have x2 : Below w.heap.size w (w1.setCell ⟨w.heap.size + 2, 0, none⟩ (.slice none 0 0)) := Below.setCell HB1.out (p := ⟨w.heap.size + 2, 0, none⟩) (by simp) _
    go_wp2
    clear c0 d0 r0 rf K1 HB1
    revert k2 x2
    generalize (w1.setCell ⟨w.heap.size + 2, 0, none⟩ (.slice none 0 0)) = Wf
    intro k2 x2
    have q0 := k2.cell 0 _ rfl
    exact bodyPost_ret (v := .tuple #[ien none 0 0, .int .u32 0, .int .i64 3]) (by simp [results, Try.results35, go_sem, q0]) rfl ⟨none, 0, rfl, x2, OE.nil _ _ _ _, by simp⟩
  by_cases hn0 : (n : Int) = 0
  · obtain ⟨rfl, rfl, rfl⟩ : ys = [] ∧ x = 0 ∧ cd = 1 := HE1.out (by first | rfl | trivial) hn0
    have hnb : ((n : Int) == 0) = true := by simp [hn0]
    have k2 : Bk (w1.setCell ⟨w.heap.size + 2, 0, none⟩ (.slice none 0 0)) (w.heap.size + 2) (irow none 0 0) := K1.out.2.2.set 0 _ (by simp) rfl
    have x2 : Below w.heap.size w (w1.setCell ⟨w.heap.size + 2, 0, none⟩ (.slice none 0 0)) := Below.setCell HB1.out (p := ⟨w.heap.size + 2, 0, none⟩) (by simp) _
    go_wp2
    clear c0 d0 r0 rf K1 HB1
    revert k2 x2
    generalize (w1.setCell ⟨w.heap.size + 2, 0, none⟩ (.slice none 0 0)) = Wf
    intro k2 x2
    have q0 := k2.cell 0 _ rfl
    exact bodyPost_ret (v := .tuple #[ien none 0 0, .int .u32 0, .int .i64 1]) (by simp [results, Try.results35, go_sem, q0]) rfl ⟨none, 0, rfl, x2, OE.nil _ _ _ _, by simp⟩
  have hnb : ((n : Int) == 0) = false := beq_eq_false_iff_ne.2 hn0
  have hn1 : 0 < n := by omega
  obtain ⟨b1, o1, e1, hbl1, hcl⟩ := HS.out (by have := HL.out; omega)
  subst e1
  have E1 : Hid (w1.cell? ⟨b1, o1, none⟩ = some (.int .u32 (zs.getD 0 0))) := (HB1.out.cell (p := ⟨b1, o1, none⟩) hbl1).trans (by have := hcl 0 (by have := HL.out; omega); simpa using this)
  have e1 := E1.out
  have hz1 := K1.out.2.2.lt
  have hbw1 : b1 < w1.heap.size := Nat.lt_of_lt_of_le hbl1 HB1.out.size
  have hbl2 : b1 < w.heap.size := hbl1
  clear hcl hbl1
  rcases HKD.out (by first | rfl | trivial) with rfl | rfl
  · obtain ⟨g1, g2, g3⟩ : ys = zs ∧ x = zs.getD 0 0 ∧ cd = 0 := HE2.out (by first | rfl | trivial) hn0 rfl
    have G : Hid (ys = zs ∧ x = zs.getD 0 0 ∧ cd = 0) := ⟨g1, g2, g3⟩
    clear g1 g2 g3
    obtain ⟨z, HZ⟩ : ∃ z, Hid (zs.getD 0 0 = z) := ⟨_, rfl⟩
    rw [HZ.out] at E1 e1
    have D0 : Hid (w1.cell? ⟨w.heap.size + 1, 0, none⟩ = some (.slice (some ⟨b1, o1, none⟩) n c)) := d0
    have R0 : Hid (w1.cell? ⟨w.heap.size + 1 + 1, 0, none⟩ = some (.slice none 0 0)) := r0
    clear d0 r0 rf
    have d0 := D0.out
    have r0 := R0.out
    have rf := Bk.free (show Bk w1 (w.heap.size + 1 + 1) _ from K1.out.2.2)
    have hb : Below w1.heap.size w1 w1 := Below.refl _ _
    have LS : Hid (∀ X, Below w1.heap.size w1 X → Calls Try.prog 66 #[.slice (some ⟨b1, o1, none⟩) n c] X fun e w' => ∃ g cp, n ≤ cp ∧ e = .returned (.slice (some ⟨g, 0, none⟩) n cp) ∧ Below X.heap.size X w' ∧ OwnU w' X.heap.size (.slice (some ⟨g, 0, none⟩) n cp) zs) := fun X hX => by
      refine (spec_list (some ⟨b1, o1, none⟩) n c zs X (HS.out.below (HB1.out.trans (hX.mono HB1.out.size))) HL.out hn).mono ?_
      rintro e w' ⟨v, h1, h2, h3, h4⟩
      have hln : (zs).length = n := by first | exact HL.out | (have := HL.out; simp; omega)
      rcases h3.2 with ⟨g, _⟩ | ⟨g, cp, cur, e2, hq1, hq2, hq3, _⟩
      · exact absurd g h4
      · rw [hln] at e2
        exact ⟨g, cp, by rw [← hln]; exact hq3, by rw [h1, e2], h2, by rw [← e2]; exact h3⟩
    go_wp2
    go_region_held_law (fun w' => w'.cell? ⟨w.heap.size + 1, 0, none⟩ = some (.slice (some ⟨b1, o1, none⟩) n c) ∧ w'.cell? ⟨b1, o1, none⟩ = some (.int .u32 z)) (first | with_reducible exact ⟨d0, e1⟩ | with_reducible exact ⟨dr_c d0, dr_c e1⟩ | with_reducible exact ⟨st1 (by omega) d0, st1 (by omega) e1⟩)
      (first | (go_at_call 66; refine Calls.mono (LS.out _ (by first | exact hb | exact hb.drew)) ?_; rintro u w3 ⟨g3, cp3, hcp3, rfl, hbb, ho3⟩; (first | replace hb := hb.trans (hbb.mono hb.size) | replace hb := hb.drew.trans (hbb.mono hb.drew.size)); replace d0 := kept_c hb D0.out; replace e1 := kept_c hb E1.out; replace r0 := kept_c hb R0.out; replace rf := Bk.free (show Bk w3 (w.heap.size + 1 + 1) _ from K1.out.2.2.below hb); have HO3 : Hid (OwnU w3 w1.heap.size _ _) := OwnU.low ho3 (by first | exact Nat.le_refl _ | simp); have hz3 := hb.size; clear hbb ho3))
    all_goals
      have HKZ : Hid (Bk w3 (w.heap.size + 1 + 1) (irow none 0 0)) := K1.out.2.2.below hb
      have HBZ : Hid (Below w.heap.size w w3) := HB1.out.trans (hb.mono HB1.out.size)
      have k2 : Bk (w3.setCell ⟨w.heap.size + 1 + 1, 0, none⟩ (.slice (some ⟨g3, 0, none⟩) n cp3)) (w.heap.size + 1 + 1) (irow (some ⟨g3, 0, none⟩) (n) cp3) := HKZ.out.set 0 _ (by simp) rfl
      have t2 : Betw (w.heap.size + 2) (w.heap.size + 3) w3 (w3.setCell ⟨w.heap.size + 1 + 1, 0, none⟩ (.slice (some ⟨g3, 0, none⟩) n cp3)) := (Betw.refl (w.heap.size + 2) (w.heap.size + 3) w3).setCell (p := ⟨w.heap.size + 1 + 1, 0, none⟩) (by simp) (by simp) (.slice (some ⟨g3, 0, none⟩) n cp3)
      have x2 : Below w.heap.size w (w3.setCell ⟨w.heap.size + 1 + 1, 0, none⟩ (.slice (some ⟨g3, 0, none⟩) n cp3)) := HBZ.out.trans (t2.below (by omega) HBZ.out.size)
      have hwz := HB1.out.size
      have o2 : ∃ a' c', Value.slice (some ⟨g3, 0, none⟩) n cp3 = .slice a' (zs).length c' ∧ OE (w3.setCell ⟨w.heap.size + 1 + 1, 0, none⟩ (.slice (some ⟨g3, 0, none⟩) n cp3)) w.heap.size (w3.setCell ⟨w.heap.size + 1 + 1, 0, none⟩ (.slice (some ⟨g3, 0, none⟩) n cp3)).heap.size a' zs := by
        obtain ⟨a', c', e', g⟩ := OwnU.oe HO3.out
        exact ⟨a', c', e', OE.wide (OE.betw g t2 (.inr (by omega))) (by omega) (by simp)⟩
      rename_i hhh
      try clear hhh
      clear hb d0 e1 r0 rf D0 E1 R0 K1 HKZ HBZ t2 HO3 c0 HB1
      revert k2 x2 o2
      generalize (w3.setCell ⟨w.heap.size + 1 + 1, 0, none⟩ (.slice (some ⟨g3, 0, none⟩) n cp3)) = Wf
      intro k2 x2 o2
      go_wp2
      have q0 := k2.cell 0 _ rfl
      obtain ⟨a', c', e', g⟩ := o2
      refine bodyPost_ret (v := .tuple #[ien (some ⟨g3, 0, none⟩) (n) cp3, .int .u32 z, .int .i64 0]) (by simp [results, Try.results35, go_sem, q0]) rfl ?_
      rw [G.out.1, G.out.2.1, G.out.2.2]
      exact ⟨a', c', by rw [HZ.out]; injection e' with e1 e2 e3; subst e1 e3; rw [← e2], x2, g, by injection e' with e1 e2 e3; rw [← e2, ← e3]; exact hcp3⟩
  · obtain ⟨g1, g2, g3⟩ : ys = zs.drop 1 ∧ x = zs.getD 0 0 ∧ cd = 0 := HE3.out (by first | rfl | trivial) hn0 (by decide)
    obtain ⟨aS, hsl, hsg⟩ := slice_one b1 o1 n c zs HL.out hn1 hc
    have HSL : Hid (∀ X : World, Seg .u32 X (some ⟨b1, o1, none⟩) zs → Seg .u32 X aS (zs.drop 1)) := hsg
    clear hsg
    have G : Hid (ys = zs.drop 1 ∧ x = zs.getD 0 0 ∧ cd = 0) := ⟨g1, g2, g3⟩
    clear g1 g2 g3
    obtain ⟨z, HZ⟩ : ∃ z, Hid (zs.getD 0 0 = z) := ⟨_, rfl⟩
    rw [HZ.out] at E1 e1
    have D0 : Hid (w1.cell? ⟨w.heap.size + 1, 0, none⟩ = some (.slice (some ⟨b1, o1, none⟩) n c)) := d0
    have R0 : Hid (w1.cell? ⟨w.heap.size + 1 + 1, 0, none⟩ = some (.slice none 0 0)) := r0
    clear d0 r0 rf
    have d0 := D0.out
    have r0 := R0.out
    have rf := Bk.free (show Bk w1 (w.heap.size + 1 + 1) _ from K1.out.2.2)
    have hb : Below w1.heap.size w1 w1 := Below.refl _ _
    have LS : Hid (∀ X, Below w1.heap.size w1 X → Calls Try.prog 66 #[.slice aS (n - 1) (c - 1)] X fun e w' => ∃ g cp, (n - 1) ≤ cp ∧ e = .returned (.slice (some ⟨g, 0, none⟩) (n - 1) cp) ∧ Below X.heap.size X w' ∧ OwnU w' X.heap.size (.slice (some ⟨g, 0, none⟩) (n - 1) cp) (zs.drop 1)) := fun X hX => by
      refine (spec_list aS (n - 1) (c - 1) (zs.drop 1) X (HSL.out _ (HS.out.below (HB1.out.trans (hX.mono HB1.out.size)))) (by have := HL.out; simp; omega) (by omega)).mono ?_
      rintro e w' ⟨v, h1, h2, h3, h4⟩
      have hln : ((zs.drop 1)).length = (n - 1) := by first | exact HL.out | (have := HL.out; simp; omega)
      rcases h3.2 with ⟨g, _⟩ | ⟨g, cp, cur, e2, hq1, hq2, hq3, _⟩
      · exact absurd g h4
      · rw [hln] at e2
        exact ⟨g, cp, by rw [← hln]; exact hq3, by rw [h1, e2], h2, by rw [← e2]; exact h3⟩
    go_wp2
    go_region_held_law (fun w' => w'.cell? ⟨w.heap.size + 1, 0, none⟩ = some (.slice (some ⟨b1, o1, none⟩) n c) ∧ w'.cell? ⟨b1, o1, none⟩ = some (.int .u32 z)) (first | with_reducible exact ⟨d0, e1⟩ | with_reducible exact ⟨dr_c d0, dr_c e1⟩ | with_reducible exact ⟨st1 (by omega) d0, st1 (by omega) e1⟩)
      (first | (go_at_call 66; refine Calls.mono (LS.out _ (by first | exact hb | exact hb.drew)) ?_; rintro u w3 ⟨g3, cp3, hcp3, rfl, hbb, ho3⟩; (first | replace hb := hb.trans (hbb.mono hb.size) | replace hb := hb.drew.trans (hbb.mono hb.drew.size)); replace d0 := kept_c hb D0.out; replace e1 := kept_c hb E1.out; replace r0 := kept_c hb R0.out; replace rf := Bk.free (show Bk w3 (w.heap.size + 1 + 1) _ from K1.out.2.2.below hb); have HO3 : Hid (OwnU w3 w1.heap.size _ _) := OwnU.low ho3 (by first | exact Nat.le_refl _ | simp); have hz3 := hb.size; clear hbb ho3))
    all_goals
      have HKZ : Hid (Bk w3 (w.heap.size + 1 + 1) (irow none 0 0)) := K1.out.2.2.below hb
      have HBZ : Hid (Below w.heap.size w w3) := HB1.out.trans (hb.mono HB1.out.size)
      have k2 : Bk (w3.setCell ⟨w.heap.size + 1 + 1, 0, none⟩ (.slice (some ⟨g3, 0, none⟩) (n - 1) cp3)) (w.heap.size + 1 + 1) (irow (some ⟨g3, 0, none⟩) ((n - 1)) cp3) := HKZ.out.set 0 _ (by simp) rfl
      have t2 : Betw (w.heap.size + 2) (w.heap.size + 3) w3 (w3.setCell ⟨w.heap.size + 1 + 1, 0, none⟩ (.slice (some ⟨g3, 0, none⟩) (n - 1) cp3)) := (Betw.refl (w.heap.size + 2) (w.heap.size + 3) w3).setCell (p := ⟨w.heap.size + 1 + 1, 0, none⟩) (by simp) (by simp) (.slice (some ⟨g3, 0, none⟩) (n - 1) cp3)
      have x2 : Below w.heap.size w (w3.setCell ⟨w.heap.size + 1 + 1, 0, none⟩ (.slice (some ⟨g3, 0, none⟩) (n - 1) cp3)) := HBZ.out.trans (t2.below (by omega) HBZ.out.size)
      have hwz := HB1.out.size
      have o2 : ∃ a' c', Value.slice (some ⟨g3, 0, none⟩) (n - 1) cp3 = .slice a' ((zs.drop 1)).length c' ∧ OE (w3.setCell ⟨w.heap.size + 1 + 1, 0, none⟩ (.slice (some ⟨g3, 0, none⟩) (n - 1) cp3)) w.heap.size (w3.setCell ⟨w.heap.size + 1 + 1, 0, none⟩ (.slice (some ⟨g3, 0, none⟩) (n - 1) cp3)).heap.size a' (zs.drop 1) := by
        obtain ⟨a', c', e', g⟩ := OwnU.oe HO3.out
        exact ⟨a', c', e', OE.wide (OE.betw g t2 (.inr (by omega))) (by omega) (by simp)⟩
      rename_i hhh
      try clear hhh
      clear hb d0 e1 r0 rf D0 E1 R0 K1 HKZ HBZ t2 HO3 c0 HB1
      revert k2 x2 o2
      generalize (w3.setCell ⟨w.heap.size + 1 + 1, 0, none⟩ (.slice (some ⟨g3, 0, none⟩) (n - 1) cp3)) = Wf
      intro k2 x2 o2
      go_wp2
      have q0 := k2.cell 0 _ rfl
      obtain ⟨a', c', e', g⟩ := o2
      refine bodyPost_ret (v := .tuple #[ien (some ⟨g3, 0, none⟩) ((n - 1)) cp3, .int .u32 z, .int .i64 0]) (by simp [results, Try.results35, go_sem, q0]) rfl ?_
      rw [G.out.1, G.out.2.1, G.out.2.2]
      exact ⟨a', c', by rw [HZ.out]; injection e' with e1 e2 e3; subst e1 e3; rw [← e2], x2, g, by injection e' with e1 e2 e3; rw [← e2, ← e3]; exact hcp3⟩
end Go.Proofs.Ytoofjlfbedjbnaa
