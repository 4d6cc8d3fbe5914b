
/-
  The program's RecvOn: what the plain functions say, in memory of its own. Conditions: the words read as words, at most 1048576 of them and no more than the capacity.
-/
import Derived.Test.YtoofjlfbedjbnaaRows
import Derived.Test.YtoofjlfbedjbnaaChp
import Derived.Test.YtoofjlfbedjbnaaChr
namespace Go.Proofs.Ytoofjlfbedjbnaa
open Go.ChangeShapes Go.WideShapes Go.ChangeAt Go.RowKit Go.Deep
set_option linter.unusedVariables false

set_option maxRecDepth 20000 in
set_option maxHeartbeats 4000000 in
theorem impl_recv (k f t d : Int) (a : Option Addr) (n c : Nat) (zs : List Int) (ys : List Int) (x cd : Int) (w : World) (hs : Seg .u32 w a zs) (hl : zs.length = n) (hn : n ≤ 1048576) (hc : n ≤ c) (HR : Hid (rcvF k f t d (n : Int) zs = (ys, x, cd))) :
    Calls Try.prog 36 #[crw k f t d, ien a n c] w fun e w' => ∃ a' c', e = .returned (.tuple #[ien a' ys.length c', .int .u32 x, .int .i64 cd]) ∧ Below w.heap.size w w' ∧ OE w' w.heap.size w'.heap.size a' ys := by
  have HB : Hid (Below w.heap.size w (((w.alloc (.cells (crow k f t d) 25)).alloc (.cells (irow a n c) 41)).alloc (.cells (irow none 0 0) 41))) := (((Below.refl _ w).alloc (Nat.le_refl _) _).alloc (by simp) _).alloc (by simp; omega) _
  have HK : Hid (Bk (((w.alloc (.cells (crow k f t d) 25)).alloc (.cells (irow a n c) 41)).alloc (.cells (irow none 0 0) 41)) (w.heap.size + 1 + 1) (irow none 0 0)) := Bk.new _ _ _ _ (by simp)
  have HS : Hid (Seg .u32 w a zs) := hs
  have HL : Hid (zs.length = n) := hl
  clear hs hl
  obtain ⟨q, HQ⟩ : ∃ q, Hid (inOk k f t d (n : Int) = q) := ⟨_, rfl⟩
  obtain ⟨qk, HQK⟩ : ∃ q, Hid ((k == 1) = q) := ⟨_, rfl⟩
  have HE : Hid ((if q = true then (if (n : Int) = 0 then ([], 0, 1) else if k = 0 then (zs, zs.getD 0 0, 0) else (zs.drop 1, zs.getD 0 0, 0)) else ([], 0, 3)) = (ys, x, cd)) := by rw [← HR.out]; unfold rcvF; rw [HQ.out]; exact rfl
  have HKD : Hid (q = true → k = 0 ∨ k = 1) := fun g => by
    have := HQ.out.trans g
    unfold inOk at this
    simp only [Bool.and_eq_true] at this
    rcases chOk_k this.1 with h | h
    · exact .inl h.1
    · exact .inr h.1
  have HE0 : Hid (q = false → ys = [] ∧ x = 0 ∧ cd = 3) := fun e => by
    have g := HE.out
    rw [e, if_neg (by decide)] at g
    injection g with g1 g2; injection g2 with g2 g3
    exact ⟨g1.symm, g2.symm, g3.symm⟩
  have HE1 : Hid (q = true → (n : Int) = 0 → ys = [] ∧ x = 0 ∧ cd = 1) := fun e e2 => by
    have g := HE.out
    rw [if_pos e, if_pos e2] at g
    injection g with g1 g2; injection g2 with g2 g3
    exact ⟨g1.symm, g2.symm, g3.symm⟩
  have HE2 : Hid (q = true → ¬ (n : Int) = 0 → qk = false → ys = zs ∧ x = zs.getD 0 0 ∧ cd = 0) := fun e e2 e3 => by
    have g := HE.out
    have hk : k = 0 := by
      rcases HKD.out e with h | h
      · exact h
      · have := HQK.out; rw [h, e3] at this; cases this
    rw [if_pos e, if_neg e2, if_pos hk] at g
    injection g with g1 g2; injection g2 with g2 g3
    exact ⟨g1.symm, g2.symm, g3.symm⟩
  have HE3 : Hid (q = true → ¬ (n : Int) = 0 → qk = true → ys = zs.drop 1 ∧ x = zs.getD 0 0 ∧ cd = 0) := fun e e2 e3 => by
    have g := HE.out
    have hk : ¬ k = 0 := fun h => by
      have := HQK.out; rw [h, e3] at this; cases this
    rw [if_pos e, if_neg e2, if_neg hk] at g
    injection g with g1 g2; injection g2 with g2 g3
    exact ⟨g1.symm, g2.symm, g3.symm⟩
  clear HE HKD HR
  go_enter Try.func36, Try.ntmps36
  go_wp2_with fail
  refine (impl_rside k f t d a n c _).mono ?_
  rintro y w0 ⟨rfl, hb0⟩
  have HB0 : Hid (Below w.heap.size w (w0.alloc (.cells (rsr k f t d a n c) 90))) := (HB.out.trans (hb0.mono HB.out.size)).alloc (HB.out.trans (hb0.mono HB.out.size)).size _
  have hz0 : w.heap.size + 1 + 1 < w0.heap.size := (HK.out.below hb0).lt
  have KS : Hid (Bk (w0.alloc (.cells (rsr k f t d a n c) 90)) w0.heap.size (rsr k f t d a n c)) := Bk.new w0 _ _ _ rfl
  have KR0 : Hid (Bk (w0.alloc (.cells (rsr k f t d a n c) 90)) (w.heap.size + 1 + 1) (irow none 0 0)) := (HK.out.below hb0).alloc _
  clear HB hb0 HK
  go_wp2_with fail
  refine (impl_rsound k f t d a n c q _ HQ).mono ?_
  rintro y w1 ⟨rfl, hb1⟩
  have HB1 : Hid (Below w.heap.size w w1) := HB0.out.trans (hb1.mono HB0.out.size)
  have S1 : Hid (Bk w1 w0.heap.size (rsr k f t d a n c)) := KS.out.below hb1
  have R1 : Hid (Bk w1 (w.heap.size + 1 + 1) (irow none 0 0)) := KR0.out.below hb1
  clear HB0 KS KR0 hb1 HQ
  have hz1 := S1.out.lt
  cases q
  · obtain ⟨rfl, rfl, rfl⟩ : ys = [] ∧ x = 0 ∧ cd = 3 := HE0.out (by first | rfl | trivial)
    have KK : Hid (Bk w1 (w.heap.size + 1 + 1) (irow none 0 0)) := R1.out
    have k2 : Bk (w1.setCell ⟨w.heap.size + 1 + 1, 0, none⟩ (.slice none 0 0)) (w.heap.size + 1 + 1) (irow none 0 0) := KK.out.set 0 _ (by simp) rfl
    have x2 : Below w.heap.size w (w1.setCell ⟨w.heap.size + 1 + 1, 0, none⟩ (.slice none 0 0)) := Below.setCell HB1.out (p := ⟨w.heap.size + 1 + 1, 0, none⟩) (by simp; omega) _
    have r0 := KK.out.cell 0 _ rfl
    have rf := KK.out.free
    go_wp2
    clear r0 rf KK S1 R1 HB1
    revert k2 x2
    generalize (w1.setCell ⟨w.heap.size + 1 + 1, 0, none⟩ (.slice none 0 0)) = Wf
    intro k2 x2
    have q0 := k2.cell 0 _ rfl
    exact bodyPost_ret (v := .tuple #[ien none 0 0, .int .u32 0, .int .i64 3]) (by simp [results, Try.results36, go_sem, q0]) rfl ⟨none, 0, rfl, x2, OE.nil _ _ _ _⟩
  have c0 := S1.out.cell 0 _ rfl
  have c1 := S1.out.cell 1 _ rfl
  have c2 := S1.out.cell 2 _ rfl
  have c3 := S1.out.cell 3 _ rfl
  have c4 := S1.out.cell 4 _ rfl
  by_cases hn0 : (n : Int) = 0
  · obtain ⟨rfl, rfl, rfl⟩ : ys = [] ∧ x = 0 ∧ cd = 1 := HE1.out (by first | rfl | trivial) hn0
    have hnb : ((n : Int) == 0) = true := by simp [hn0]
    have KK : Hid (Bk w1 (w.heap.size + 1 + 1) (irow none 0 0)) := R1.out
    have k2 : Bk (w1.setCell ⟨w.heap.size + 1 + 1, 0, none⟩ (.slice none 0 0)) (w.heap.size + 1 + 1) (irow none 0 0) := KK.out.set 0 _ (by simp) rfl
    have x2 : Below w.heap.size w (w1.setCell ⟨w.heap.size + 1 + 1, 0, none⟩ (.slice none 0 0)) := Below.setCell HB1.out (p := ⟨w.heap.size + 1 + 1, 0, none⟩) (by simp; omega) _
    have r0 := KK.out.cell 0 _ rfl
    have rf := KK.out.free
    go_wp2
    clear r0 rf KK S1 R1 HB1 c0 c1 c2 c3 c4
    revert k2 x2
    generalize (w1.setCell ⟨w.heap.size + 1 + 1, 0, none⟩ (.slice none 0 0)) = Wf
    intro k2 x2
    have q0 := k2.cell 0 _ rfl
    exact bodyPost_ret (v := .tuple #[ien none 0 0, .int .u32 0, .int .i64 1]) (by simp [results, Try.results36, go_sem, q0]) rfl ⟨none, 0, rfl, x2, OE.nil _ _ _ _⟩
  have hnb : ((n : Int) == 0) = false := beq_eq_false_iff_ne.2 hn0
  have hn1 : 0 < n := by omega
  have HE2' : Hid (qk = false → ys = zs ∧ x = zs.getD 0 0 ∧ cd = 0) := HE2.out (by first | rfl | trivial) hn0
  have HE3' : Hid (qk = true → ys = zs.drop 1 ∧ x = zs.getD 0 0 ∧ cd = 0) := HE3.out (by first | rfl | trivial) hn0
  obtain ⟨b1, o1, e1, hbl1, hcl⟩ := HS.out (by have := HL.out; omega)
  subst e1
  clear HE0 HE1 HE2 HE3
  go_wp2_with fail
  refine (impl_queues k f t d qk _ HQK.out).mono ?_
  rintro y w2 ⟨rfl, hb2⟩
  have HB2 : Hid (Below w.heap.size w w2) := HB1.out.trans (hb2.mono HB1.out.size)
  have S2 : Hid (Bk w2 w0.heap.size (rsr k f t d (some ⟨b1, o1, none⟩) n c)) := S1.out.below hb2
  have R2 : Hid (Bk w2 (w.heap.size + 1 + 1) (irow none 0 0)) := R1.out.below hb2
  clear HB1 S1 R1 hb2 HQK c0 c1 c2 c3 c4 hz1
  have E1 : Hid (w2.cell? ⟨b1, o1, none⟩ = some (.int .u32 (zs.getD 0 0))) := (HB2.out.cell (p := ⟨b1, o1, none⟩) hbl1).trans (by have := hcl 0 (by have := HL.out; omega); simpa using this)
  have hz2 := S2.out.lt
  have hbw1 : b1 < w2.heap.size := Nat.lt_of_lt_of_le hbl1 HB2.out.size
  have hbl2 : b1 < w.heap.size := hbl1
  clear hcl hbl1
  obtain ⟨z, HZ⟩ : ∃ z, Hid (zs.getD 0 0 = z) := ⟨_, rfl⟩
  rw [HZ.out] at E1
  have e1 := E1.out
  have D0 : Hid (w2.cell? ⟨w0.heap.size, 4, none⟩ = some (.slice (some ⟨b1, o1, none⟩) n c)) := S2.out.cell 4 _ rfl
  have R0 : Hid (w2.cell? ⟨w.heap.size + 1 + 1, 0, none⟩ = some (.slice none 0 0)) := R2.out.cell 0 _ rfl
  have d0 := D0.out
  have r0 := R0.out
  have rf := R2.out.free
  have hb : Below w2.heap.size w2 w2 := Below.refl _ _
  cases qk
  · have G : Hid (ys = zs ∧ x = zs.getD 0 0 ∧ cd = 0) := HE2'.out (by first | rfl | trivial)
    clear HE2' HE3'
    have CP : Hid (∀ X, Below w2.heap.size w2 X → Calls Try.prog 67 #[.slice (some ⟨b1, o1, none⟩) n c] X fun e w' => ∃ g, e = .returned (.slice (some ⟨g, 0, none⟩) n n) ∧ Below X.heap.size X w' ∧ OE w' X.heap.size w'.heap.size (some ⟨g, 0, none⟩) zs) := fun X hX => by
      refine (impl_copied (some ⟨b1, o1, none⟩) n c zs X (HS.out.below (HB2.out.trans (hX.mono HB2.out.size))) HL.out (by omega)).mono ?_
      rintro e w' ⟨g, h1, h2, h3⟩
      obtain ⟨a', c', e', g'⟩ := OwnU.oe h3
      injection e' with e1 e2 e3
      subst e1
      exact ⟨g, h1, h2, g'⟩
    go_wp2
    go_region_held_law (fun w' => w'.cell? ⟨w0.heap.size, 4, none⟩ = some (.slice (some ⟨b1, o1, none⟩) n c) ∧ w'.cell? ⟨b1, o1, none⟩ = some (.int .u32 z)) (first | with_reducible exact ⟨d0, e1⟩ | with_reducible exact ⟨dr_c d0, dr_c e1⟩ | with_reducible exact ⟨st1 (by omega) d0, st1 (by omega) e1⟩ | with_reducible exact ⟨st1 (by omega) (dr_c d0), st1 (by omega) (dr_c e1)⟩)
      (first | (go_at_call 67; refine Calls.mono (CP.out _ (by first | exact hb | exact hb.drew)) ?_; rintro u w3 ⟨g3, rfl, hbb, ho3⟩; have hz33 := hbb.size; (first | replace hb := hb.trans (hbb.mono hb.size) | replace hb := hb.drew.trans (hbb.mono hb.drew.size)); replace d0 := kept_c hb D0.out; replace e1 := kept_c hb E1.out; replace r0 := kept_c hb R0.out; replace rf := Bk.free (show Bk w3 (w.heap.size + 1 + 1) _ from R2.out.below hb); have HO3 : Hid (OE w3 w2.heap.size w3.heap.size _ _) := OE.wide ho3 (by first | exact Nat.le_refl _ | simp) (Nat.le_refl _); have hz3 := hb.size; clear hbb ho3))
    all_goals
      rename_i hhh
      try clear hhh
      have HKZ : Hid (Bk w3 (w.heap.size + 1 + 1) (irow none 0 0)) := R2.out.below hb
      have HBZ : Hid (Below w.heap.size w w3) := HB2.out.trans (hb.mono HB2.out.size)
      have k2 : Bk (w3.setCell ⟨w.heap.size + 1 + 1, 0, none⟩ (.slice (some ⟨g3, 0, none⟩) n n)) (w.heap.size + 1 + 1) (irow (some ⟨g3, 0, none⟩) (n) (n)) := HKZ.out.set 0 _ (by simp) rfl
      have t2 : Betw (w.heap.size + 2) (w.heap.size + 3) w3 (w3.setCell ⟨w.heap.size + 1 + 1, 0, none⟩ (.slice (some ⟨g3, 0, none⟩) n n)) := (Betw.refl (w.heap.size + 2) (w.heap.size + 3) w3).setCell (p := ⟨w.heap.size + 1 + 1, 0, none⟩) (by simp) (by simp) _
      have x2 : Below w.heap.size w (w3.setCell ⟨w.heap.size + 1 + 1, 0, none⟩ (.slice (some ⟨g3, 0, none⟩) n n)) := HBZ.out.trans (t2.below (by omega) HBZ.out.size)
      have hwz := HB2.out.size
      have o2 : OE (w3.setCell ⟨w.heap.size + 1 + 1, 0, none⟩ (.slice (some ⟨g3, 0, none⟩) n n)) w.heap.size (w3.setCell ⟨w.heap.size + 1 + 1, 0, none⟩ (.slice (some ⟨g3, 0, none⟩) n n)).heap.size (some ⟨g3, 0, none⟩) zs := OE.wide (OE.betw HO3.out t2 (.inr (by omega))) (by omega) (by simp)
      clear hb d0 e1 r0 rf D0 E1 R0 S2 R2 HKZ HBZ t2 HO3 HB2
      revert k2 x2 o2
      generalize (w3.setCell ⟨w.heap.size + 1 + 1, 0, none⟩ (.slice (some ⟨g3, 0, none⟩) n n)) = Wf
      intro k2 x2 o2
      go_wp2
      have q0 := k2.cell 0 _ rfl
      refine bodyPost_ret (v := .tuple #[ien (some ⟨g3, 0, none⟩) (n) (n), .int .u32 z, .int .i64 0]) (by simp [results, Try.results36, go_sem, q0]) rfl ?_
      rw [G.out.1, G.out.2.1, G.out.2.2]
      have hln : (zs).length = n := HL.out
      exact ⟨_, _, by rw [hln, HZ.out], x2, o2⟩
  · have G : Hid (ys = zs.drop 1 ∧ x = zs.getD 0 0 ∧ cd = 0) := HE3'.out (by first | rfl | trivial)
    clear HE2' HE3'
    obtain ⟨aS, hsl, hsg⟩ := slice_one b1 o1 n c zs HL.out hn1 hc
    have HSL : Hid (∀ X : World, Seg .u32 X (some ⟨b1, o1, none⟩) zs → Seg .u32 X aS (zs.drop 1)) := hsg
    clear hsg
    have CP : Hid (∀ X, Below w2.heap.size w2 X → Calls Try.prog 67 #[.slice aS (n - 1) (c - 1)] X fun e w' => ∃ g, e = .returned (.slice (some ⟨g, 0, none⟩) (n - 1) (n - 1)) ∧ Below X.heap.size X w' ∧ OE w' X.heap.size w'.heap.size (some ⟨g, 0, none⟩) (zs.drop 1)) := fun X hX => by
      refine (impl_copied aS (n - 1) (c - 1) (zs.drop 1) X (HSL.out _ (HS.out.below (HB2.out.trans (hX.mono HB2.out.size)))) (by have := HL.out; simp; omega) (by omega)).mono ?_
      rintro e w' ⟨g, h1, h2, h3⟩
      obtain ⟨a', c', e', g'⟩ := OwnU.oe h3
      injection e' with e1 e2 e3
      subst e1
      exact ⟨g, h1, h2, g'⟩
    go_wp2
    go_region_held_law (fun w' => w'.cell? ⟨w0.heap.size, 4, none⟩ = some (.slice (some ⟨b1, o1, none⟩) n c) ∧ w'.cell? ⟨b1, o1, none⟩ = some (.int .u32 z)) (first | with_reducible exact ⟨d0, e1⟩ | with_reducible exact ⟨dr_c d0, dr_c e1⟩ | with_reducible exact ⟨st1 (by omega) d0, st1 (by omega) e1⟩ | with_reducible exact ⟨st1 (by omega) (dr_c d0), st1 (by omega) (dr_c e1)⟩)
      (first | (go_at_call 67; refine Calls.mono (CP.out _ (by first | exact hb | exact hb.drew)) ?_; rintro u w3 ⟨g3, rfl, hbb, ho3⟩; have hz33 := hbb.size; (first | replace hb := hb.trans (hbb.mono hb.size) | replace hb := hb.drew.trans (hbb.mono hb.drew.size)); replace d0 := kept_c hb D0.out; replace e1 := kept_c hb E1.out; replace r0 := kept_c hb R0.out; replace rf := Bk.free (show Bk w3 (w.heap.size + 1 + 1) _ from R2.out.below hb); have HO3 : Hid (OE w3 w2.heap.size w3.heap.size _ _) := OE.wide ho3 (by first | exact Nat.le_refl _ | simp) (Nat.le_refl _); have hz3 := hb.size; clear hbb ho3))
    all_goals
      rename_i hhh
      try clear hhh
      have HKZ : Hid (Bk w3 (w.heap.size + 1 + 1) (irow none 0 0)) := R2.out.below hb
      have HBZ : Hid (Below w.heap.size w w3) := HB2.out.trans (hb.mono HB2.out.size)
      have k2 : Bk (w3.setCell ⟨w.heap.size + 1 + 1, 0, none⟩ (.slice (some ⟨g3, 0, none⟩) (n - 1) (n - 1))) (w.heap.size + 1 + 1) (irow (some ⟨g3, 0, none⟩) ((n - 1)) ((n - 1))) := HKZ.out.set 0 _ (by simp) rfl
      have t2 : Betw (w.heap.size + 2) (w.heap.size + 3) w3 (w3.setCell ⟨w.heap.size + 1 + 1, 0, none⟩ (.slice (some ⟨g3, 0, none⟩) (n - 1) (n - 1))) := (Betw.refl (w.heap.size + 2) (w.heap.size + 3) w3).setCell (p := ⟨w.heap.size + 1 + 1, 0, none⟩) (by simp) (by simp) _
      have x2 : Below w.heap.size w (w3.setCell ⟨w.heap.size + 1 + 1, 0, none⟩ (.slice (some ⟨g3, 0, none⟩) (n - 1) (n - 1))) := HBZ.out.trans (t2.below (by omega) HBZ.out.size)
      have hwz := HB2.out.size
      have o2 : OE (w3.setCell ⟨w.heap.size + 1 + 1, 0, none⟩ (.slice (some ⟨g3, 0, none⟩) (n - 1) (n - 1))) w.heap.size (w3.setCell ⟨w.heap.size + 1 + 1, 0, none⟩ (.slice (some ⟨g3, 0, none⟩) (n - 1) (n - 1))).heap.size (some ⟨g3, 0, none⟩) (zs.drop 1) := OE.wide (OE.betw HO3.out t2 (.inr (by omega))) (by omega) (by simp)
      clear hb d0 e1 r0 rf D0 E1 R0 S2 R2 HKZ HBZ t2 HO3 HB2
      revert k2 x2 o2
      generalize (w3.setCell ⟨w.heap.size + 1 + 1, 0, none⟩ (.slice (some ⟨g3, 0, none⟩) (n - 1) (n - 1))) = Wf
      intro k2 x2 o2
      go_wp2
      have q0 := k2.cell 0 _ rfl
      refine bodyPost_ret (v := .tuple #[ien (some ⟨g3, 0, none⟩) ((n - 1)) ((n - 1)), .int .u32 z, .int .i64 0]) (by simp [results, Try.results36, go_sem, q0]) rfl ?_
      rw [G.out.1, G.out.2.1, G.out.2.2]
      have hln : ((zs.drop 1)).length = (n - 1) := (by have := HL.out; simp; omega)
      exact ⟨_, _, by rw [hln, HZ.out], x2, o2⟩
end Go.Proofs.Ytoofjlfbedjbnaa
