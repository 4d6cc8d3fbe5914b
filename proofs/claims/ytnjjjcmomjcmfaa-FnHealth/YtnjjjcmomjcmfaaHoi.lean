
/-
  The program's OnFault: what the specification's answers, at every argument. No conditions.
-/
import Derived.Test.YtnjjjcmomjcmfaaRows
import Derived.Test.YtnjjjcmomjcmfaaHof
namespace Go.Proofs.Ytnjjjcmomjcmfaa
open Go.ChangeShapes Go.WideShapes Go.ChangeAt Go.RowKit Go.Deep
set_option linter.unusedVariables false

theorem st1 {w : World} {b c i j : Nat} {v u : Value} (hne : b ≠ c) (h : w.cell? ⟨b, i, none⟩ = some v) : (w.setCell ⟨c, j, none⟩ u).cell? ⟨b, i, none⟩ = some v := by
  rw [World.cell?_setCell_other _ _ _ _ (by intro c'; injection c' with c1 c2 c3; exact hne c1.symm)]; exact h
theorem st4 {w : World} {b k : Nat} {i : Nat} {v a0 a1 a2 a3 : Value} (hn : b ≠ k) (h : w.cell? ⟨b, i, none⟩ = some v) : ((((w.setCell ⟨k, 0, none⟩ a0).setCell ⟨k, 1, none⟩ a1).setCell ⟨k, 2, none⟩ a2).setCell ⟨k, 3, none⟩ a3).cell? ⟨b, i, none⟩ = some v :=
  st1 hn (st1 hn (st1 hn (st1 hn h)))
theorem trF_shape (k m f r l : Int) (b : Bool) : ∃ f' r' l' b' a, trF k m f r l b = .tuple #[hlt f' r' l' b', .int .i64 a] := by
  unfold trF
  split
  · exact ⟨_, _, _, _, _, rfl⟩
  · split
    · exact ⟨_, _, _, _, _, rfl⟩
    · exact ⟨_, _, _, _, _, rfl⟩
set_option maxRecDepth 20000 in
set_option maxHeartbeats 2000000 in
theorem impl_onf_yes (k m f r l x f' r' l' a' : Int) (b' : Bool) (w : World) (h1 : polOk k m = true) (h2 : hltOk f r l = true) (h3 : inr x 1 9 = true) (hv : trF k m (oneF f) r x false = .tuple #[hlt f' r' l' b', .int .i64 a']) :
    Calls Try.prog 19 #[pol k m, hlt f r l false, .int .i64 x] w fun e w' => e = .returned (.tuple #[hlt f' r' l' b', .int .i64 a']) ∧ Below w.heap.size w w' := by
  obtain ⟨⟨f0, f9⟩, r0', r9⟩ := hltOk_b h2
  obtain ⟨g, HG⟩ : ∃ g, Hid (oneF f = g) := ⟨_, rfl⟩
  have HV : Hid (∀ X, Calls Try.prog 33 #[hlt g r x false, pol k m] X fun e w' => e = .returned (.tuple #[hlt f' r' l' b', .int .i64 a']) ∧ Below X.heap.size X w') := fun X => treated_i k m g r x false _ X (polOk_k h1) r0' r9 (by rw [← HG.out]; exact hv)
  have HT : Hid (∀ X, Calls Try.prog 32 #[hlt f r l false, .int .i64 x] X fun e w' => e = .returned (hlt g r x false) ∧ Below X.heap.size X w') := fun X => noted_i f r l x g false X f0 f9 HG
  have HP : Hid (∀ X, Calls Try.prog 11 #[pol k m] X fun e w' => e = .returned (.bool true) ∧ Below X.heap.size X w') := fun X => by rw [← h1]; exact impl_pok k m X
  have HH : Hid (∀ X, Calls Try.prog 14 #[hlt f r l false] X fun e w' => e = .returned (.bool true) ∧ Below X.heap.size X w') := fun X => by rw [← h2]; exact impl_hok f r l false X
  have HN : Hid (∀ X, Calls Try.prog 31 #[.int .i64 x] X fun e w' => e = .returned (.bool true) ∧ Below X.heap.size X w') := fun X => by rw [← h3]; exact (is_fault x X).mono fun e w' h => ⟨h.1, h.2 ▸ Below.refl _ _⟩
  clear h1 h2 h3 hv HG
  have HB0 : Hid (Below w.heap.size w (((w.alloc (.cells (prow k m) 25)).alloc (.cells (hrow f r l false) 31)).alloc (.cells (hrow 0 0 0 false) 31))) := (((Below.refl _ w).alloc (Nat.le_refl _) _).alloc (by simp) _).alloc (by simp; omega) _
  have HK0 : Hid (Bk (((w.alloc (.cells (prow k m) 25)).alloc (.cells (hrow f r l false) 31)).alloc (.cells (hrow 0 0 0 false) 31)) w.heap.size (prow k m) ∧ Bk (((w.alloc (.cells (prow k m) 25)).alloc (.cells (hrow f r l false) 31)).alloc (.cells (hrow 0 0 0 false) 31)) (w.heap.size + 1) (hrow f r l false) ∧ Bk (((w.alloc (.cells (prow k m) 25)).alloc (.cells (hrow f r l false) 31)).alloc (.cells (hrow 0 0 0 false) 31)) (w.heap.size + 2) (hrow 0 0 0 false)) :=
    ⟨((Bk.new w _ _ w.heap.size rfl).alloc _).alloc _, (Bk.new _ _ _ _ (by simp)).alloc _, Bk.new _ _ _ _ (by simp)⟩
  go_enter Try.func19, Try.ntmps19
  have p0 := HK0.out.1.cell 0 _ rfl
  have p1 := HK0.out.1.cell 1 _ rfl
  go_wp2_with fail
  refine (HP.out _).mono ?_
  rintro y w1 ⟨rfl, hb1⟩
  have HB1 : Hid (Below w.heap.size w w1) := HB0.out.trans (hb1.mono HB0.out.size)
  have HK1 : Hid (Bk w1 w.heap.size (prow k m) ∧ Bk w1 (w.heap.size + 1) (hrow f r l false) ∧ Bk w1 (w.heap.size + 2) (hrow 0 0 0 false)) := ⟨HK0.out.1.below hb1, HK0.out.2.1.below hb1, HK0.out.2.2.below hb1⟩
  clear hb1 HB0 HK0 p0 p1
  have g0 := HK1.out.2.1.cell 0 _ rfl
  have g1 := HK1.out.2.1.cell 1 _ rfl
  have g2 := HK1.out.2.1.cell 2 _ rfl
  have g3 := HK1.out.2.1.cell 3 _ rfl
  go_wp2_with fail
  refine (HH.out _).mono ?_
  rintro y w2 ⟨rfl, hb2⟩
  have HB2 : Hid (Below w.heap.size w w2) := HB1.out.trans (hb2.mono HB1.out.size)
  have HK2 : Hid (Bk w2 w.heap.size (prow k m) ∧ Bk w2 (w.heap.size + 1) (hrow f r l false) ∧ Bk w2 (w.heap.size + 2) (hrow 0 0 0 false)) := ⟨HK1.out.1.below hb2, HK1.out.2.1.below hb2, HK1.out.2.2.below hb2⟩
  clear hb2 HB1 HK1 g0 g1 g2 g3
  go_wp2_with fail
  refine (HN.out _).mono ?_
  rintro y w3 ⟨rfl, hb3⟩
  have HB3 : Hid (Below w.heap.size w w3) := HB2.out.trans (hb3.mono HB2.out.size)
  have HK3 : Hid (Bk w3 w.heap.size (prow k m) ∧ Bk w3 (w.heap.size + 1) (hrow f r l false) ∧ Bk w3 (w.heap.size + 2) (hrow 0 0 0 false)) := ⟨HK2.out.1.below hb3, HK2.out.2.1.below hb3, HK2.out.2.2.below hb3⟩
  clear hb3 HB2 HK2 HP HH HN
  have P0 : Hid (w3.cell? ⟨w.heap.size, 0, none⟩ = some (.int .i64 k)) := HK3.out.1.cell 0 _ rfl
  have p0 := P0.out
  have P1 : Hid (w3.cell? ⟨w.heap.size, 1, none⟩ = some (.int .i64 m)) := HK3.out.1.cell 1 _ rfl
  have p1 := P1.out
  have G0 : Hid (w3.cell? ⟨w.heap.size + 1, 0, none⟩ = some (.int .i64 f)) := HK3.out.2.1.cell 0 _ rfl
  have g0 := G0.out
  have G1 : Hid (w3.cell? ⟨w.heap.size + 1, 1, none⟩ = some (.int .i64 r)) := HK3.out.2.1.cell 1 _ rfl
  have g1 := G1.out
  have G2 : Hid (w3.cell? ⟨w.heap.size + 1, 2, none⟩ = some (.int .i64 l)) := HK3.out.2.1.cell 2 _ rfl
  have g2 := G2.out
  have G3 : Hid (w3.cell? ⟨w.heap.size + 1, 3, none⟩ = some (.bool false)) := HK3.out.2.1.cell 3 _ rfl
  have g3 := G3.out
  have R0 : Hid (w3.cell? ⟨w.heap.size + 1 + 1, 0, none⟩ = some (.int .i64 0)) := HK3.out.2.2.cell 0 _ rfl
  have r0 := R0.out
  have R1 : Hid (w3.cell? ⟨w.heap.size + 1 + 1, 1, none⟩ = some (.int .i64 0)) := HK3.out.2.2.cell 1 _ rfl
  have r1 := R1.out
  have R2 : Hid (w3.cell? ⟨w.heap.size + 1 + 1, 2, none⟩ = some (.int .i64 0)) := HK3.out.2.2.cell 2 _ rfl
  have r2 := R2.out
  have R3 : Hid (w3.cell? ⟨w.heap.size + 1 + 1, 3, none⟩ = some (.bool false)) := HK3.out.2.2.cell 3 _ rfl
  have r3 := R3.out
  have rf := (show Bk w3 (w.heap.size + 1 + 1) _ from HK3.out.2.2).free
  have hbx : Below w3.heap.size w3 w3 := Below.refl _ _
  go_wp2
  go_region_held_law (fun w' => w'.cell? ⟨w.heap.size, 0, none⟩ = some (.int .i64 k) ∧ w'.cell? ⟨w.heap.size, 1, none⟩ = some (.int .i64 m) ∧ w'.cell? ⟨w.heap.size + 1, 0, none⟩ = some (.int .i64 f) ∧ w'.cell? ⟨w.heap.size + 1, 1, none⟩ = some (.int .i64 r) ∧ w'.cell? ⟨w.heap.size + 1, 2, none⟩ = some (.int .i64 l) ∧ w'.cell? ⟨w.heap.size + 1, 3, none⟩ = some (.bool false)) (first | with_reducible exact ⟨p0, p1, g0, g1, g2, g3⟩ | with_reducible exact ⟨dr_c p0, dr_c p1, dr_c g0, dr_c g1, dr_c g2, dr_c g3⟩ | with_reducible exact ⟨al_c _ p0, al_c _ p1, al_c _ g0, al_c _ g1, al_c _ g2, al_c _ g3⟩ | with_reducible exact ⟨st4 (by omega) p0, st4 (by omega) p1, st4 (by omega) g0, st4 (by omega) g1, st4 (by omega) g2, st4 (by omega) g3⟩)
    (first | (go_at_call 32; refine Calls.mono (HT.out _) ?_; rintro u w98 ⟨rfl, hbb⟩; (first | replace hbx := hbx.trans (hbb.mono hbx.size) | replace hbx := hbx.drew.trans (hbb.mono hbx.drew.size)); clear hbb; replace p0 := kept_c hbx P0.out; replace p1 := kept_c hbx P1.out; replace g0 := kept_c hbx G0.out; replace g1 := kept_c hbx G1.out; replace g2 := kept_c hbx G2.out; replace g3 := kept_c hbx G3.out; replace r0 := kept_c hbx R0.out; replace r1 := kept_c hbx R1.out; replace r2 := kept_c hbx R2.out; replace r3 := kept_c hbx R3.out; replace rf := Bk.free (show Bk _ (w.heap.size + 1 + 1) _ from HK3.out.2.2.below hbx)) | (go_at_call 33; refine Calls.mono (HV.out _) ?_; rintro u w99 ⟨rfl, hbb⟩; (first | replace hbx := hbx.trans (hbb.mono hbx.size) | replace hbx := hbx.drew.trans (hbb.mono hbx.drew.size)); clear hbb; replace p0 := kept_c hbx P0.out; replace p1 := kept_c hbx P1.out; replace g0 := kept_c hbx G0.out; replace g1 := kept_c hbx G1.out; replace g2 := kept_c hbx G2.out; replace g3 := kept_c hbx G3.out; replace r0 := kept_c hbx R0.out; replace r1 := kept_c hbx R1.out; replace r2 := kept_c hbx R2.out; replace r3 := kept_c hbx R3.out; replace rf := Bk.free (show Bk _ (w.heap.size + 1 + 1) _ from HK3.out.2.2.below hbx)))
  all_goals
    have HKZ : Hid (Bk w99 (w.heap.size + 1 + 1) (hrow 0 0 0 false)) := HK3.out.2.2.below hbx
    have HBZ : Hid (Below w.heap.size w w99) := HB3.out.trans (hbx.mono HB3.out.size)
    clear hbx p0 p1 g0 g1 g2 g3 r0 r1 r2 r3 rf HK3 HB3 P0 P1 G0 G1 G2 G3 R0 R1 R2 R3
    have k4 := bk4 HKZ.out (.int .i64 f') (.int .i64 r') (.int .i64 l') (.bool b')
    have h4 := b4 (R := w.heap.size + 1 + 1) HBZ.out (by omega) (.int .i64 f') (.int .i64 r') (.int .i64 l') (.bool b')
    clear HKZ HBZ HT HV
    revert k4 h4
    generalize ((((w99.setCell ⟨w.heap.size + 1 + 1, 0, none⟩ (.int .i64 f')).setCell ⟨w.heap.size + 1 + 1, 1, none⟩ (.int .i64 r')).setCell ⟨w.heap.size + 1 + 1, 2, none⟩ (.int .i64 l')).setCell ⟨w.heap.size + 1 + 1, 3, none⟩ (.bool b')) = Wf
    intro k4 h4
    rename_i hh
    try clear hh
    go_wp2
    have q0 := k4.cell 0 _ rfl
    have q1 := k4.cell 1 _ rfl
    have q2 := k4.cell 2 _ rfl
    have q3 := k4.cell 3 _ rfl
    exact bodyPost_ret (v := .tuple #[hlt f' r' l' b', .int .i64 a']) (by simp [results, Try.results19, go_sem, q0, q1, q2, q3]) rfl ⟨rfl, h4⟩
theorem impl_onf (k m f r l x : Int) (b : Bool) (v : Value) (w : World) (hv : onV k m f r l b x = v) : Calls Try.prog 19 #[pol k m, hlt f r l b, .int .i64 x] w fun e w' => e = .returned v ∧ Below w.heap.size w w' := by
  unfold onV at hv
  cases hn : (polOk k m && (hltOk f r l && (inr x 1 9 && !b)))
  · rw [hn] at hv
    simp only [Bool.false_eq_true, if_false] at hv
    subst hv
    exact impl_onf_no k m f r l x b w hn
  · rw [hn] at hv
    simp only [if_true] at hv
    simp only [Bool.and_eq_true, Bool.not_eq_true'] at hn
    obtain ⟨h1, h2, h3, rfl⟩ := hn
    obtain ⟨f', r', l', b', a', e⟩ := trF_shape k m (oneF f) r x false
    subst hv
    rw [e]
    exact impl_onf_yes k m f r l x f' r' l' a' b' w h1 h2 h3 e
end Go.Proofs.Ytnjjjcmomjcmfaa
