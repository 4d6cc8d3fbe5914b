
/-
  OnFault, the specification's and the program's own: the same health and the same act at every argument. No conditions.
-/
import Derived.Test.YtnjjjcmomjcmfaaRows
import Derived.Test.YtnjjjcmomjcmfaaHnf
namespace Go.Proofs.Ytnjjjcmomjcmfaa
open Go.ChangeShapes Go.WideShapes Go.ChangeAt Go.RowKit Go.Deep
set_option linter.unusedVariables false

/-- What OnFault answers. -/
def onV (k m f r l : Int) (b : Bool) (x : Int) : Value := if (polOk k m && (hltOk f r l && (inr x 1 9 && !b))) = true then trF k m (oneF f) r x false else .tuple #[hlt f r l b, .int .i64 0]
theorem polOk_k {k m : Int} (h : polOk k m = true) : k = 0 ∨ k = 1 ∨ k = 2 := by
  unfold polOk at h
  simp at h
  omega
theorem hltOk_b {f r l : Int} (h : hltOk f r l = true) : (0 ≤ f ∧ f ≤ 1000000000) ∧ 0 ≤ r ∧ r ≤ 1000000000 := by
  unfold hltOk at h
  simp [inr] at h
  omega
set_option maxHeartbeats 2000000 in
theorem spec_onf_no (k m f r l x : Int) (b : Bool) (w : World) (hn : (polOk k m && (hltOk f r l && (inr x 1 9 && !b))) = false) :
    Calls Try.prog 18 #[pol k m, hlt f r l b, .int .i64 x] w fun e w' => e = .returned (.tuple #[hlt f r l b, .int .i64 0]) ∧ Below w.heap.size w w' := by
  obtain ⟨q1, HQ1⟩ : ∃ q, polOk k m = q := ⟨_, rfl⟩
  obtain ⟨q2, HQ2⟩ : ∃ q, hltOk f r l = q := ⟨_, rfl⟩
  obtain ⟨q3, HQ3⟩ : ∃ q, inr x 1 9 = q := ⟨_, rfl⟩
  rw [HQ1, HQ2, HQ3] at hn
  have HP : Hid (∀ X, Calls Try.prog 9 #[pol k m] X fun e w' => e = .returned (.bool q1) ∧ Below X.heap.size X w') := fun X => by rw [← HQ1]; exact spec_pok k m X
  have HH : Hid (∀ X, Calls Try.prog 12 #[hlt f r l b] X fun e w' => e = .returned (.bool q2) ∧ Below X.heap.size X w') := fun X => by rw [← HQ2]; exact spec_hok f r l b X
  have HN : Hid (∀ X, Calls Try.prog 28 #[.int .i64 x, .int .i64 1, .int .i64 9] X fun e w' => e = .returned (.bool q3) ∧ Below X.heap.size X w') := fun X => by rw [← HQ3]; exact (in_any x 1 9 X).mono fun e w' h => ⟨h.1, h.2 ▸ Below.refl _ _⟩
  have HN0 : Hid ((q1 && (q2 && (q3 && !b))) = false) := hn
  clear HQ1 HQ2 HQ3 hn
  have HB0 : Hid (Below w.heap.size w (((w.alloc (.cells (prow k m) 25)).alloc (.cells (hrow f r l b) 31)).alloc (.cells (hrow 0 0 0 false) 31))) := (((Below.refl _ w).alloc (Nat.le_refl _) _).alloc (by simp) _).alloc (by simp; omega) _
  have HK0 : Hid (Bk (((w.alloc (.cells (prow k m) 25)).alloc (.cells (hrow f r l b) 31)).alloc (.cells (hrow 0 0 0 false) 31)) w.heap.size (prow k m) ∧ Bk (((w.alloc (.cells (prow k m) 25)).alloc (.cells (hrow f r l b) 31)).alloc (.cells (hrow 0 0 0 false) 31)) (w.heap.size + 1) (hrow f r l b) ∧ Bk (((w.alloc (.cells (prow k m) 25)).alloc (.cells (hrow f r l b) 31)).alloc (.cells (hrow 0 0 0 false) 31)) (w.heap.size + 2) (hrow 0 0 0 false)) :=
    ⟨((Bk.new w _ _ w.heap.size rfl).alloc _).alloc _, (Bk.new _ _ _ _ (by simp)).alloc _, Bk.new _ _ _ _ (by simp)⟩
  go_enter Try.func18, Try.ntmps18
  have p0 := HK0.out.1.cell 0 _ rfl
  have p1 := HK0.out.1.cell 1 _ rfl
  go_wp2_with fail
  refine (HP.out _).mono ?_
  rintro y w1 ⟨rfl, hb1⟩
  have HB1 : Hid (Below w.heap.size w w1) := HB0.out.trans (hb1.mono HB0.out.size)
  have HK1 : Hid (Bk w1 w.heap.size (prow k m) ∧ Bk w1 (w.heap.size + 1) (hrow f r l b) ∧ Bk w1 (w.heap.size + 2) (hrow 0 0 0 false)) := ⟨HK0.out.1.below hb1, HK0.out.2.1.below hb1, HK0.out.2.2.below hb1⟩
  clear hb1 HB0 HK0 p0 p1
  cases q1
  · have g0 := HK1.out.2.1.cell 0 _ rfl
    have g1 := HK1.out.2.1.cell 1 _ rfl
    have g2 := HK1.out.2.1.cell 2 _ rfl
    have g3 := HK1.out.2.1.cell 3 _ rfl
    have r0 := HK1.out.2.2.cell 0 _ rfl
    have r1 := HK1.out.2.2.cell 1 _ rfl
    have r2 := HK1.out.2.2.cell 2 _ rfl
    have r3 := HK1.out.2.2.cell 3 _ rfl
    have rf := HK1.out.2.2.free
    go_wp2
    have k4 := bk4 HK1.out.2.2 (.int .i64 f) (.int .i64 r) (.int .i64 l) (.bool b)
    have h4 := b4 (R := w.heap.size + 2) HB1.out (by omega) (.int .i64 f) (.int .i64 r) (.int .i64 l) (.bool b)
    clear g0 g1 g2 g3 r0 r1 r2 r3 rf HK1 HB1
    revert k4 h4
    generalize ((((w1.setCell ⟨w.heap.size + 2, 0, none⟩ (.int .i64 f)).setCell ⟨w.heap.size + 2, 1, none⟩ (.int .i64 r)).setCell ⟨w.heap.size + 2, 2, none⟩ (.int .i64 l)).setCell ⟨w.heap.size + 2, 3, none⟩ (.bool b)) = Wf
    intro k4 h4
    have q0 := k4.cell 0 _ rfl
    have q1 := k4.cell 1 _ rfl
    have q2 := k4.cell 2 _ rfl
    have q3 := k4.cell 3 _ rfl
    exact bodyPost_ret (v := .tuple #[hlt f r l b, .int .i64 0]) (by simp [results, Try.results18, go_sem, q0, q1, q2, q3]) rfl ⟨rfl, h4⟩
  have g0 := HK1.out.2.1.cell 0 _ rfl
  have g1 := HK1.out.2.1.cell 1 _ rfl
  have g2 := HK1.out.2.1.cell 2 _ rfl
  have g3 := HK1.out.2.1.cell 3 _ rfl
  go_wp2_with fail
  refine (HH.out _).mono ?_
  rintro y w2 ⟨rfl, hb2⟩
  have HB2 : Hid (Below w.heap.size w w2) := HB1.out.trans (hb2.mono HB1.out.size)
  have HK2 : Hid (Bk w2 w.heap.size (prow k m) ∧ Bk w2 (w.heap.size + 1) (hrow f r l b) ∧ Bk w2 (w.heap.size + 2) (hrow 0 0 0 false)) := ⟨HK1.out.1.below hb2, HK1.out.2.1.below hb2, HK1.out.2.2.below hb2⟩
  clear hb2 HB1 HK1 g0 g1 g2 g3
  cases q2
  · have g0 := HK2.out.2.1.cell 0 _ rfl
    have g1 := HK2.out.2.1.cell 1 _ rfl
    have g2 := HK2.out.2.1.cell 2 _ rfl
    have g3 := HK2.out.2.1.cell 3 _ rfl
    have r0 := HK2.out.2.2.cell 0 _ rfl
    have r1 := HK2.out.2.2.cell 1 _ rfl
    have r2 := HK2.out.2.2.cell 2 _ rfl
    have r3 := HK2.out.2.2.cell 3 _ rfl
    have rf := HK2.out.2.2.free
    go_wp2
    have k4 := bk4 HK2.out.2.2 (.int .i64 f) (.int .i64 r) (.int .i64 l) (.bool b)
    have h4 := b4 (R := w.heap.size + 2) HB2.out (by omega) (.int .i64 f) (.int .i64 r) (.int .i64 l) (.bool b)
    clear g0 g1 g2 g3 r0 r1 r2 r3 rf HK2 HB2
    revert k4 h4
    generalize ((((w2.setCell ⟨w.heap.size + 2, 0, none⟩ (.int .i64 f)).setCell ⟨w.heap.size + 2, 1, none⟩ (.int .i64 r)).setCell ⟨w.heap.size + 2, 2, none⟩ (.int .i64 l)).setCell ⟨w.heap.size + 2, 3, none⟩ (.bool b)) = Wf
    intro k4 h4
    have q0 := k4.cell 0 _ rfl
    have q1 := k4.cell 1 _ rfl
    have q2 := k4.cell 2 _ rfl
    have q3 := k4.cell 3 _ rfl
    exact bodyPost_ret (v := .tuple #[hlt f r l b, .int .i64 0]) (by simp [results, Try.results18, go_sem, q0, q1, q2, q3]) rfl ⟨rfl, h4⟩
  go_wp2_with fail
  refine (HN.out _).mono ?_
  rintro y w3 ⟨rfl, hb3⟩
  have HB3 : Hid (Below w.heap.size w w3) := HB2.out.trans (hb3.mono HB2.out.size)
  have HK3 : Hid (Bk w3 w.heap.size (prow k m) ∧ Bk w3 (w.heap.size + 1) (hrow f r l b) ∧ Bk w3 (w.heap.size + 2) (hrow 0 0 0 false)) := ⟨HK2.out.1.below hb3, HK2.out.2.1.below hb3, HK2.out.2.2.below hb3⟩
  clear hb3 HB2 HK2
  cases q3
  · have g0 := HK3.out.2.1.cell 0 _ rfl
    have g1 := HK3.out.2.1.cell 1 _ rfl
    have g2 := HK3.out.2.1.cell 2 _ rfl
    have g3 := HK3.out.2.1.cell 3 _ rfl
    have r0 := HK3.out.2.2.cell 0 _ rfl
    have r1 := HK3.out.2.2.cell 1 _ rfl
    have r2 := HK3.out.2.2.cell 2 _ rfl
    have r3 := HK3.out.2.2.cell 3 _ rfl
    have rf := HK3.out.2.2.free
    go_wp2
    have k4 := bk4 HK3.out.2.2 (.int .i64 f) (.int .i64 r) (.int .i64 l) (.bool b)
    have h4 := b4 (R := w.heap.size + 2) HB3.out (by omega) (.int .i64 f) (.int .i64 r) (.int .i64 l) (.bool b)
    clear g0 g1 g2 g3 r0 r1 r2 r3 rf HK3 HB3
    revert k4 h4
    generalize ((((w3.setCell ⟨w.heap.size + 2, 0, none⟩ (.int .i64 f)).setCell ⟨w.heap.size + 2, 1, none⟩ (.int .i64 r)).setCell ⟨w.heap.size + 2, 2, none⟩ (.int .i64 l)).setCell ⟨w.heap.size + 2, 3, none⟩ (.bool b)) = Wf
    intro k4 h4
    have q0 := k4.cell 0 _ rfl
    have q1 := k4.cell 1 _ rfl
    have q2 := k4.cell 2 _ rfl
    have q3 := k4.cell 3 _ rfl
    exact bodyPost_ret (v := .tuple #[hlt f r l b, .int .i64 0]) (by simp [results, Try.results18, go_sem, q0, q1, q2, q3]) rfl ⟨rfl, h4⟩
  cases b
  · exact absurd HN0.out (by decide)
  · have g0 := HK3.out.2.1.cell 0 _ rfl
    have g1 := HK3.out.2.1.cell 1 _ rfl
    have g2 := HK3.out.2.1.cell 2 _ rfl
    have g3 := HK3.out.2.1.cell 3 _ rfl
    have r0 := HK3.out.2.2.cell 0 _ rfl
    have r1 := HK3.out.2.2.cell 1 _ rfl
    have r2 := HK3.out.2.2.cell 2 _ rfl
    have r3 := HK3.out.2.2.cell 3 _ rfl
    have rf := HK3.out.2.2.free
    go_wp2
    have k4 := bk4 HK3.out.2.2 (.int .i64 f) (.int .i64 r) (.int .i64 l) (.bool true)
    have h4 := b4 (R := w.heap.size + 2) HB3.out (by omega) (.int .i64 f) (.int .i64 r) (.int .i64 l) (.bool true)
    clear g0 g1 g2 g3 r0 r1 r2 r3 rf HK3 HB3
    revert k4 h4
    generalize ((((w3.setCell ⟨w.heap.size + 2, 0, none⟩ (.int .i64 f)).setCell ⟨w.heap.size + 2, 1, none⟩ (.int .i64 r)).setCell ⟨w.heap.size + 2, 2, none⟩ (.int .i64 l)).setCell ⟨w.heap.size + 2, 3, none⟩ (.bool true)) = Wf
    intro k4 h4
    have q0 := k4.cell 0 _ rfl
    have q1 := k4.cell 1 _ rfl
    have q2 := k4.cell 2 _ rfl
    have q3 := k4.cell 3 _ rfl
    exact bodyPost_ret (v := .tuple #[hlt f r l true, .int .i64 0]) (by simp [results, Try.results18, go_sem, q0, q1, q2, q3]) rfl ⟨rfl, h4⟩
set_option maxHeartbeats 2000000 in
theorem impl_onf_no (k m f r l x : Int) (b : Bool) (w : World) (hn : (polOk k m && (hltOk f r l && (inr x 1 9 && !b))) = false) :
    Calls Try.prog 19 #[pol k m, hlt f r l b, .int .i64 x] w fun e w' => e = .returned (.tuple #[hlt f r l b, .int .i64 0]) ∧ Below w.heap.size w w' := by
  obtain ⟨q1, HQ1⟩ : ∃ q, polOk k m = q := ⟨_, rfl⟩
  obtain ⟨q2, HQ2⟩ : ∃ q, hltOk f r l = q := ⟨_, rfl⟩
  obtain ⟨q3, HQ3⟩ : ∃ q, inr x 1 9 = q := ⟨_, rfl⟩
  rw [HQ1, HQ2, HQ3] at hn
  have HP : Hid (∀ X, Calls Try.prog 11 #[pol k m] X fun e w' => e = .returned (.bool q1) ∧ Below X.heap.size X w') := fun X => by rw [← HQ1]; exact impl_pok k m X
  have HH : Hid (∀ X, Calls Try.prog 14 #[hlt f r l b] X fun e w' => e = .returned (.bool q2) ∧ Below X.heap.size X w') := fun X => by rw [← HQ2]; exact impl_hok f r l b X
  have HN : Hid (∀ X, Calls Try.prog 31 #[.int .i64 x] X fun e w' => e = .returned (.bool q3) ∧ Below X.heap.size X w') := fun X => by rw [← HQ3]; exact (is_fault x X).mono fun e w' h => ⟨h.1, h.2 ▸ Below.refl _ _⟩
  have HN0 : Hid ((q1 && (q2 && (q3 && !b))) = false) := hn
  clear HQ1 HQ2 HQ3 hn
  have HB0 : Hid (Below w.heap.size w (((w.alloc (.cells (prow k m) 25)).alloc (.cells (hrow f r l b) 31)).alloc (.cells (hrow 0 0 0 false) 31))) := (((Below.refl _ w).alloc (Nat.le_refl _) _).alloc (by simp) _).alloc (by simp; omega) _
  have HK0 : Hid (Bk (((w.alloc (.cells (prow k m) 25)).alloc (.cells (hrow f r l b) 31)).alloc (.cells (hrow 0 0 0 false) 31)) w.heap.size (prow k m) ∧ Bk (((w.alloc (.cells (prow k m) 25)).alloc (.cells (hrow f r l b) 31)).alloc (.cells (hrow 0 0 0 false) 31)) (w.heap.size + 1) (hrow f r l b) ∧ Bk (((w.alloc (.cells (prow k m) 25)).alloc (.cells (hrow f r l b) 31)).alloc (.cells (hrow 0 0 0 false) 31)) (w.heap.size + 2) (hrow 0 0 0 false)) :=
    ⟨((Bk.new w _ _ w.heap.size rfl).alloc _).alloc _, (Bk.new _ _ _ _ (by simp)).alloc _, Bk.new _ _ _ _ (by simp)⟩
  go_enter Try.func19, Try.ntmps19
  have p0 := HK0.out.1.cell 0 _ rfl
  have p1 := HK0.out.1.cell 1 _ rfl
  go_wp2_with fail
  refine (HP.out _).mono ?_
  rintro y w1 ⟨rfl, hb1⟩
  have HB1 : Hid (Below w.heap.size w w1) := HB0.out.trans (hb1.mono HB0.out.size)
  have HK1 : Hid (Bk w1 w.heap.size (prow k m) ∧ Bk w1 (w.heap.size + 1) (hrow f r l b) ∧ Bk w1 (w.heap.size + 2) (hrow 0 0 0 false)) := ⟨HK0.out.1.below hb1, HK0.out.2.1.below hb1, HK0.out.2.2.below hb1⟩
  clear hb1 HB0 HK0 p0 p1
  cases q1
  · have g0 := HK1.out.2.1.cell 0 _ rfl
    have g1 := HK1.out.2.1.cell 1 _ rfl
    have g2 := HK1.out.2.1.cell 2 _ rfl
    have g3 := HK1.out.2.1.cell 3 _ rfl
    have r0 := HK1.out.2.2.cell 0 _ rfl
    have r1 := HK1.out.2.2.cell 1 _ rfl
    have r2 := HK1.out.2.2.cell 2 _ rfl
    have r3 := HK1.out.2.2.cell 3 _ rfl
    have rf := HK1.out.2.2.free
    go_wp2
    have k4 := bk4 HK1.out.2.2 (.int .i64 f) (.int .i64 r) (.int .i64 l) (.bool b)
    have h4 := b4 (R := w.heap.size + 2) HB1.out (by omega) (.int .i64 f) (.int .i64 r) (.int .i64 l) (.bool b)
    clear g0 g1 g2 g3 r0 r1 r2 r3 rf HK1 HB1
    revert k4 h4
    generalize ((((w1.setCell ⟨w.heap.size + 2, 0, none⟩ (.int .i64 f)).setCell ⟨w.heap.size + 2, 1, none⟩ (.int .i64 r)).setCell ⟨w.heap.size + 2, 2, none⟩ (.int .i64 l)).setCell ⟨w.heap.size + 2, 3, none⟩ (.bool b)) = Wf
    intro k4 h4
    have q0 := k4.cell 0 _ rfl
    have q1 := k4.cell 1 _ rfl
    have q2 := k4.cell 2 _ rfl
    have q3 := k4.cell 3 _ rfl
    exact bodyPost_ret (v := .tuple #[hlt f r l b, .int .i64 0]) (by simp [results, Try.results19, go_sem, q0, q1, q2, q3]) rfl ⟨rfl, h4⟩
  have g0 := HK1.out.2.1.cell 0 _ rfl
  have g1 := HK1.out.2.1.cell 1 _ rfl
  have g2 := HK1.out.2.1.cell 2 _ rfl
  have g3 := HK1.out.2.1.cell 3 _ rfl
  go_wp2_with fail
  refine (HH.out _).mono ?_
  rintro y w2 ⟨rfl, hb2⟩
  have HB2 : Hid (Below w.heap.size w w2) := HB1.out.trans (hb2.mono HB1.out.size)
  have HK2 : Hid (Bk w2 w.heap.size (prow k m) ∧ Bk w2 (w.heap.size + 1) (hrow f r l b) ∧ Bk w2 (w.heap.size + 2) (hrow 0 0 0 false)) := ⟨HK1.out.1.below hb2, HK1.out.2.1.below hb2, HK1.out.2.2.below hb2⟩
  clear hb2 HB1 HK1 g0 g1 g2 g3
  cases q2
  · have g0 := HK2.out.2.1.cell 0 _ rfl
    have g1 := HK2.out.2.1.cell 1 _ rfl
    have g2 := HK2.out.2.1.cell 2 _ rfl
    have g3 := HK2.out.2.1.cell 3 _ rfl
    have r0 := HK2.out.2.2.cell 0 _ rfl
    have r1 := HK2.out.2.2.cell 1 _ rfl
    have r2 := HK2.out.2.2.cell 2 _ rfl
    have r3 := HK2.out.2.2.cell 3 _ rfl
    have rf := HK2.out.2.2.free
    go_wp2
    have k4 := bk4 HK2.out.2.2 (.int .i64 f) (.int .i64 r) (.int .i64 l) (.bool b)
    have h4 := b4 (R := w.heap.size + 2) HB2.out (by omega) (.int .i64 f) (.int .i64 r) (.int .i64 l) (.bool b)
    clear g0 g1 g2 g3 r0 r1 r2 r3 rf HK2 HB2
    revert k4 h4
    generalize ((((w2.setCell ⟨w.heap.size + 2, 0, none⟩ (.int .i64 f)).setCell ⟨w.heap.size + 2, 1, none⟩ (.int .i64 r)).setCell ⟨w.heap.size + 2, 2, none⟩ (.int .i64 l)).setCell ⟨w.heap.size + 2, 3, none⟩ (.bool b)) = Wf
    intro k4 h4
    have q0 := k4.cell 0 _ rfl
    have q1 := k4.cell 1 _ rfl
    have q2 := k4.cell 2 _ rfl
    have q3 := k4.cell 3 _ rfl
    exact bodyPost_ret (v := .tuple #[hlt f r l b, .int .i64 0]) (by simp [results, Try.results19, go_sem, q0, q1, q2, q3]) rfl ⟨rfl, h4⟩
  go_wp2_with fail
  refine (HN.out _).mono ?_
  rintro y w3 ⟨rfl, hb3⟩
  have HB3 : Hid (Below w.heap.size w w3) := HB2.out.trans (hb3.mono HB2.out.size)
  have HK3 : Hid (Bk w3 w.heap.size (prow k m) ∧ Bk w3 (w.heap.size + 1) (hrow f r l b) ∧ Bk w3 (w.heap.size + 2) (hrow 0 0 0 false)) := ⟨HK2.out.1.below hb3, HK2.out.2.1.below hb3, HK2.out.2.2.below hb3⟩
  clear hb3 HB2 HK2
  cases q3
  · have g0 := HK3.out.2.1.cell 0 _ rfl
    have g1 := HK3.out.2.1.cell 1 _ rfl
    have g2 := HK3.out.2.1.cell 2 _ rfl
    have g3 := HK3.out.2.1.cell 3 _ rfl
    have r0 := HK3.out.2.2.cell 0 _ rfl
    have r1 := HK3.out.2.2.cell 1 _ rfl
    have r2 := HK3.out.2.2.cell 2 _ rfl
    have r3 := HK3.out.2.2.cell 3 _ rfl
    have rf := HK3.out.2.2.free
    go_wp2
    have k4 := bk4 HK3.out.2.2 (.int .i64 f) (.int .i64 r) (.int .i64 l) (.bool b)
    have h4 := b4 (R := w.heap.size + 2) HB3.out (by omega) (.int .i64 f) (.int .i64 r) (.int .i64 l) (.bool b)
    clear g0 g1 g2 g3 r0 r1 r2 r3 rf HK3 HB3
    revert k4 h4
    generalize ((((w3.setCell ⟨w.heap.size + 2, 0, none⟩ (.int .i64 f)).setCell ⟨w.heap.size + 2, 1, none⟩ (.int .i64 r)).setCell ⟨w.heap.size + 2, 2, none⟩ (.int .i64 l)).setCell ⟨w.heap.size + 2, 3, none⟩ (.bool b)) = Wf
    intro k4 h4
    have q0 := k4.cell 0 _ rfl
    have q1 := k4.cell 1 _ rfl
    have q2 := k4.cell 2 _ rfl
    have q3 := k4.cell 3 _ rfl
    exact bodyPost_ret (v := .tuple #[hlt f r l b, .int .i64 0]) (by simp [results, Try.results19, go_sem, q0, q1, q2, q3]) rfl ⟨rfl, h4⟩
  cases b
  · exact absurd HN0.out (by decide)
  · have g0 := HK3.out.2.1.cell 0 _ rfl
    have g1 := HK3.out.2.1.cell 1 _ rfl
    have g2 := HK3.out.2.1.cell 2 _ rfl
    have g3 := HK3.out.2.1.cell 3 _ rfl
    have r0 := HK3.out.2.2.cell 0 _ rfl
    have r1 := HK3.out.2.2.cell 1 _ rfl
    have r2 := HK3.out.2.2.cell 2 _ rfl
    have r3 := HK3.out.2.2.cell 3 _ rfl
    have rf := HK3.out.2.2.free
    go_wp2
    have k4 := bk4 HK3.out.2.2 (.int .i64 f) (.int .i64 r) (.int .i64 l) (.bool true)
    have h4 := b4 (R := w.heap.size + 2) HB3.out (by omega) (.int .i64 f) (.int .i64 r) (.int .i64 l) (.bool true)
    clear g0 g1 g2 g3 r0 r1 r2 r3 rf HK3 HB3
    revert k4 h4
    generalize ((((w3.setCell ⟨w.heap.size + 2, 0, none⟩ (.int .i64 f)).setCell ⟨w.heap.size + 2, 1, none⟩ (.int .i64 r)).setCell ⟨w.heap.size + 2, 2, none⟩ (.int .i64 l)).setCell ⟨w.heap.size + 2, 3, none⟩ (.bool true)) = Wf
    intro k4 h4
    have q0 := k4.cell 0 _ rfl
    have q1 := k4.cell 1 _ rfl
    have q2 := k4.cell 2 _ rfl
    have q3 := k4.cell 3 _ rfl
    exact bodyPost_ret (v := .tuple #[hlt f r l true, .int .i64 0]) (by simp [results, Try.results19, go_sem, q0, q1, q2, q3]) rfl ⟨rfl, h4⟩
set_option maxHeartbeats 2000000 in
theorem spec_onf_001 (m f r l x : Int) (w : World) (h1 : polOk 0 m = true) (h2 : hltOk f r l = true) (h3 : inr x 1 9 = true) (hlt1 : f < 1000000000) :
    Calls Try.prog 18 #[pol 0 m, hlt f r l false, .int .i64 x] w fun e w' => e = .returned (.tuple #[hlt (f + 1) r x true, .int .i64 1]) ∧ Below w.heap.size w w' := by
  obtain ⟨⟨f0, f9⟩, r0', r9⟩ := hltOk_b h2
  have hwf := wrap1 f0 f9
  have hwr := wrap1 r0' r9
  have HP : Hid (∀ X, Calls Try.prog 9 #[pol 0 m] X fun e w' => e = .returned (.bool true) ∧ Below X.heap.size X w') := fun X => by rw [← h1]; exact spec_pok 0 m X
  have HH : Hid (∀ X, Calls Try.prog 12 #[hlt f r l false] X fun e w' => e = .returned (.bool true) ∧ Below X.heap.size X w') := fun X => by rw [← h2]; exact spec_hok f r l false X
  have HN : Hid (∀ X, Calls Try.prog 28 #[.int .i64 x, .int .i64 1, .int .i64 9] X fun e w' => e = .returned (.bool true) ∧ Below X.heap.size X w') := fun X => by rw [← h3]; exact (in_any x 1 9 X).mono fun e w' h => ⟨h.1, h.2 ▸ Below.refl _ _⟩
  clear h1 h2 h3
  have HB0 : Hid (Below w.heap.size w (((w.alloc (.cells (prow 0 m) 25)).alloc (.cells (hrow f r l false) 31)).alloc (.cells (hrow 0 0 0 false) 31))) := (((Below.refl _ w).alloc (Nat.le_refl _) _).alloc (by simp) _).alloc (by simp; omega) _
  have HK0 : Hid (Bk (((w.alloc (.cells (prow 0 m) 25)).alloc (.cells (hrow f r l false) 31)).alloc (.cells (hrow 0 0 0 false) 31)) w.heap.size (prow 0 m) ∧ Bk (((w.alloc (.cells (prow 0 m) 25)).alloc (.cells (hrow f r l false) 31)).alloc (.cells (hrow 0 0 0 false) 31)) (w.heap.size + 1) (hrow f r l false) ∧ Bk (((w.alloc (.cells (prow 0 m) 25)).alloc (.cells (hrow f r l false) 31)).alloc (.cells (hrow 0 0 0 false) 31)) (w.heap.size + 2) (hrow 0 0 0 false)) :=
    ⟨((Bk.new w _ _ w.heap.size rfl).alloc _).alloc _, (Bk.new _ _ _ _ (by simp)).alloc _, Bk.new _ _ _ _ (by simp)⟩
  go_enter Try.func18, Try.ntmps18
  have p0 := HK0.out.1.cell 0 _ rfl
  have p1 := HK0.out.1.cell 1 _ rfl
  go_wp2_with fail
  refine (HP.out _).mono ?_
  rintro y w1 ⟨rfl, hb1⟩
  have HB1 : Hid (Below w.heap.size w w1) := HB0.out.trans (hb1.mono HB0.out.size)
  have HK1 : Hid (Bk w1 w.heap.size (prow 0 m) ∧ Bk w1 (w.heap.size + 1) (hrow f r l false) ∧ Bk w1 (w.heap.size + 2) (hrow 0 0 0 false)) := ⟨HK0.out.1.below hb1, HK0.out.2.1.below hb1, HK0.out.2.2.below hb1⟩
  clear hb1 HB0 HK0 p0 p1
  have g0 := HK1.out.2.1.cell 0 _ rfl
  have g1 := HK1.out.2.1.cell 1 _ rfl
  have g2 := HK1.out.2.1.cell 2 _ rfl
  have g3 := HK1.out.2.1.cell 3 _ rfl
  go_wp2_with fail
  refine (HH.out _).mono ?_
  rintro y w2 ⟨rfl, hb2⟩
  have HB2 : Hid (Below w.heap.size w w2) := HB1.out.trans (hb2.mono HB1.out.size)
  have HK2 : Hid (Bk w2 w.heap.size (prow 0 m) ∧ Bk w2 (w.heap.size + 1) (hrow f r l false) ∧ Bk w2 (w.heap.size + 2) (hrow 0 0 0 false)) := ⟨HK1.out.1.below hb2, HK1.out.2.1.below hb2, HK1.out.2.2.below hb2⟩
  clear hb2 HB1 HK1 g0 g1 g2 g3
  go_wp2_with fail
  refine (HN.out _).mono ?_
  rintro y w3 ⟨rfl, hb3⟩
  have HB3 : Hid (Below w.heap.size w w3) := HB2.out.trans (hb3.mono HB2.out.size)
  have HK3 : Hid (Bk w3 w.heap.size (prow 0 m) ∧ Bk w3 (w.heap.size + 1) (hrow f r l false) ∧ Bk w3 (w.heap.size + 2) (hrow 0 0 0 false)) := ⟨HK2.out.1.below hb3, HK2.out.2.1.below hb3, HK2.out.2.2.below hb3⟩
  clear hb3 HB2 HK2 HP HH HN
  have p0 := HK3.out.1.cell 0 _ rfl
  have p1 := HK3.out.1.cell 1 _ rfl
  have g0 := HK3.out.2.1.cell 0 _ rfl
  have g1 := HK3.out.2.1.cell 1 _ rfl
  have g2 := HK3.out.2.1.cell 2 _ rfl
  have g3 := HK3.out.2.1.cell 3 _ rfl
  have gf := HK3.out.2.1.free
  have J0 : Hid (Bk (w3.setCell ⟨w.heap.size + 1, 0, none⟩ (.int .i64 (f + 1))) w.heap.size (prow 0 m) ∧ Bk (w3.setCell ⟨w.heap.size + 1, 0, none⟩ (.int .i64 (f + 1))) (w.heap.size + 1) (hrow (f + 1) r l false) ∧ Bk (w3.setCell ⟨w.heap.size + 1, 0, none⟩ (.int .i64 (f + 1))) (w.heap.size + 2) (hrow 0 0 0 false) ∧ Below w.heap.size w (w3.setCell ⟨w.heap.size + 1, 0, none⟩ (.int .i64 (f + 1)))) :=
    ⟨HK3.out.1.other _ 0 _ (by omega), HK3.out.2.1.set 0 _ (by simp) rfl, HK3.out.2.2.other _ 0 _ (by omega), Below.setCell HB3.out (p := ⟨w.heap.size + 1, 0, none⟩) (Nat.le_succ _) _⟩
  have pp00 := J0.out.1.cell 0 _ rfl
  have pp01 := J0.out.1.cell 1 _ rfl
  have gg00 := J0.out.2.1.cell 0 _ rfl
  have gg01 := J0.out.2.1.cell 1 _ rfl
  have gg02 := J0.out.2.1.cell 2 _ rfl
  have gg03 := J0.out.2.1.cell 3 _ rfl
  have J1 : Hid (Bk ((w3.setCell ⟨w.heap.size + 1, 0, none⟩ (.int .i64 (f + 1))).setCell ⟨w.heap.size + 1, 2, none⟩ (.int .i64 x)) w.heap.size (prow 0 m) ∧ Bk ((w3.setCell ⟨w.heap.size + 1, 0, none⟩ (.int .i64 (f + 1))).setCell ⟨w.heap.size + 1, 2, none⟩ (.int .i64 x)) (w.heap.size + 1) (hrow (f + 1) r x false) ∧ Bk ((w3.setCell ⟨w.heap.size + 1, 0, none⟩ (.int .i64 (f + 1))).setCell ⟨w.heap.size + 1, 2, none⟩ (.int .i64 x)) (w.heap.size + 2) (hrow 0 0 0 false) ∧ Below w.heap.size w ((w3.setCell ⟨w.heap.size + 1, 0, none⟩ (.int .i64 (f + 1))).setCell ⟨w.heap.size + 1, 2, none⟩ (.int .i64 x))) :=
    ⟨J0.out.1.other _ 2 _ (by omega), J0.out.2.1.set 2 _ (by simp) rfl, J0.out.2.2.1.other _ 2 _ (by omega), Below.setCell J0.out.2.2.2 (p := ⟨w.heap.size + 1, 2, none⟩) (Nat.le_succ _) _⟩
  have pp10 := J1.out.1.cell 0 _ rfl
  have pp11 := J1.out.1.cell 1 _ rfl
  have gg10 := J1.out.2.1.cell 0 _ rfl
  have gg11 := J1.out.2.1.cell 1 _ rfl
  have gg12 := J1.out.2.1.cell 2 _ rfl
  have gg13 := J1.out.2.1.cell 3 _ rfl
  have J2 : Hid (Bk (((w3.setCell ⟨w.heap.size + 1, 0, none⟩ (.int .i64 (f + 1))).setCell ⟨w.heap.size + 1, 2, none⟩ (.int .i64 x)).setCell ⟨w.heap.size + 1, 3, none⟩ (.bool true)) w.heap.size (prow 0 m) ∧ Bk (((w3.setCell ⟨w.heap.size + 1, 0, none⟩ (.int .i64 (f + 1))).setCell ⟨w.heap.size + 1, 2, none⟩ (.int .i64 x)).setCell ⟨w.heap.size + 1, 3, none⟩ (.bool true)) (w.heap.size + 1) (hrow (f + 1) r x true) ∧ Bk (((w3.setCell ⟨w.heap.size + 1, 0, none⟩ (.int .i64 (f + 1))).setCell ⟨w.heap.size + 1, 2, none⟩ (.int .i64 x)).setCell ⟨w.heap.size + 1, 3, none⟩ (.bool true)) (w.heap.size + 2) (hrow 0 0 0 false) ∧ Below w.heap.size w (((w3.setCell ⟨w.heap.size + 1, 0, none⟩ (.int .i64 (f + 1))).setCell ⟨w.heap.size + 1, 2, none⟩ (.int .i64 x)).setCell ⟨w.heap.size + 1, 3, none⟩ (.bool true))) :=
    ⟨J1.out.1.other _ 3 _ (by omega), J1.out.2.1.set 3 _ (by simp) rfl, J1.out.2.2.1.other _ 3 _ (by omega), Below.setCell J1.out.2.2.2 (p := ⟨w.heap.size + 1, 3, none⟩) (Nat.le_succ _) _⟩
  have pp20 := J2.out.1.cell 0 _ rfl
  have pp21 := J2.out.1.cell 1 _ rfl
  have gg20 := J2.out.2.1.cell 0 _ rfl
  have gg21 := J2.out.2.1.cell 1 _ rfl
  have gg22 := J2.out.2.1.cell 2 _ rfl
  have gg23 := J2.out.2.1.cell 3 _ rfl
  have r0 := J2.out.2.2.1.cell 0 _ rfl
  have r1 := J2.out.2.2.1.cell 1 _ rfl
  have r2 := J2.out.2.2.1.cell 2 _ rfl
  have r3 := J2.out.2.2.1.cell 3 _ rfl
  have rf := J2.out.2.2.1.free
  go_wp2
  have k4 := bk4 J2.out.2.2.1 (.int .i64 (f + 1)) (.int .i64 r) (.int .i64 x) (.bool true)
  have h4 := b4 (R := w.heap.size + 2) J2.out.2.2.2 (by omega) (.int .i64 (f + 1)) (.int .i64 r) (.int .i64 x) (.bool true)
  clear p0 p1 g0 g1 g2 g3 gf r0 r1 r2 r3 rf HK3 HB3 pp00 pp01 gg00 gg01 gg02 gg03 J0 pp10 pp11 gg10 gg11 gg12 gg13 J1 pp20 pp21 gg20 gg21 gg22 gg23 J2
  revert k4 h4
  generalize (((((((w3.setCell ⟨w.heap.size + 1, 0, none⟩ (.int .i64 (f + 1))).setCell ⟨w.heap.size + 1, 2, none⟩ (.int .i64 x)).setCell ⟨w.heap.size + 1, 3, none⟩ (.bool true)).setCell ⟨w.heap.size + 2, 0, none⟩ (.int .i64 (f + 1))).setCell ⟨w.heap.size + 2, 1, none⟩ (.int .i64 r)).setCell ⟨w.heap.size + 2, 2, none⟩ (.int .i64 x)).setCell ⟨w.heap.size + 2, 3, none⟩ (.bool true)) = Wf
  intro k4 h4
  have q0 := k4.cell 0 _ rfl
  have q1 := k4.cell 1 _ rfl
  have q2 := k4.cell 2 _ rfl
  have q3 := k4.cell 3 _ rfl
  exact bodyPost_ret (v := .tuple #[hlt (f + 1) r x true, .int .i64 1]) (by simp [results, Try.results18, go_sem, q0, q1, q2, q3]) rfl ⟨rfl, h4⟩
set_option maxHeartbeats 2000000 in
theorem spec_onf_000 (m f r l x : Int) (w : World) (h1 : polOk 0 m = true) (h2 : hltOk f r l = true) (h3 : inr x 1 9 = true) (hlt1 : ¬ f < 1000000000) :
    Calls Try.prog 18 #[pol 0 m, hlt f r l false, .int .i64 x] w fun e w' => e = .returned (.tuple #[hlt f r x true, .int .i64 1]) ∧ Below w.heap.size w w' := by
  obtain ⟨⟨f0, f9⟩, r0', r9⟩ := hltOk_b h2
  have hwf := wrap1 f0 f9
  have hwr := wrap1 r0' r9
  have HP : Hid (∀ X, Calls Try.prog 9 #[pol 0 m] X fun e w' => e = .returned (.bool true) ∧ Below X.heap.size X w') := fun X => by rw [← h1]; exact spec_pok 0 m X
  have HH : Hid (∀ X, Calls Try.prog 12 #[hlt f r l false] X fun e w' => e = .returned (.bool true) ∧ Below X.heap.size X w') := fun X => by rw [← h2]; exact spec_hok f r l false X
  have HN : Hid (∀ X, Calls Try.prog 28 #[.int .i64 x, .int .i64 1, .int .i64 9] X fun e w' => e = .returned (.bool true) ∧ Below X.heap.size X w') := fun X => by rw [← h3]; exact (in_any x 1 9 X).mono fun e w' h => ⟨h.1, h.2 ▸ Below.refl _ _⟩
  clear h1 h2 h3
  have HB0 : Hid (Below w.heap.size w (((w.alloc (.cells (prow 0 m) 25)).alloc (.cells (hrow f r l false) 31)).alloc (.cells (hrow 0 0 0 false) 31))) := (((Below.refl _ w).alloc (Nat.le_refl _) _).alloc (by simp) _).alloc (by simp; omega) _
  have HK0 : Hid (Bk (((w.alloc (.cells (prow 0 m) 25)).alloc (.cells (hrow f r l false) 31)).alloc (.cells (hrow 0 0 0 false) 31)) w.heap.size (prow 0 m) ∧ Bk (((w.alloc (.cells (prow 0 m) 25)).alloc (.cells (hrow f r l false) 31)).alloc (.cells (hrow 0 0 0 false) 31)) (w.heap.size + 1) (hrow f r l false) ∧ Bk (((w.alloc (.cells (prow 0 m) 25)).alloc (.cells (hrow f r l false) 31)).alloc (.cells (hrow 0 0 0 false) 31)) (w.heap.size + 2) (hrow 0 0 0 false)) :=
    ⟨((Bk.new w _ _ w.heap.size rfl).alloc _).alloc _, (Bk.new _ _ _ _ (by simp)).alloc _, Bk.new _ _ _ _ (by simp)⟩
  go_enter Try.func18, Try.ntmps18
  have p0 := HK0.out.1.cell 0 _ rfl
  have p1 := HK0.out.1.cell 1 _ rfl
  go_wp2_with fail
  refine (HP.out _).mono ?_
  rintro y w1 ⟨rfl, hb1⟩
  have HB1 : Hid (Below w.heap.size w w1) := HB0.out.trans (hb1.mono HB0.out.size)
  have HK1 : Hid (Bk w1 w.heap.size (prow 0 m) ∧ Bk w1 (w.heap.size + 1) (hrow f r l false) ∧ Bk w1 (w.heap.size + 2) (hrow 0 0 0 false)) := ⟨HK0.out.1.below hb1, HK0.out.2.1.below hb1, HK0.out.2.2.below hb1⟩
  clear hb1 HB0 HK0 p0 p1
  have g0 := HK1.out.2.1.cell 0 _ rfl
  have g1 := HK1.out.2.1.cell 1 _ rfl
  have g2 := HK1.out.2.1.cell 2 _ rfl
  have g3 := HK1.out.2.1.cell 3 _ rfl
  go_wp2_with fail
  refine (HH.out _).mono ?_
  rintro y w2 ⟨rfl, hb2⟩
  have HB2 : Hid (Below w.heap.size w w2) := HB1.out.trans (hb2.mono HB1.out.size)
  have HK2 : Hid (Bk w2 w.heap.size (prow 0 m) ∧ Bk w2 (w.heap.size + 1) (hrow f r l false) ∧ Bk w2 (w.heap.size + 2) (hrow 0 0 0 false)) := ⟨HK1.out.1.below hb2, HK1.out.2.1.below hb2, HK1.out.2.2.below hb2⟩
  clear hb2 HB1 HK1 g0 g1 g2 g3
  go_wp2_with fail
  refine (HN.out _).mono ?_
  rintro y w3 ⟨rfl, hb3⟩
  have HB3 : Hid (Below w.heap.size w w3) := HB2.out.trans (hb3.mono HB2.out.size)
  have HK3 : Hid (Bk w3 w.heap.size (prow 0 m) ∧ Bk w3 (w.heap.size + 1) (hrow f r l false) ∧ Bk w3 (w.heap.size + 2) (hrow 0 0 0 false)) := ⟨HK2.out.1.below hb3, HK2.out.2.1.below hb3, HK2.out.2.2.below hb3⟩
  clear hb3 HB2 HK2 HP HH HN
  have p0 := HK3.out.1.cell 0 _ rfl
  have p1 := HK3.out.1.cell 1 _ rfl
  have g0 := HK3.out.2.1.cell 0 _ rfl
  have g1 := HK3.out.2.1.cell 1 _ rfl
  have g2 := HK3.out.2.1.cell 2 _ rfl
  have g3 := HK3.out.2.1.cell 3 _ rfl
  have gf := HK3.out.2.1.free
  have J0 : Hid (Bk (w3.setCell ⟨w.heap.size + 1, 2, none⟩ (.int .i64 x)) w.heap.size (prow 0 m) ∧ Bk (w3.setCell ⟨w.heap.size + 1, 2, none⟩ (.int .i64 x)) (w.heap.size + 1) (hrow f r x false) ∧ Bk (w3.setCell ⟨w.heap.size + 1, 2, none⟩ (.int .i64 x)) (w.heap.size + 2) (hrow 0 0 0 false) ∧ Below w.heap.size w (w3.setCell ⟨w.heap.size + 1, 2, none⟩ (.int .i64 x))) :=
    ⟨HK3.out.1.other _ 2 _ (by omega), HK3.out.2.1.set 2 _ (by simp) rfl, HK3.out.2.2.other _ 2 _ (by omega), Below.setCell HB3.out (p := ⟨w.heap.size + 1, 2, none⟩) (Nat.le_succ _) _⟩
  have pp00 := J0.out.1.cell 0 _ rfl
  have pp01 := J0.out.1.cell 1 _ rfl
  have gg00 := J0.out.2.1.cell 0 _ rfl
  have gg01 := J0.out.2.1.cell 1 _ rfl
  have gg02 := J0.out.2.1.cell 2 _ rfl
  have gg03 := J0.out.2.1.cell 3 _ rfl
  have J1 : Hid (Bk ((w3.setCell ⟨w.heap.size + 1, 2, none⟩ (.int .i64 x)).setCell ⟨w.heap.size + 1, 3, none⟩ (.bool true)) w.heap.size (prow 0 m) ∧ Bk ((w3.setCell ⟨w.heap.size + 1, 2, none⟩ (.int .i64 x)).setCell ⟨w.heap.size + 1, 3, none⟩ (.bool true)) (w.heap.size + 1) (hrow f r x true) ∧ Bk ((w3.setCell ⟨w.heap.size + 1, 2, none⟩ (.int .i64 x)).setCell ⟨w.heap.size + 1, 3, none⟩ (.bool true)) (w.heap.size + 2) (hrow 0 0 0 false) ∧ Below w.heap.size w ((w3.setCell ⟨w.heap.size + 1, 2, none⟩ (.int .i64 x)).setCell ⟨w.heap.size + 1, 3, none⟩ (.bool true))) :=
    ⟨J0.out.1.other _ 3 _ (by omega), J0.out.2.1.set 3 _ (by simp) rfl, J0.out.2.2.1.other _ 3 _ (by omega), Below.setCell J0.out.2.2.2 (p := ⟨w.heap.size + 1, 3, none⟩) (Nat.le_succ _) _⟩
  have pp10 := J1.out.1.cell 0 _ rfl
  have pp11 := J1.out.1.cell 1 _ rfl
  have gg10 := J1.out.2.1.cell 0 _ rfl
  have gg11 := J1.out.2.1.cell 1 _ rfl
  have gg12 := J1.out.2.1.cell 2 _ rfl
  have gg13 := J1.out.2.1.cell 3 _ rfl
  have r0 := J1.out.2.2.1.cell 0 _ rfl
  have r1 := J1.out.2.2.1.cell 1 _ rfl
  have r2 := J1.out.2.2.1.cell 2 _ rfl
  have r3 := J1.out.2.2.1.cell 3 _ rfl
  have rf := J1.out.2.2.1.free
  go_wp2
  have k4 := bk4 J1.out.2.2.1 (.int .i64 f) (.int .i64 r) (.int .i64 x) (.bool true)
  have h4 := b4 (R := w.heap.size + 2) J1.out.2.2.2 (by omega) (.int .i64 f) (.int .i64 r) (.int .i64 x) (.bool true)
  clear p0 p1 g0 g1 g2 g3 gf r0 r1 r2 r3 rf HK3 HB3 pp00 pp01 gg00 gg01 gg02 gg03 J0 pp10 pp11 gg10 gg11 gg12 gg13 J1
  revert k4 h4
  generalize ((((((w3.setCell ⟨w.heap.size + 1, 2, none⟩ (.int .i64 x)).setCell ⟨w.heap.size + 1, 3, none⟩ (.bool true)).setCell ⟨w.heap.size + 2, 0, none⟩ (.int .i64 f)).setCell ⟨w.heap.size + 2, 1, none⟩ (.int .i64 r)).setCell ⟨w.heap.size + 2, 2, none⟩ (.int .i64 x)).setCell ⟨w.heap.size + 2, 3, none⟩ (.bool true)) = Wf
  intro k4 h4
  have q0 := k4.cell 0 _ rfl
  have q1 := k4.cell 1 _ rfl
  have q2 := k4.cell 2 _ rfl
  have q3 := k4.cell 3 _ rfl
  exact bodyPost_ret (v := .tuple #[hlt f r x true, .int .i64 1]) (by simp [results, Try.results18, go_sem, q0, q1, q2, q3]) rfl ⟨rfl, h4⟩
set_option maxHeartbeats 2000000 in
theorem spec_onf_111 (m f r l x : Int) (w : World) (h1 : polOk 1 m = true) (h2 : hltOk f r l = true) (h3 : inr x 1 9 = true) (hlt1 : f < 1000000000) (hrm : r < m) :
    Calls Try.prog 18 #[pol 1 m, hlt f r l false, .int .i64 x] w fun e w' => e = .returned (.tuple #[hlt (f + 1) (r + 1) x false, .int .i64 2]) ∧ Below w.heap.size w w' := by
  obtain ⟨⟨f0, f9⟩, r0', r9⟩ := hltOk_b h2
  have hwf := wrap1 f0 f9
  have hwr := wrap1 r0' r9
  have HP : Hid (∀ X, Calls Try.prog 9 #[pol 1 m] X fun e w' => e = .returned (.bool true) ∧ Below X.heap.size X w') := fun X => by rw [← h1]; exact spec_pok 1 m X
  have HH : Hid (∀ X, Calls Try.prog 12 #[hlt f r l false] X fun e w' => e = .returned (.bool true) ∧ Below X.heap.size X w') := fun X => by rw [← h2]; exact spec_hok f r l false X
  have HN : Hid (∀ X, Calls Try.prog 28 #[.int .i64 x, .int .i64 1, .int .i64 9] X fun e w' => e = .returned (.bool true) ∧ Below X.heap.size X w') := fun X => by rw [← h3]; exact (in_any x 1 9 X).mono fun e w' h => ⟨h.1, h.2 ▸ Below.refl _ _⟩
  clear h1 h2 h3
  have HB0 : Hid (Below w.heap.size w (((w.alloc (.cells (prow 1 m) 25)).alloc (.cells (hrow f r l false) 31)).alloc (.cells (hrow 0 0 0 false) 31))) := (((Below.refl _ w).alloc (Nat.le_refl _) _).alloc (by simp) _).alloc (by simp; omega) _
  have HK0 : Hid (Bk (((w.alloc (.cells (prow 1 m) 25)).alloc (.cells (hrow f r l false) 31)).alloc (.cells (hrow 0 0 0 false) 31)) w.heap.size (prow 1 m) ∧ Bk (((w.alloc (.cells (prow 1 m) 25)).alloc (.cells (hrow f r l false) 31)).alloc (.cells (hrow 0 0 0 false) 31)) (w.heap.size + 1) (hrow f r l false) ∧ Bk (((w.alloc (.cells (prow 1 m) 25)).alloc (.cells (hrow f r l false) 31)).alloc (.cells (hrow 0 0 0 false) 31)) (w.heap.size + 2) (hrow 0 0 0 false)) :=
    ⟨((Bk.new w _ _ w.heap.size rfl).alloc _).alloc _, (Bk.new _ _ _ _ (by simp)).alloc _, Bk.new _ _ _ _ (by simp)⟩
  go_enter Try.func18, Try.ntmps18
  have p0 := HK0.out.1.cell 0 _ rfl
  have p1 := HK0.out.1.cell 1 _ rfl
  go_wp2_with fail
  refine (HP.out _).mono ?_
  rintro y w1 ⟨rfl, hb1⟩
  have HB1 : Hid (Below w.heap.size w w1) := HB0.out.trans (hb1.mono HB0.out.size)
  have HK1 : Hid (Bk w1 w.heap.size (prow 1 m) ∧ Bk w1 (w.heap.size + 1) (hrow f r l false) ∧ Bk w1 (w.heap.size + 2) (hrow 0 0 0 false)) := ⟨HK0.out.1.below hb1, HK0.out.2.1.below hb1, HK0.out.2.2.below hb1⟩
  clear hb1 HB0 HK0 p0 p1
  have g0 := HK1.out.2.1.cell 0 _ rfl
  have g1 := HK1.out.2.1.cell 1 _ rfl
  have g2 := HK1.out.2.1.cell 2 _ rfl
  have g3 := HK1.out.2.1.cell 3 _ rfl
  go_wp2_with fail
  refine (HH.out _).mono ?_
  rintro y w2 ⟨rfl, hb2⟩
  have HB2 : Hid (Below w.heap.size w w2) := HB1.out.trans (hb2.mono HB1.out.size)
  have HK2 : Hid (Bk w2 w.heap.size (prow 1 m) ∧ Bk w2 (w.heap.size + 1) (hrow f r l false) ∧ Bk w2 (w.heap.size + 2) (hrow 0 0 0 false)) := ⟨HK1.out.1.below hb2, HK1.out.2.1.below hb2, HK1.out.2.2.below hb2⟩
  clear hb2 HB1 HK1 g0 g1 g2 g3
  go_wp2_with fail
  refine (HN.out _).mono ?_
  rintro y w3 ⟨rfl, hb3⟩
  have HB3 : Hid (Below w.heap.size w w3) := HB2.out.trans (hb3.mono HB2.out.size)
  have HK3 : Hid (Bk w3 w.heap.size (prow 1 m) ∧ Bk w3 (w.heap.size + 1) (hrow f r l false) ∧ Bk w3 (w.heap.size + 2) (hrow 0 0 0 false)) := ⟨HK2.out.1.below hb3, HK2.out.2.1.below hb3, HK2.out.2.2.below hb3⟩
  clear hb3 HB2 HK2 HP HH HN
  have p0 := HK3.out.1.cell 0 _ rfl
  have p1 := HK3.out.1.cell 1 _ rfl
  have g0 := HK3.out.2.1.cell 0 _ rfl
  have g1 := HK3.out.2.1.cell 1 _ rfl
  have g2 := HK3.out.2.1.cell 2 _ rfl
  have g3 := HK3.out.2.1.cell 3 _ rfl
  have gf := HK3.out.2.1.free
  have J0 : Hid (Bk (w3.setCell ⟨w.heap.size + 1, 0, none⟩ (.int .i64 (f + 1))) w.heap.size (prow 1 m) ∧ Bk (w3.setCell ⟨w.heap.size + 1, 0, none⟩ (.int .i64 (f + 1))) (w.heap.size + 1) (hrow (f + 1) r l false) ∧ Bk (w3.setCell ⟨w.heap.size + 1, 0, none⟩ (.int .i64 (f + 1))) (w.heap.size + 2) (hrow 0 0 0 false) ∧ Below w.heap.size w (w3.setCell ⟨w.heap.size + 1, 0, none⟩ (.int .i64 (f + 1)))) :=
    ⟨HK3.out.1.other _ 0 _ (by omega), HK3.out.2.1.set 0 _ (by simp) rfl, HK3.out.2.2.other _ 0 _ (by omega), Below.setCell HB3.out (p := ⟨w.heap.size + 1, 0, none⟩) (Nat.le_succ _) _⟩
  have pp00 := J0.out.1.cell 0 _ rfl
  have pp01 := J0.out.1.cell 1 _ rfl
  have gg00 := J0.out.2.1.cell 0 _ rfl
  have gg01 := J0.out.2.1.cell 1 _ rfl
  have gg02 := J0.out.2.1.cell 2 _ rfl
  have gg03 := J0.out.2.1.cell 3 _ rfl
  have J1 : Hid (Bk ((w3.setCell ⟨w.heap.size + 1, 0, none⟩ (.int .i64 (f + 1))).setCell ⟨w.heap.size + 1, 2, none⟩ (.int .i64 x)) w.heap.size (prow 1 m) ∧ Bk ((w3.setCell ⟨w.heap.size + 1, 0, none⟩ (.int .i64 (f + 1))).setCell ⟨w.heap.size + 1, 2, none⟩ (.int .i64 x)) (w.heap.size + 1) (hrow (f + 1) r x false) ∧ Bk ((w3.setCell ⟨w.heap.size + 1, 0, none⟩ (.int .i64 (f + 1))).setCell ⟨w.heap.size + 1, 2, none⟩ (.int .i64 x)) (w.heap.size + 2) (hrow 0 0 0 false) ∧ Below w.heap.size w ((w3.setCell ⟨w.heap.size + 1, 0, none⟩ (.int .i64 (f + 1))).setCell ⟨w.heap.size + 1, 2, none⟩ (.int .i64 x))) :=
    ⟨J0.out.1.other _ 2 _ (by omega), J0.out.2.1.set 2 _ (by simp) rfl, J0.out.2.2.1.other _ 2 _ (by omega), Below.setCell J0.out.2.2.2 (p := ⟨w.heap.size + 1, 2, none⟩) (Nat.le_succ _) _⟩
  have pp10 := J1.out.1.cell 0 _ rfl
  have pp11 := J1.out.1.cell 1 _ rfl
  have gg10 := J1.out.2.1.cell 0 _ rfl
  have gg11 := J1.out.2.1.cell 1 _ rfl
  have gg12 := J1.out.2.1.cell 2 _ rfl
  have gg13 := J1.out.2.1.cell 3 _ rfl
  have J2 : Hid (Bk (((w3.setCell ⟨w.heap.size + 1, 0, none⟩ (.int .i64 (f + 1))).setCell ⟨w.heap.size + 1, 2, none⟩ (.int .i64 x)).setCell ⟨w.heap.size + 1, 1, none⟩ (.int .i64 (r + 1))) w.heap.size (prow 1 m) ∧ Bk (((w3.setCell ⟨w.heap.size + 1, 0, none⟩ (.int .i64 (f + 1))).setCell ⟨w.heap.size + 1, 2, none⟩ (.int .i64 x)).setCell ⟨w.heap.size + 1, 1, none⟩ (.int .i64 (r + 1))) (w.heap.size + 1) (hrow (f + 1) (r + 1) x false) ∧ Bk (((w3.setCell ⟨w.heap.size + 1, 0, none⟩ (.int .i64 (f + 1))).setCell ⟨w.heap.size + 1, 2, none⟩ (.int .i64 x)).setCell ⟨w.heap.size + 1, 1, none⟩ (.int .i64 (r + 1))) (w.heap.size + 2) (hrow 0 0 0 false) ∧ Below w.heap.size w (((w3.setCell ⟨w.heap.size + 1, 0, none⟩ (.int .i64 (f + 1))).setCell ⟨w.heap.size + 1, 2, none⟩ (.int .i64 x)).setCell ⟨w.heap.size + 1, 1, none⟩ (.int .i64 (r + 1)))) :=
    ⟨J1.out.1.other _ 1 _ (by omega), J1.out.2.1.set 1 _ (by simp) rfl, J1.out.2.2.1.other _ 1 _ (by omega), Below.setCell J1.out.2.2.2 (p := ⟨w.heap.size + 1, 1, none⟩) (Nat.le_succ _) _⟩
  have pp20 := J2.out.1.cell 0 _ rfl
  have pp21 := J2.out.1.cell 1 _ rfl
  have gg20 := J2.out.2.1.cell 0 _ rfl
  have gg21 := J2.out.2.1.cell 1 _ rfl
  have gg22 := J2.out.2.1.cell 2 _ rfl
  have gg23 := J2.out.2.1.cell 3 _ rfl
  have r0 := J2.out.2.2.1.cell 0 _ rfl
  have r1 := J2.out.2.2.1.cell 1 _ rfl
  have r2 := J2.out.2.2.1.cell 2 _ rfl
  have r3 := J2.out.2.2.1.cell 3 _ rfl
  have rf := J2.out.2.2.1.free
  go_wp2
  have k4 := bk4 J2.out.2.2.1 (.int .i64 (f + 1)) (.int .i64 (r + 1)) (.int .i64 x) (.bool false)
  have h4 := b4 (R := w.heap.size + 2) J2.out.2.2.2 (by omega) (.int .i64 (f + 1)) (.int .i64 (r + 1)) (.int .i64 x) (.bool false)
  clear p0 p1 g0 g1 g2 g3 gf r0 r1 r2 r3 rf HK3 HB3 pp00 pp01 gg00 gg01 gg02 gg03 J0 pp10 pp11 gg10 gg11 gg12 gg13 J1 pp20 pp21 gg20 gg21 gg22 gg23 J2
  revert k4 h4
  generalize (((((((w3.setCell ⟨w.heap.size + 1, 0, none⟩ (.int .i64 (f + 1))).setCell ⟨w.heap.size + 1, 2, none⟩ (.int .i64 x)).setCell ⟨w.heap.size + 1, 1, none⟩ (.int .i64 (r + 1))).setCell ⟨w.heap.size + 2, 0, none⟩ (.int .i64 (f + 1))).setCell ⟨w.heap.size + 2, 1, none⟩ (.int .i64 (r + 1))).setCell ⟨w.heap.size + 2, 2, none⟩ (.int .i64 x)).setCell ⟨w.heap.size + 2, 3, none⟩ (.bool false)) = Wf
  intro k4 h4
  have q0 := k4.cell 0 _ rfl
  have q1 := k4.cell 1 _ rfl
  have q2 := k4.cell 2 _ rfl
  have q3 := k4.cell 3 _ rfl
  exact bodyPost_ret (v := .tuple #[hlt (f + 1) (r + 1) x false, .int .i64 2]) (by simp [results, Try.results18, go_sem, q0, q1, q2, q3]) rfl ⟨rfl, h4⟩
set_option maxHeartbeats 2000000 in
theorem spec_onf_110 (m f r l x : Int) (w : World) (h1 : polOk 1 m = true) (h2 : hltOk f r l = true) (h3 : inr x 1 9 = true) (hlt1 : ¬ f < 1000000000) (hrm : r < m) :
    Calls Try.prog 18 #[pol 1 m, hlt f r l false, .int .i64 x] w fun e w' => e = .returned (.tuple #[hlt f (r + 1) x false, .int .i64 2]) ∧ Below w.heap.size w w' := by
  obtain ⟨⟨f0, f9⟩, r0', r9⟩ := hltOk_b h2
  have hwf := wrap1 f0 f9
  have hwr := wrap1 r0' r9
  have HP : Hid (∀ X, Calls Try.prog 9 #[pol 1 m] X fun e w' => e = .returned (.bool true) ∧ Below X.heap.size X w') := fun X => by rw [← h1]; exact spec_pok 1 m X
  have HH : Hid (∀ X, Calls Try.prog 12 #[hlt f r l false] X fun e w' => e = .returned (.bool true) ∧ Below X.heap.size X w') := fun X => by rw [← h2]; exact spec_hok f r l false X
  have HN : Hid (∀ X, Calls Try.prog 28 #[.int .i64 x, .int .i64 1, .int .i64 9] X fun e w' => e = .returned (.bool true) ∧ Below X.heap.size X w') := fun X => by rw [← h3]; exact (in_any x 1 9 X).mono fun e w' h => ⟨h.1, h.2 ▸ Below.refl _ _⟩
  clear h1 h2 h3
  have HB0 : Hid (Below w.heap.size w (((w.alloc (.cells (prow 1 m) 25)).alloc (.cells (hrow f r l false) 31)).alloc (.cells (hrow 0 0 0 false) 31))) := (((Below.refl _ w).alloc (Nat.le_refl _) _).alloc (by simp) _).alloc (by simp; omega) _
  have HK0 : Hid (Bk (((w.alloc (.cells (prow 1 m) 25)).alloc (.cells (hrow f r l false) 31)).alloc (.cells (hrow 0 0 0 false) 31)) w.heap.size (prow 1 m) ∧ Bk (((w.alloc (.cells (prow 1 m) 25)).alloc (.cells (hrow f r l false) 31)).alloc (.cells (hrow 0 0 0 false) 31)) (w.heap.size + 1) (hrow f r l false) ∧ Bk (((w.alloc (.cells (prow 1 m) 25)).alloc (.cells (hrow f r l false) 31)).alloc (.cells (hrow 0 0 0 false) 31)) (w.heap.size + 2) (hrow 0 0 0 false)) :=
    ⟨((Bk.new w _ _ w.heap.size rfl).alloc _).alloc _, (Bk.new _ _ _ _ (by simp)).alloc _, Bk.new _ _ _ _ (by simp)⟩
  go_enter Try.func18, Try.ntmps18
  have p0 := HK0.out.1.cell 0 _ rfl
  have p1 := HK0.out.1.cell 1 _ rfl
  go_wp2_with fail
  refine (HP.out _).mono ?_
  rintro y w1 ⟨rfl, hb1⟩
  have HB1 : Hid (Below w.heap.size w w1) := HB0.out.trans (hb1.mono HB0.out.size)
  have HK1 : Hid (Bk w1 w.heap.size (prow 1 m) ∧ Bk w1 (w.heap.size + 1) (hrow f r l false) ∧ Bk w1 (w.heap.size + 2) (hrow 0 0 0 false)) := ⟨HK0.out.1.below hb1, HK0.out.2.1.below hb1, HK0.out.2.2.below hb1⟩
  clear hb1 HB0 HK0 p0 p1
  have g0 := HK1.out.2.1.cell 0 _ rfl
  have g1 := HK1.out.2.1.cell 1 _ rfl
  have g2 := HK1.out.2.1.cell 2 _ rfl
  have g3 := HK1.out.2.1.cell 3 _ rfl
  go_wp2_with fail
  refine (HH.out _).mono ?_
  rintro y w2 ⟨rfl, hb2⟩
  have HB2 : Hid (Below w.heap.size w w2) := HB1.out.trans (hb2.mono HB1.out.size)
  have HK2 : Hid (Bk w2 w.heap.size (prow 1 m) ∧ Bk w2 (w.heap.size + 1) (hrow f r l false) ∧ Bk w2 (w.heap.size + 2) (hrow 0 0 0 false)) := ⟨HK1.out.1.below hb2, HK1.out.2.1.below hb2, HK1.out.2.2.below hb2⟩
  clear hb2 HB1 HK1 g0 g1 g2 g3
  go_wp2_with fail
  refine (HN.out _).mono ?_
  rintro y w3 ⟨rfl, hb3⟩
  have HB3 : Hid (Below w.heap.size w w3) := HB2.out.trans (hb3.mono HB2.out.size)
  have HK3 : Hid (Bk w3 w.heap.size (prow 1 m) ∧ Bk w3 (w.heap.size + 1) (hrow f r l false) ∧ Bk w3 (w.heap.size + 2) (hrow 0 0 0 false)) := ⟨HK2.out.1.below hb3, HK2.out.2.1.below hb3, HK2.out.2.2.below hb3⟩
  clear hb3 HB2 HK2 HP HH HN
  have p0 := HK3.out.1.cell 0 _ rfl
  have p1 := HK3.out.1.cell 1 _ rfl
  have g0 := HK3.out.2.1.cell 0 _ rfl
  have g1 := HK3.out.2.1.cell 1 _ rfl
  have g2 := HK3.out.2.1.cell 2 _ rfl
  have g3 := HK3.out.2.1.cell 3 _ rfl
  have gf := HK3.out.2.1.free
  have J0 : Hid (Bk (w3.setCell ⟨w.heap.size + 1, 2, none⟩ (.int .i64 x)) w.heap.size (prow 1 m) ∧ Bk (w3.setCell ⟨w.heap.size + 1, 2, none⟩ (.int .i64 x)) (w.heap.size + 1) (hrow f r x false) ∧ Bk (w3.setCell ⟨w.heap.size + 1, 2, none⟩ (.int .i64 x)) (w.heap.size + 2) (hrow 0 0 0 false) ∧ Below w.heap.size w (w3.setCell ⟨w.heap.size + 1, 2, none⟩ (.int .i64 x))) :=
    ⟨HK3.out.1.other _ 2 _ (by omega), HK3.out.2.1.set 2 _ (by simp) rfl, HK3.out.2.2.other _ 2 _ (by omega), Below.setCell HB3.out (p := ⟨w.heap.size + 1, 2, none⟩) (Nat.le_succ _) _⟩
  have pp00 := J0.out.1.cell 0 _ rfl
  have pp01 := J0.out.1.cell 1 _ rfl
  have gg00 := J0.out.2.1.cell 0 _ rfl
  have gg01 := J0.out.2.1.cell 1 _ rfl
  have gg02 := J0.out.2.1.cell 2 _ rfl
  have gg03 := J0.out.2.1.cell 3 _ rfl
  have J1 : Hid (Bk ((w3.setCell ⟨w.heap.size + 1, 2, none⟩ (.int .i64 x)).setCell ⟨w.heap.size + 1, 1, none⟩ (.int .i64 (r + 1))) w.heap.size (prow 1 m) ∧ Bk ((w3.setCell ⟨w.heap.size + 1, 2, none⟩ (.int .i64 x)).setCell ⟨w.heap.size + 1, 1, none⟩ (.int .i64 (r + 1))) (w.heap.size + 1) (hrow f (r + 1) x false) ∧ Bk ((w3.setCell ⟨w.heap.size + 1, 2, none⟩ (.int .i64 x)).setCell ⟨w.heap.size + 1, 1, none⟩ (.int .i64 (r + 1))) (w.heap.size + 2) (hrow 0 0 0 false) ∧ Below w.heap.size w ((w3.setCell ⟨w.heap.size + 1, 2, none⟩ (.int .i64 x)).setCell ⟨w.heap.size + 1, 1, none⟩ (.int .i64 (r + 1)))) :=
    ⟨J0.out.1.other _ 1 _ (by omega), J0.out.2.1.set 1 _ (by simp) rfl, J0.out.2.2.1.other _ 1 _ (by omega), Below.setCell J0.out.2.2.2 (p := ⟨w.heap.size + 1, 1, none⟩) (Nat.le_succ _) _⟩
  have pp10 := J1.out.1.cell 0 _ rfl
  have pp11 := J1.out.1.cell 1 _ rfl
  have gg10 := J1.out.2.1.cell 0 _ rfl
  have gg11 := J1.out.2.1.cell 1 _ rfl
  have gg12 := J1.out.2.1.cell 2 _ rfl
  have gg13 := J1.out.2.1.cell 3 _ rfl
  have r0 := J1.out.2.2.1.cell 0 _ rfl
  have r1 := J1.out.2.2.1.cell 1 _ rfl
  have r2 := J1.out.2.2.1.cell 2 _ rfl
  have r3 := J1.out.2.2.1.cell 3 _ rfl
  have rf := J1.out.2.2.1.free
  go_wp2
  have k4 := bk4 J1.out.2.2.1 (.int .i64 f) (.int .i64 (r + 1)) (.int .i64 x) (.bool false)
  have h4 := b4 (R := w.heap.size + 2) J1.out.2.2.2 (by omega) (.int .i64 f) (.int .i64 (r + 1)) (.int .i64 x) (.bool false)
  clear p0 p1 g0 g1 g2 g3 gf r0 r1 r2 r3 rf HK3 HB3 pp00 pp01 gg00 gg01 gg02 gg03 J0 pp10 pp11 gg10 gg11 gg12 gg13 J1
  revert k4 h4
  generalize ((((((w3.setCell ⟨w.heap.size + 1, 2, none⟩ (.int .i64 x)).setCell ⟨w.heap.size + 1, 1, none⟩ (.int .i64 (r + 1))).setCell ⟨w.heap.size + 2, 0, none⟩ (.int .i64 f)).setCell ⟨w.heap.size + 2, 1, none⟩ (.int .i64 (r + 1))).setCell ⟨w.heap.size + 2, 2, none⟩ (.int .i64 x)).setCell ⟨w.heap.size + 2, 3, none⟩ (.bool false)) = Wf
  intro k4 h4
  have q0 := k4.cell 0 _ rfl
  have q1 := k4.cell 1 _ rfl
  have q2 := k4.cell 2 _ rfl
  have q3 := k4.cell 3 _ rfl
  exact bodyPost_ret (v := .tuple #[hlt f (r + 1) x false, .int .i64 2]) (by simp [results, Try.results18, go_sem, q0, q1, q2, q3]) rfl ⟨rfl, h4⟩
set_option maxHeartbeats 2000000 in
theorem spec_onf_131 (m f r l x : Int) (w : World) (h1 : polOk 1 m = true) (h2 : hltOk f r l = true) (h3 : inr x 1 9 = true) (hlt1 : f < 1000000000) (hrm : ¬ r < m) :
    Calls Try.prog 18 #[pol 1 m, hlt f r l false, .int .i64 x] w fun e w' => e = .returned (.tuple #[hlt (f + 1) r x true, .int .i64 1]) ∧ Below w.heap.size w w' := by
  obtain ⟨⟨f0, f9⟩, r0', r9⟩ := hltOk_b h2
  have hwf := wrap1 f0 f9
  have hwr := wrap1 r0' r9
  have HP : Hid (∀ X, Calls Try.prog 9 #[pol 1 m] X fun e w' => e = .returned (.bool true) ∧ Below X.heap.size X w') := fun X => by rw [← h1]; exact spec_pok 1 m X
  have HH : Hid (∀ X, Calls Try.prog 12 #[hlt f r l false] X fun e w' => e = .returned (.bool true) ∧ Below X.heap.size X w') := fun X => by rw [← h2]; exact spec_hok f r l false X
  have HN : Hid (∀ X, Calls Try.prog 28 #[.int .i64 x, .int .i64 1, .int .i64 9] X fun e w' => e = .returned (.bool true) ∧ Below X.heap.size X w') := fun X => by rw [← h3]; exact (in_any x 1 9 X).mono fun e w' h => ⟨h.1, h.2 ▸ Below.refl _ _⟩
  clear h1 h2 h3
  have HB0 : Hid (Below w.heap.size w (((w.alloc (.cells (prow 1 m) 25)).alloc (.cells (hrow f r l false) 31)).alloc (.cells (hrow 0 0 0 false) 31))) := (((Below.refl _ w).alloc (Nat.le_refl _) _).alloc (by simp) _).alloc (by simp; omega) _
  have HK0 : Hid (Bk (((w.alloc (.cells (prow 1 m) 25)).alloc (.cells (hrow f r l false) 31)).alloc (.cells (hrow 0 0 0 false) 31)) w.heap.size (prow 1 m) ∧ Bk (((w.alloc (.cells (prow 1 m) 25)).alloc (.cells (hrow f r l false) 31)).alloc (.cells (hrow 0 0 0 false) 31)) (w.heap.size + 1) (hrow f r l false) ∧ Bk (((w.alloc (.cells (prow 1 m) 25)).alloc (.cells (hrow f r l false) 31)).alloc (.cells (hrow 0 0 0 false) 31)) (w.heap.size + 2) (hrow 0 0 0 false)) :=
    ⟨((Bk.new w _ _ w.heap.size rfl).alloc _).alloc _, (Bk.new _ _ _ _ (by simp)).alloc _, Bk.new _ _ _ _ (by simp)⟩
  go_enter Try.func18, Try.ntmps18
  have p0 := HK0.out.1.cell 0 _ rfl
  have p1 := HK0.out.1.cell 1 _ rfl
  go_wp2_with fail
  refine (HP.out _).mono ?_
  rintro y w1 ⟨rfl, hb1⟩
  have HB1 : Hid (Below w.heap.size w w1) := HB0.out.trans (hb1.mono HB0.out.size)
  have HK1 : Hid (Bk w1 w.heap.size (prow 1 m) ∧ Bk w1 (w.heap.size + 1) (hrow f r l false) ∧ Bk w1 (w.heap.size + 2) (hrow 0 0 0 false)) := ⟨HK0.out.1.below hb1, HK0.out.2.1.below hb1, HK0.out.2.2.below hb1⟩
  clear hb1 HB0 HK0 p0 p1
  have g0 := HK1.out.2.1.cell 0 _ rfl
  have g1 := HK1.out.2.1.cell 1 _ rfl
  have g2 := HK1.out.2.1.cell 2 _ rfl
  have g3 := HK1.out.2.1.cell 3 _ rfl
  go_wp2_with fail
  refine (HH.out _).mono ?_
  rintro y w2 ⟨rfl, hb2⟩
  have HB2 : Hid (Below w.heap.size w w2) := HB1.out.trans (hb2.mono HB1.out.size)
  have HK2 : Hid (Bk w2 w.heap.size (prow 1 m) ∧ Bk w2 (w.heap.size + 1) (hrow f r l false) ∧ Bk w2 (w.heap.size + 2) (hrow 0 0 0 false)) := ⟨HK1.out.1.below hb2, HK1.out.2.1.below hb2, HK1.out.2.2.below hb2⟩
  clear hb2 HB1 HK1 g0 g1 g2 g3
  go_wp2_with fail
  refine (HN.out _).mono ?_
  rintro y w3 ⟨rfl, hb3⟩
  have HB3 : Hid (Below w.heap.size w w3) := HB2.out.trans (hb3.mono HB2.out.size)
  have HK3 : Hid (Bk w3 w.heap.size (prow 1 m) ∧ Bk w3 (w.heap.size + 1) (hrow f r l false) ∧ Bk w3 (w.heap.size + 2) (hrow 0 0 0 false)) := ⟨HK2.out.1.below hb3, HK2.out.2.1.below hb3, HK2.out.2.2.below hb3⟩
  clear hb3 HB2 HK2 HP HH HN
  have p0 := HK3.out.1.cell 0 _ rfl
  have p1 := HK3.out.1.cell 1 _ rfl
  have g0 := HK3.out.2.1.cell 0 _ rfl
  have g1 := HK3.out.2.1.cell 1 _ rfl
  have g2 := HK3.out.2.1.cell 2 _ rfl
  have g3 := HK3.out.2.1.cell 3 _ rfl
  have gf := HK3.out.2.1.free
  have J0 : Hid (Bk (w3.setCell ⟨w.heap.size + 1, 0, none⟩ (.int .i64 (f + 1))) w.heap.size (prow 1 m) ∧ Bk (w3.setCell ⟨w.heap.size + 1, 0, none⟩ (.int .i64 (f + 1))) (w.heap.size + 1) (hrow (f + 1) r l false) ∧ Bk (w3.setCell ⟨w.heap.size + 1, 0, none⟩ (.int .i64 (f + 1))) (w.heap.size + 2) (hrow 0 0 0 false) ∧ Below w.heap.size w (w3.setCell ⟨w.heap.size + 1, 0, none⟩ (.int .i64 (f + 1)))) :=
    ⟨HK3.out.1.other _ 0 _ (by omega), HK3.out.2.1.set 0 _ (by simp) rfl, HK3.out.2.2.other _ 0 _ (by omega), Below.setCell HB3.out (p := ⟨w.heap.size + 1, 0, none⟩) (Nat.le_succ _) _⟩
  have pp00 := J0.out.1.cell 0 _ rfl
  have pp01 := J0.out.1.cell 1 _ rfl
  have gg00 := J0.out.2.1.cell 0 _ rfl
  have gg01 := J0.out.2.1.cell 1 _ rfl
  have gg02 := J0.out.2.1.cell 2 _ rfl
  have gg03 := J0.out.2.1.cell 3 _ rfl
  have J1 : Hid (Bk ((w3.setCell ⟨w.heap.size + 1, 0, none⟩ (.int .i64 (f + 1))).setCell ⟨w.heap.size + 1, 2, none⟩ (.int .i64 x)) w.heap.size (prow 1 m) ∧ Bk ((w3.setCell ⟨w.heap.size + 1, 0, none⟩ (.int .i64 (f + 1))).setCell ⟨w.heap.size + 1, 2, none⟩ (.int .i64 x)) (w.heap.size + 1) (hrow (f + 1) r x false) ∧ Bk ((w3.setCell ⟨w.heap.size + 1, 0, none⟩ (.int .i64 (f + 1))).setCell ⟨w.heap.size + 1, 2, none⟩ (.int .i64 x)) (w.heap.size + 2) (hrow 0 0 0 false) ∧ Below w.heap.size w ((w3.setCell ⟨w.heap.size + 1, 0, none⟩ (.int .i64 (f + 1))).setCell ⟨w.heap.size + 1, 2, none⟩ (.int .i64 x))) :=
    ⟨J0.out.1.other _ 2 _ (by omega), J0.out.2.1.set 2 _ (by simp) rfl, J0.out.2.2.1.other _ 2 _ (by omega), Below.setCell J0.out.2.2.2 (p := ⟨w.heap.size + 1, 2, none⟩) (Nat.le_succ _) _⟩
  have pp10 := J1.out.1.cell 0 _ rfl
  have pp11 := J1.out.1.cell 1 _ rfl
  have gg10 := J1.out.2.1.cell 0 _ rfl
  have gg11 := J1.out.2.1.cell 1 _ rfl
  have gg12 := J1.out.2.1.cell 2 _ rfl
  have gg13 := J1.out.2.1.cell 3 _ rfl
  have J2 : Hid (Bk (((w3.setCell ⟨w.heap.size + 1, 0, none⟩ (.int .i64 (f + 1))).setCell ⟨w.heap.size + 1, 2, none⟩ (.int .i64 x)).setCell ⟨w.heap.size + 1, 3, none⟩ (.bool true)) w.heap.size (prow 1 m) ∧ Bk (((w3.setCell ⟨w.heap.size + 1, 0, none⟩ (.int .i64 (f + 1))).setCell ⟨w.heap.size + 1, 2, none⟩ (.int .i64 x)).setCell ⟨w.heap.size + 1, 3, none⟩ (.bool true)) (w.heap.size + 1) (hrow (f + 1) r x true) ∧ Bk (((w3.setCell ⟨w.heap.size + 1, 0, none⟩ (.int .i64 (f + 1))).setCell ⟨w.heap.size + 1, 2, none⟩ (.int .i64 x)).setCell ⟨w.heap.size + 1, 3, none⟩ (.bool true)) (w.heap.size + 2) (hrow 0 0 0 false) ∧ Below w.heap.size w (((w3.setCell ⟨w.heap.size + 1, 0, none⟩ (.int .i64 (f + 1))).setCell ⟨w.heap.size + 1, 2, none⟩ (.int .i64 x)).setCell ⟨w.heap.size + 1, 3, none⟩ (.bool true))) :=
    ⟨J1.out.1.other _ 3 _ (by omega), J1.out.2.1.set 3 _ (by simp) rfl, J1.out.2.2.1.other _ 3 _ (by omega), Below.setCell J1.out.2.2.2 (p := ⟨w.heap.size + 1, 3, none⟩) (Nat.le_succ _) _⟩
  have pp20 := J2.out.1.cell 0 _ rfl
  have pp21 := J2.out.1.cell 1 _ rfl
  have gg20 := J2.out.2.1.cell 0 _ rfl
  have gg21 := J2.out.2.1.cell 1 _ rfl
  have gg22 := J2.out.2.1.cell 2 _ rfl
  have gg23 := J2.out.2.1.cell 3 _ rfl
  have r0 := J2.out.2.2.1.cell 0 _ rfl
  have r1 := J2.out.2.2.1.cell 1 _ rfl
  have r2 := J2.out.2.2.1.cell 2 _ rfl
  have r3 := J2.out.2.2.1.cell 3 _ rfl
  have rf := J2.out.2.2.1.free
  go_wp2
  have k4 := bk4 J2.out.2.2.1 (.int .i64 (f + 1)) (.int .i64 r) (.int .i64 x) (.bool true)
  have h4 := b4 (R := w.heap.size + 2) J2.out.2.2.2 (by omega) (.int .i64 (f + 1)) (.int .i64 r) (.int .i64 x) (.bool true)
  clear p0 p1 g0 g1 g2 g3 gf r0 r1 r2 r3 rf HK3 HB3 pp00 pp01 gg00 gg01 gg02 gg03 J0 pp10 pp11 gg10 gg11 gg12 gg13 J1 pp20 pp21 gg20 gg21 gg22 gg23 J2
  revert k4 h4
  generalize (((((((w3.setCell ⟨w.heap.size + 1, 0, none⟩ (.int .i64 (f + 1))).setCell ⟨w.heap.size + 1, 2, none⟩ (.int .i64 x)).setCell ⟨w.heap.size + 1, 3, none⟩ (.bool true)).setCell ⟨w.heap.size + 2, 0, none⟩ (.int .i64 (f + 1))).setCell ⟨w.heap.size + 2, 1, none⟩ (.int .i64 r)).setCell ⟨w.heap.size + 2, 2, none⟩ (.int .i64 x)).setCell ⟨w.heap.size + 2, 3, none⟩ (.bool true)) = Wf
  intro k4 h4
  have q0 := k4.cell 0 _ rfl
  have q1 := k4.cell 1 _ rfl
  have q2 := k4.cell 2 _ rfl
  have q3 := k4.cell 3 _ rfl
  exact bodyPost_ret (v := .tuple #[hlt (f + 1) r x true, .int .i64 1]) (by simp [results, Try.results18, go_sem, q0, q1, q2, q3]) rfl ⟨rfl, h4⟩
set_option maxHeartbeats 2000000 in
theorem spec_onf_130 (m f r l x : Int) (w : World) (h1 : polOk 1 m = true) (h2 : hltOk f r l = true) (h3 : inr x 1 9 = true) (hlt1 : ¬ f < 1000000000) (hrm : ¬ r < m) :
    Calls Try.prog 18 #[pol 1 m, hlt f r l false, .int .i64 x] w fun e w' => e = .returned (.tuple #[hlt f r x true, .int .i64 1]) ∧ Below w.heap.size w w' := by
  obtain ⟨⟨f0, f9⟩, r0', r9⟩ := hltOk_b h2
  have hwf := wrap1 f0 f9
  have hwr := wrap1 r0' r9
  have HP : Hid (∀ X, Calls Try.prog 9 #[pol 1 m] X fun e w' => e = .returned (.bool true) ∧ Below X.heap.size X w') := fun X => by rw [← h1]; exact spec_pok 1 m X
  have HH : Hid (∀ X, Calls Try.prog 12 #[hlt f r l false] X fun e w' => e = .returned (.bool true) ∧ Below X.heap.size X w') := fun X => by rw [← h2]; exact spec_hok f r l false X
  have HN : Hid (∀ X, Calls Try.prog 28 #[.int .i64 x, .int .i64 1, .int .i64 9] X fun e w' => e = .returned (.bool true) ∧ Below X.heap.size X w') := fun X => by rw [← h3]; exact (in_any x 1 9 X).mono fun e w' h => ⟨h.1, h.2 ▸ Below.refl _ _⟩
  clear h1 h2 h3
  have HB0 : Hid (Below w.heap.size w (((w.alloc (.cells (prow 1 m) 25)).alloc (.cells (hrow f r l false) 31)).alloc (.cells (hrow 0 0 0 false) 31))) := (((Below.refl _ w).alloc (Nat.le_refl _) _).alloc (by simp) _).alloc (by simp; omega) _
  have HK0 : Hid (Bk (((w.alloc (.cells (prow 1 m) 25)).alloc (.cells (hrow f r l false) 31)).alloc (.cells (hrow 0 0 0 false) 31)) w.heap.size (prow 1 m) ∧ Bk (((w.alloc (.cells (prow 1 m) 25)).alloc (.cells (hrow f r l false) 31)).alloc (.cells (hrow 0 0 0 false) 31)) (w.heap.size + 1) (hrow f r l false) ∧ Bk (((w.alloc (.cells (prow 1 m) 25)).alloc (.cells (hrow f r l false) 31)).alloc (.cells (hrow 0 0 0 false) 31)) (w.heap.size + 2) (hrow 0 0 0 false)) :=
    ⟨((Bk.new w _ _ w.heap.size rfl).alloc _).alloc _, (Bk.new _ _ _ _ (by simp)).alloc _, Bk.new _ _ _ _ (by simp)⟩
  go_enter Try.func18, Try.ntmps18
  have p0 := HK0.out.1.cell 0 _ rfl
  have p1 := HK0.out.1.cell 1 _ rfl
  go_wp2_with fail
  refine (HP.out _).mono ?_
  rintro y w1 ⟨rfl, hb1⟩
  have HB1 : Hid (Below w.heap.size w w1) := HB0.out.trans (hb1.mono HB0.out.size)
  have HK1 : Hid (Bk w1 w.heap.size (prow 1 m) ∧ Bk w1 (w.heap.size + 1) (hrow f r l false) ∧ Bk w1 (w.heap.size + 2) (hrow 0 0 0 false)) := ⟨HK0.out.1.below hb1, HK0.out.2.1.below hb1, HK0.out.2.2.below hb1⟩
  clear hb1 HB0 HK0 p0 p1
  have g0 := HK1.out.2.1.cell 0 _ rfl
  have g1 := HK1.out.2.1.cell 1 _ rfl
  have g2 := HK1.out.2.1.cell 2 _ rfl
  have g3 := HK1.out.2.1.cell 3 _ rfl
  go_wp2_with fail
  refine (HH.out _).mono ?_
  rintro y w2 ⟨rfl, hb2⟩
  have HB2 : Hid (Below w.heap.size w w2) := HB1.out.trans (hb2.mono HB1.out.size)
  have HK2 : Hid (Bk w2 w.heap.size (prow 1 m) ∧ Bk w2 (w.heap.size + 1) (hrow f r l false) ∧ Bk w2 (w.heap.size + 2) (hrow 0 0 0 false)) := ⟨HK1.out.1.below hb2, HK1.out.2.1.below hb2, HK1.out.2.2.below hb2⟩
  clear hb2 HB1 HK1 g0 g1 g2 g3
  go_wp2_with fail
  refine (HN.out _).mono ?_
  rintro y w3 ⟨rfl, hb3⟩
  have HB3 : Hid (Below w.heap.size w w3) := HB2.out.trans (hb3.mono HB2.out.size)
  have HK3 : Hid (Bk w3 w.heap.size (prow 1 m) ∧ Bk w3 (w.heap.size + 1) (hrow f r l false) ∧ Bk w3 (w.heap.size + 2) (hrow 0 0 0 false)) := ⟨HK2.out.1.below hb3, HK2.out.2.1.below hb3, HK2.out.2.2.below hb3⟩
  clear hb3 HB2 HK2 HP HH HN
  have p0 := HK3.out.1.cell 0 _ rfl
  have p1 := HK3.out.1.cell 1 _ rfl
  have g0 := HK3.out.2.1.cell 0 _ rfl
  have g1 := HK3.out.2.1.cell 1 _ rfl
  have g2 := HK3.out.2.1.cell 2 _ rfl
  have g3 := HK3.out.2.1.cell 3 _ rfl
  have gf := HK3.out.2.1.free
  have J0 : Hid (Bk (w3.setCell ⟨w.heap.size + 1, 2, none⟩ (.int .i64 x)) w.heap.size (prow 1 m) ∧ Bk (w3.setCell ⟨w.heap.size + 1, 2, none⟩ (.int .i64 x)) (w.heap.size + 1) (hrow f r x false) ∧ Bk (w3.setCell ⟨w.heap.size + 1, 2, none⟩ (.int .i64 x)) (w.heap.size + 2) (hrow 0 0 0 false) ∧ Below w.heap.size w (w3.setCell ⟨w.heap.size + 1, 2, none⟩ (.int .i64 x))) :=
    ⟨HK3.out.1.other _ 2 _ (by omega), HK3.out.2.1.set 2 _ (by simp) rfl, HK3.out.2.2.other _ 2 _ (by omega), Below.setCell HB3.out (p := ⟨w.heap.size + 1, 2, none⟩) (Nat.le_succ _) _⟩
  have pp00 := J0.out.1.cell 0 _ rfl
  have pp01 := J0.out.1.cell 1 _ rfl
  have gg00 := J0.out.2.1.cell 0 _ rfl
  have gg01 := J0.out.2.1.cell 1 _ rfl
  have gg02 := J0.out.2.1.cell 2 _ rfl
  have gg03 := J0.out.2.1.cell 3 _ rfl
  have J1 : Hid (Bk ((w3.setCell ⟨w.heap.size + 1, 2, none⟩ (.int .i64 x)).setCell ⟨w.heap.size + 1, 3, none⟩ (.bool true)) w.heap.size (prow 1 m) ∧ Bk ((w3.setCell ⟨w.heap.size + 1, 2, none⟩ (.int .i64 x)).setCell ⟨w.heap.size + 1, 3, none⟩ (.bool true)) (w.heap.size + 1) (hrow f r x true) ∧ Bk ((w3.setCell ⟨w.heap.size + 1, 2, none⟩ (.int .i64 x)).setCell ⟨w.heap.size + 1, 3, none⟩ (.bool true)) (w.heap.size + 2) (hrow 0 0 0 false) ∧ Below w.heap.size w ((w3.setCell ⟨w.heap.size + 1, 2, none⟩ (.int .i64 x)).setCell ⟨w.heap.size + 1, 3, none⟩ (.bool true))) :=
    ⟨J0.out.1.other _ 3 _ (by omega), J0.out.2.1.set 3 _ (by simp) rfl, J0.out.2.2.1.other _ 3 _ (by omega), Below.setCell J0.out.2.2.2 (p := ⟨w.heap.size + 1, 3, none⟩) (Nat.le_succ _) _⟩
  have pp10 := J1.out.1.cell 0 _ rfl
  have pp11 := J1.out.1.cell 1 _ rfl
  have gg10 := J1.out.2.1.cell 0 _ rfl
  have gg11 := J1.out.2.1.cell 1 _ rfl
  have gg12 := J1.out.2.1.cell 2 _ rfl
  have gg13 := J1.out.2.1.cell 3 _ rfl
  have r0 := J1.out.2.2.1.cell 0 _ rfl
  have r1 := J1.out.2.2.1.cell 1 _ rfl
  have r2 := J1.out.2.2.1.cell 2 _ rfl
  have r3 := J1.out.2.2.1.cell 3 _ rfl
  have rf := J1.out.2.2.1.free
  go_wp2
  have k4 := bk4 J1.out.2.2.1 (.int .i64 f) (.int .i64 r) (.int .i64 x) (.bool true)
  have h4 := b4 (R := w.heap.size + 2) J1.out.2.2.2 (by omega) (.int .i64 f) (.int .i64 r) (.int .i64 x) (.bool true)
  clear p0 p1 g0 g1 g2 g3 gf r0 r1 r2 r3 rf HK3 HB3 pp00 pp01 gg00 gg01 gg02 gg03 J0 pp10 pp11 gg10 gg11 gg12 gg13 J1
  revert k4 h4
  generalize ((((((w3.setCell ⟨w.heap.size + 1, 2, none⟩ (.int .i64 x)).setCell ⟨w.heap.size + 1, 3, none⟩ (.bool true)).setCell ⟨w.heap.size + 2, 0, none⟩ (.int .i64 f)).setCell ⟨w.heap.size + 2, 1, none⟩ (.int .i64 r)).setCell ⟨w.heap.size + 2, 2, none⟩ (.int .i64 x)).setCell ⟨w.heap.size + 2, 3, none⟩ (.bool true)) = Wf
  intro k4 h4
  have q0 := k4.cell 0 _ rfl
  have q1 := k4.cell 1 _ rfl
  have q2 := k4.cell 2 _ rfl
  have q3 := k4.cell 3 _ rfl
  exact bodyPost_ret (v := .tuple #[hlt f r x true, .int .i64 1]) (by simp [results, Try.results18, go_sem, q0, q1, q2, q3]) rfl ⟨rfl, h4⟩
set_option maxHeartbeats 2000000 in
theorem spec_onf_221 (m f r l x : Int) (w : World) (h1 : polOk 2 m = true) (h2 : hltOk f r l = true) (h3 : inr x 1 9 = true) (hlt1 : f < 1000000000) :
    Calls Try.prog 18 #[pol 2 m, hlt f r l false, .int .i64 x] w fun e w' => e = .returned (.tuple #[hlt (f + 1) r x false, .int .i64 3]) ∧ Below w.heap.size w w' := by
  obtain ⟨⟨f0, f9⟩, r0', r9⟩ := hltOk_b h2
  have hwf := wrap1 f0 f9
  have hwr := wrap1 r0' r9
  have HP : Hid (∀ X, Calls Try.prog 9 #[pol 2 m] X fun e w' => e = .returned (.bool true) ∧ Below X.heap.size X w') := fun X => by rw [← h1]; exact spec_pok 2 m X
  have HH : Hid (∀ X, Calls Try.prog 12 #[hlt f r l false] X fun e w' => e = .returned (.bool true) ∧ Below X.heap.size X w') := fun X => by rw [← h2]; exact spec_hok f r l false X
  have HN : Hid (∀ X, Calls Try.prog 28 #[.int .i64 x, .int .i64 1, .int .i64 9] X fun e w' => e = .returned (.bool true) ∧ Below X.heap.size X w') := fun X => by rw [← h3]; exact (in_any x 1 9 X).mono fun e w' h => ⟨h.1, h.2 ▸ Below.refl _ _⟩
  clear h1 h2 h3
  have HB0 : Hid (Below w.heap.size w (((w.alloc (.cells (prow 2 m) 25)).alloc (.cells (hrow f r l false) 31)).alloc (.cells (hrow 0 0 0 false) 31))) := (((Below.refl _ w).alloc (Nat.le_refl _) _).alloc (by simp) _).alloc (by simp; omega) _
  have HK0 : Hid (Bk (((w.alloc (.cells (prow 2 m) 25)).alloc (.cells (hrow f r l false) 31)).alloc (.cells (hrow 0 0 0 false) 31)) w.heap.size (prow 2 m) ∧ Bk (((w.alloc (.cells (prow 2 m) 25)).alloc (.cells (hrow f r l false) 31)).alloc (.cells (hrow 0 0 0 false) 31)) (w.heap.size + 1) (hrow f r l false) ∧ Bk (((w.alloc (.cells (prow 2 m) 25)).alloc (.cells (hrow f r l false) 31)).alloc (.cells (hrow 0 0 0 false) 31)) (w.heap.size + 2) (hrow 0 0 0 false)) :=
    ⟨((Bk.new w _ _ w.heap.size rfl).alloc _).alloc _, (Bk.new _ _ _ _ (by simp)).alloc _, Bk.new _ _ _ _ (by simp)⟩
  go_enter Try.func18, Try.ntmps18
  have p0 := HK0.out.1.cell 0 _ rfl
  have p1 := HK0.out.1.cell 1 _ rfl
  go_wp2_with fail
  refine (HP.out _).mono ?_
  rintro y w1 ⟨rfl, hb1⟩
  have HB1 : Hid (Below w.heap.size w w1) := HB0.out.trans (hb1.mono HB0.out.size)
  have HK1 : Hid (Bk w1 w.heap.size (prow 2 m) ∧ Bk w1 (w.heap.size + 1) (hrow f r l false) ∧ Bk w1 (w.heap.size + 2) (hrow 0 0 0 false)) := ⟨HK0.out.1.below hb1, HK0.out.2.1.below hb1, HK0.out.2.2.below hb1⟩
  clear hb1 HB0 HK0 p0 p1
  have g0 := HK1.out.2.1.cell 0 _ rfl
  have g1 := HK1.out.2.1.cell 1 _ rfl
  have g2 := HK1.out.2.1.cell 2 _ rfl
  have g3 := HK1.out.2.1.cell 3 _ rfl
  go_wp2_with fail
  refine (HH.out _).mono ?_
  rintro y w2 ⟨rfl, hb2⟩
  have HB2 : Hid (Below w.heap.size w w2) := HB1.out.trans (hb2.mono HB1.out.size)
  have HK2 : Hid (Bk w2 w.heap.size (prow 2 m) ∧ Bk w2 (w.heap.size + 1) (hrow f r l false) ∧ Bk w2 (w.heap.size + 2) (hrow 0 0 0 false)) := ⟨HK1.out.1.below hb2, HK1.out.2.1.below hb2, HK1.out.2.2.below hb2⟩
  clear hb2 HB1 HK1 g0 g1 g2 g3
  go_wp2_with fail
  refine (HN.out _).mono ?_
  rintro y w3 ⟨rfl, hb3⟩
  have HB3 : Hid (Below w.heap.size w w3) := HB2.out.trans (hb3.mono HB2.out.size)
  have HK3 : Hid (Bk w3 w.heap.size (prow 2 m) ∧ Bk w3 (w.heap.size + 1) (hrow f r l false) ∧ Bk w3 (w.heap.size + 2) (hrow 0 0 0 false)) := ⟨HK2.out.1.below hb3, HK2.out.2.1.below hb3, HK2.out.2.2.below hb3⟩
  clear hb3 HB2 HK2 HP HH HN
  have p0 := HK3.out.1.cell 0 _ rfl
  have p1 := HK3.out.1.cell 1 _ rfl
  have g0 := HK3.out.2.1.cell 0 _ rfl
  have g1 := HK3.out.2.1.cell 1 _ rfl
  have g2 := HK3.out.2.1.cell 2 _ rfl
  have g3 := HK3.out.2.1.cell 3 _ rfl
  have gf := HK3.out.2.1.free
  have J0 : Hid (Bk (w3.setCell ⟨w.heap.size + 1, 0, none⟩ (.int .i64 (f + 1))) w.heap.size (prow 2 m) ∧ Bk (w3.setCell ⟨w.heap.size + 1, 0, none⟩ (.int .i64 (f + 1))) (w.heap.size + 1) (hrow (f + 1) r l false) ∧ Bk (w3.setCell ⟨w.heap.size + 1, 0, none⟩ (.int .i64 (f + 1))) (w.heap.size + 2) (hrow 0 0 0 false) ∧ Below w.heap.size w (w3.setCell ⟨w.heap.size + 1, 0, none⟩ (.int .i64 (f + 1)))) :=
    ⟨HK3.out.1.other _ 0 _ (by omega), HK3.out.2.1.set 0 _ (by simp) rfl, HK3.out.2.2.other _ 0 _ (by omega), Below.setCell HB3.out (p := ⟨w.heap.size + 1, 0, none⟩) (Nat.le_succ _) _⟩
  have pp00 := J0.out.1.cell 0 _ rfl
  have pp01 := J0.out.1.cell 1 _ rfl
  have gg00 := J0.out.2.1.cell 0 _ rfl
  have gg01 := J0.out.2.1.cell 1 _ rfl
  have gg02 := J0.out.2.1.cell 2 _ rfl
  have gg03 := J0.out.2.1.cell 3 _ rfl
  have J1 : Hid (Bk ((w3.setCell ⟨w.heap.size + 1, 0, none⟩ (.int .i64 (f + 1))).setCell ⟨w.heap.size + 1, 2, none⟩ (.int .i64 x)) w.heap.size (prow 2 m) ∧ Bk ((w3.setCell ⟨w.heap.size + 1, 0, none⟩ (.int .i64 (f + 1))).setCell ⟨w.heap.size + 1, 2, none⟩ (.int .i64 x)) (w.heap.size + 1) (hrow (f + 1) r x false) ∧ Bk ((w3.setCell ⟨w.heap.size + 1, 0, none⟩ (.int .i64 (f + 1))).setCell ⟨w.heap.size + 1, 2, none⟩ (.int .i64 x)) (w.heap.size + 2) (hrow 0 0 0 false) ∧ Below w.heap.size w ((w3.setCell ⟨w.heap.size + 1, 0, none⟩ (.int .i64 (f + 1))).setCell ⟨w.heap.size + 1, 2, none⟩ (.int .i64 x))) :=
    ⟨J0.out.1.other _ 2 _ (by omega), J0.out.2.1.set 2 _ (by simp) rfl, J0.out.2.2.1.other _ 2 _ (by omega), Below.setCell J0.out.2.2.2 (p := ⟨w.heap.size + 1, 2, none⟩) (Nat.le_succ _) _⟩
  have pp10 := J1.out.1.cell 0 _ rfl
  have pp11 := J1.out.1.cell 1 _ rfl
  have gg10 := J1.out.2.1.cell 0 _ rfl
  have gg11 := J1.out.2.1.cell 1 _ rfl
  have gg12 := J1.out.2.1.cell 2 _ rfl
  have gg13 := J1.out.2.1.cell 3 _ rfl
  have r0 := J1.out.2.2.1.cell 0 _ rfl
  have r1 := J1.out.2.2.1.cell 1 _ rfl
  have r2 := J1.out.2.2.1.cell 2 _ rfl
  have r3 := J1.out.2.2.1.cell 3 _ rfl
  have rf := J1.out.2.2.1.free
  go_wp2
  have k4 := bk4 J1.out.2.2.1 (.int .i64 (f + 1)) (.int .i64 r) (.int .i64 x) (.bool false)
  have h4 := b4 (R := w.heap.size + 2) J1.out.2.2.2 (by omega) (.int .i64 (f + 1)) (.int .i64 r) (.int .i64 x) (.bool false)
  clear p0 p1 g0 g1 g2 g3 gf r0 r1 r2 r3 rf HK3 HB3 pp00 pp01 gg00 gg01 gg02 gg03 J0 pp10 pp11 gg10 gg11 gg12 gg13 J1
  revert k4 h4
  generalize ((((((w3.setCell ⟨w.heap.size + 1, 0, none⟩ (.int .i64 (f + 1))).setCell ⟨w.heap.size + 1, 2, none⟩ (.int .i64 x)).setCell ⟨w.heap.size + 2, 0, none⟩ (.int .i64 (f + 1))).setCell ⟨w.heap.size + 2, 1, none⟩ (.int .i64 r)).setCell ⟨w.heap.size + 2, 2, none⟩ (.int .i64 x)).setCell ⟨w.heap.size + 2, 3, none⟩ (.bool false)) = Wf
  intro k4 h4
  have q0 := k4.cell 0 _ rfl
  have q1 := k4.cell 1 _ rfl
  have q2 := k4.cell 2 _ rfl
  have q3 := k4.cell 3 _ rfl
  exact bodyPost_ret (v := .tuple #[hlt (f + 1) r x false, .int .i64 3]) (by simp [results, Try.results18, go_sem, q0, q1, q2, q3]) rfl ⟨rfl, h4⟩
set_option maxHeartbeats 2000000 in
theorem spec_onf_220 (m f r l x : Int) (w : World) (h1 : polOk 2 m = true) (h2 : hltOk f r l = true) (h3 : inr x 1 9 = true) (hlt1 : ¬ f < 1000000000) :
    Calls Try.prog 18 #[pol 2 m, hlt f r l false, .int .i64 x] w fun e w' => e = .returned (.tuple #[hlt f r x false, .int .i64 3]) ∧ Below w.heap.size w w' := by
  obtain ⟨⟨f0, f9⟩, r0', r9⟩ := hltOk_b h2
  have hwf := wrap1 f0 f9
  have hwr := wrap1 r0' r9
  have HP : Hid (∀ X, Calls Try.prog 9 #[pol 2 m] X fun e w' => e = .returned (.bool true) ∧ Below X.heap.size X w') := fun X => by rw [← h1]; exact spec_pok 2 m X
  have HH : Hid (∀ X, Calls Try.prog 12 #[hlt f r l false] X fun e w' => e = .returned (.bool true) ∧ Below X.heap.size X w') := fun X => by rw [← h2]; exact spec_hok f r l false X
  have HN : Hid (∀ X, Calls Try.prog 28 #[.int .i64 x, .int .i64 1, .int .i64 9] X fun e w' => e = .returned (.bool true) ∧ Below X.heap.size X w') := fun X => by rw [← h3]; exact (in_any x 1 9 X).mono fun e w' h => ⟨h.1, h.2 ▸ Below.refl _ _⟩
  clear h1 h2 h3
  have HB0 : Hid (Below w.heap.size w (((w.alloc (.cells (prow 2 m) 25)).alloc (.cells (hrow f r l false) 31)).alloc (.cells (hrow 0 0 0 false) 31))) := (((Below.refl _ w).alloc (Nat.le_refl _) _).alloc (by simp) _).alloc (by simp; omega) _
  have HK0 : Hid (Bk (((w.alloc (.cells (prow 2 m) 25)).alloc (.cells (hrow f r l false) 31)).alloc (.cells (hrow 0 0 0 false) 31)) w.heap.size (prow 2 m) ∧ Bk (((w.alloc (.cells (prow 2 m) 25)).alloc (.cells (hrow f r l false) 31)).alloc (.cells (hrow 0 0 0 false) 31)) (w.heap.size + 1) (hrow f r l false) ∧ Bk (((w.alloc (.cells (prow 2 m) 25)).alloc (.cells (hrow f r l false) 31)).alloc (.cells (hrow 0 0 0 false) 31)) (w.heap.size + 2) (hrow 0 0 0 false)) :=
    ⟨((Bk.new w _ _ w.heap.size rfl).alloc _).alloc _, (Bk.new _ _ _ _ (by simp)).alloc _, Bk.new _ _ _ _ (by simp)⟩
  go_enter Try.func18, Try.ntmps18
  have p0 := HK0.out.1.cell 0 _ rfl
  have p1 := HK0.out.1.cell 1 _ rfl
  go_wp2_with fail
  refine (HP.out _).mono ?_
  rintro y w1 ⟨rfl, hb1⟩
  have HB1 : Hid (Below w.heap.size w w1) := HB0.out.trans (hb1.mono HB0.out.size)
  have HK1 : Hid (Bk w1 w.heap.size (prow 2 m) ∧ Bk w1 (w.heap.size + 1) (hrow f r l false) ∧ Bk w1 (w.heap.size + 2) (hrow 0 0 0 false)) := ⟨HK0.out.1.below hb1, HK0.out.2.1.below hb1, HK0.out.2.2.below hb1⟩
  clear hb1 HB0 HK0 p0 p1
  have g0 := HK1.out.2.1.cell 0 _ rfl
  have g1 := HK1.out.2.1.cell 1 _ rfl
  have g2 := HK1.out.2.1.cell 2 _ rfl
  have g3 := HK1.out.2.1.cell 3 _ rfl
  go_wp2_with fail
  refine (HH.out _).mono ?_
  rintro y w2 ⟨rfl, hb2⟩
  have HB2 : Hid (Below w.heap.size w w2) := HB1.out.trans (hb2.mono HB1.out.size)
  have HK2 : Hid (Bk w2 w.heap.size (prow 2 m) ∧ Bk w2 (w.heap.size + 1) (hrow f r l false) ∧ Bk w2 (w.heap.size + 2) (hrow 0 0 0 false)) := ⟨HK1.out.1.below hb2, HK1.out.2.1.below hb2, HK1.out.2.2.below hb2⟩
  clear hb2 HB1 HK1 g0 g1 g2 g3
  go_wp2_with fail
  refine (HN.out _).mono ?_
  rintro y w3 ⟨rfl, hb3⟩
  have HB3 : Hid (Below w.heap.size w w3) := HB2.out.trans (hb3.mono HB2.out.size)
  have HK3 : Hid (Bk w3 w.heap.size (prow 2 m) ∧ Bk w3 (w.heap.size + 1) (hrow f r l false) ∧ Bk w3 (w.heap.size + 2) (hrow 0 0 0 false)) := ⟨HK2.out.1.below hb3, HK2.out.2.1.below hb3, HK2.out.2.2.below hb3⟩
  clear hb3 HB2 HK2 HP HH HN
  have p0 := HK3.out.1.cell 0 _ rfl
  have p1 := HK3.out.1.cell 1 _ rfl
  have g0 := HK3.out.2.1.cell 0 _ rfl
  have g1 := HK3.out.2.1.cell 1 _ rfl
  have g2 := HK3.out.2.1.cell 2 _ rfl
  have g3 := HK3.out.2.1.cell 3 _ rfl
  have gf := HK3.out.2.1.free
  have J0 : Hid (Bk (w3.setCell ⟨w.heap.size + 1, 2, none⟩ (.int .i64 x)) w.heap.size (prow 2 m) ∧ Bk (w3.setCell ⟨w.heap.size + 1, 2, none⟩ (.int .i64 x)) (w.heap.size + 1) (hrow f r x false) ∧ Bk (w3.setCell ⟨w.heap.size + 1, 2, none⟩ (.int .i64 x)) (w.heap.size + 2) (hrow 0 0 0 false) ∧ Below w.heap.size w (w3.setCell ⟨w.heap.size + 1, 2, none⟩ (.int .i64 x))) :=
    ⟨HK3.out.1.other _ 2 _ (by omega), HK3.out.2.1.set 2 _ (by simp) rfl, HK3.out.2.2.other _ 2 _ (by omega), Below.setCell HB3.out (p := ⟨w.heap.size + 1, 2, none⟩) (Nat.le_succ _) _⟩
  have pp00 := J0.out.1.cell 0 _ rfl
  have pp01 := J0.out.1.cell 1 _ rfl
  have gg00 := J0.out.2.1.cell 0 _ rfl
  have gg01 := J0.out.2.1.cell 1 _ rfl
  have gg02 := J0.out.2.1.cell 2 _ rfl
  have gg03 := J0.out.2.1.cell 3 _ rfl
  have r0 := J0.out.2.2.1.cell 0 _ rfl
  have r1 := J0.out.2.2.1.cell 1 _ rfl
  have r2 := J0.out.2.2.1.cell 2 _ rfl
  have r3 := J0.out.2.2.1.cell 3 _ rfl
  have rf := J0.out.2.2.1.free
  go_wp2
  have k4 := bk4 J0.out.2.2.1 (.int .i64 f) (.int .i64 r) (.int .i64 x) (.bool false)
  have h4 := b4 (R := w.heap.size + 2) J0.out.2.2.2 (by omega) (.int .i64 f) (.int .i64 r) (.int .i64 x) (.bool false)
  clear p0 p1 g0 g1 g2 g3 gf r0 r1 r2 r3 rf HK3 HB3 pp00 pp01 gg00 gg01 gg02 gg03 J0
  revert k4 h4
  generalize (((((w3.setCell ⟨w.heap.size + 1, 2, none⟩ (.int .i64 x)).setCell ⟨w.heap.size + 2, 0, none⟩ (.int .i64 f)).setCell ⟨w.heap.size + 2, 1, none⟩ (.int .i64 r)).setCell ⟨w.heap.size + 2, 2, none⟩ (.int .i64 x)).setCell ⟨w.heap.size + 2, 3, none⟩ (.bool false)) = Wf
  intro k4 h4
  have q0 := k4.cell 0 _ rfl
  have q1 := k4.cell 1 _ rfl
  have q2 := k4.cell 2 _ rfl
  have q3 := k4.cell 3 _ rfl
  exact bodyPost_ret (v := .tuple #[hlt f r x false, .int .i64 3]) (by simp [results, Try.results18, go_sem, q0, q1, q2, q3]) rfl ⟨rfl, h4⟩
theorem spec_onf (k m f r l x : Int) (b : Bool) (v : Value) (w : World) (hv : onV k m f r l b x = v) : Calls Try.prog 18 #[pol k m, hlt f r l b, .int .i64 x] w fun e w' => e = .returned v ∧ Below w.heap.size w w' := by
  unfold onV at hv
  cases hn : (polOk k m && (hltOk f r l && (inr x 1 9 && !b)))
  · rw [hn] at hv
    simp only [Bool.false_eq_true, if_false] at hv
    subst hv
    exact spec_onf_no k m f r l x b w hn
  · rw [hn] at hv
    simp only [if_true] at hv
    simp only [Bool.and_eq_true, Bool.not_eq_true'] at hn
    obtain ⟨h1, h2, h3, rfl⟩ := hn
    subst hv
    rcases polOk_k h1 with rfl | rfl | rfl
    · by_cases hlt1 : f < 1000000000
      · have e : trF 0 m (oneF f) r x false = .tuple #[hlt (f + 1) r x true, .int .i64 1] := by simp [trF, oneF, hlt1]
        rw [e]; exact spec_onf_001 m f r l x w h1 h2 h3 hlt1
      · have e : trF 0 m (oneF f) r x false = .tuple #[hlt f r x true, .int .i64 1] := by simp [trF, oneF, hlt1]
        rw [e]; exact spec_onf_000 m f r l x w h1 h2 h3 hlt1
    · by_cases hrm : r < m
      · by_cases hlt1 : f < 1000000000
        · have e : trF 1 m (oneF f) r x false = .tuple #[hlt (f + 1) (r + 1) x false, .int .i64 2] := by simp [trF, oneF, hlt1, hrm]
          rw [e]; exact spec_onf_111 m f r l x w h1 h2 h3 hlt1 hrm
        · have e : trF 1 m (oneF f) r x false = .tuple #[hlt f (r + 1) x false, .int .i64 2] := by simp [trF, oneF, hlt1, hrm]
          rw [e]; exact spec_onf_110 m f r l x w h1 h2 h3 hlt1 hrm
      · by_cases hlt1 : f < 1000000000
        · have e : trF 1 m (oneF f) r x false = .tuple #[hlt (f + 1) r x true, .int .i64 1] := by simp [trF, oneF, hlt1, hrm]
          rw [e]; exact spec_onf_131 m f r l x w h1 h2 h3 hlt1 hrm
        · have e : trF 1 m (oneF f) r x false = .tuple #[hlt f r x true, .int .i64 1] := by simp [trF, oneF, hlt1, hrm]
          rw [e]; exact spec_onf_130 m f r l x w h1 h2 h3 hlt1 hrm
    · by_cases hlt1 : f < 1000000000
      · have e : trF 2 m (oneF f) r x false = .tuple #[hlt (f + 1) r x false, .int .i64 3] := by simp [trF, oneF, hlt1]
        rw [e]; exact spec_onf_221 m f r l x w h1 h2 h3 hlt1
      · have e : trF 2 m (oneF f) r x false = .tuple #[hlt f r x false, .int .i64 3] := by simp [trF, oneF, hlt1]
        rw [e]; exact spec_onf_220 m f r l x w h1 h2 h3 hlt1
end Go.Proofs.Ytnjjjcmomjcmfaa
