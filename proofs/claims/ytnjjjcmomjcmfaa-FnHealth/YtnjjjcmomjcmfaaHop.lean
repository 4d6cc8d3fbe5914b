
/-
  What a restart by hand does to a health, the specification's and the program's own: the same at every argument. No conditions.
-/
import Derived.Test.YtnjjjcmomjcmfaaRows
import Derived.Test.YtnjjjcmomjcmfaaHpk
import Derived.Test.YtnjjjcmomjcmfaaWys
namespace Go.Proofs.Ytnjjjcmomjcmfaa
open Go.ChangeShapes Go.WideShapes Go.ChangeAt Go.RowKit Go.Deep
set_option linter.unusedVariables false

theorem bk4 {w : World} {R : Nat} {x0 x1 x2 x3 : Value} (h : Bk w R #[x0, x1, x2, x3]) (a0 a1 a2 a3 : Value) : Bk ((((w.setCell ⟨R, 0, none⟩ a0).setCell ⟨R, 1, none⟩ a1).setCell ⟨R, 2, none⟩ a2).setCell ⟨R, 3, none⟩ a3) R #[a0, a1, a2, a3] := by
  have g0 := h.set 0 a0 (by simp) (cs' := #[a0, x1, x2, x3]) rfl
  have g1 := g0.set 1 a1 (by simp) (cs' := #[a0, a1, x2, x3]) rfl
  have g2 := g1.set 2 a2 (by simp) (cs' := #[a0, a1, a2, x3]) rfl
  exact g2.set 3 a3 (by simp) rfl
theorem b4 {m : Nat} {w0 w : World} {R : Nat} (h : Below m w0 w) (hR : m ≤ R) (a0 a1 a2 a3 : Value) : Below m w0 ((((w.setCell ⟨R, 0, none⟩ a0).setCell ⟨R, 1, none⟩ a1).setCell ⟨R, 2, none⟩ a2).setCell ⟨R, 3, none⟩ a3) :=
  Below.setCell (Below.setCell (Below.setCell (Below.setCell h (p := ⟨R, 0, none⟩) hR a0) (p := ⟨R, 1, none⟩) hR a1) (p := ⟨R, 2, none⟩) hR a2) (p := ⟨R, 3, none⟩) hR a3
theorem o4 {w : World} {R b : Nat} {cs : Array Value} (h : Bk w b cs) (hn : R ≠ b) (a0 a1 a2 a3 : Value) : Bk ((((w.setCell ⟨R, 0, none⟩ a0).setCell ⟨R, 1, none⟩ a1).setCell ⟨R, 2, none⟩ a2).setCell ⟨R, 3, none⟩ a3) b cs :=
  (((h.other R 0 a0 hn).other R 1 a1 hn).other R 2 a2 hn).other R 3 a3 hn
/-- What 'Operator' leaves. -/
def opF (f r l : Int) : Int × Int := if hltOk f r l then (f, r) else (0, 0)
set_option maxHeartbeats 1000000 in
theorem spec_oper (f r l : Int) (h : Bool) (f' r' : Int) (w : World) (hq : opF f r l = (f', r')) : Calls Try.prog 15 #[hlt f r l h] w fun e w' => e = .returned (hlt f' r' 0 false) ∧ Below w.heap.size w w' := by
  have hb : Hid (Below w.heap.size w ((w.alloc (.cells (hrow f r l h) 31)).alloc (.cells (hrow 0 0 0 false) 31))) := ((Below.refl _ w).alloc (Nat.le_refl _) _).alloc (by simp) _
  have HK : Hid (Bk ((w.alloc (.cells (hrow f r l h) 31)).alloc (.cells (hrow 0 0 0 false) 31)) w.heap.size (hrow f r l h) ∧ Bk ((w.alloc (.cells (hrow f r l h) 31)).alloc (.cells (hrow 0 0 0 false) 31)) (w.heap.size + 1) (hrow 0 0 0 false)) :=
    ⟨(Bk.new w _ _ w.heap.size rfl).alloc _, Bk.new _ _ _ _ (by simp)⟩
  obtain ⟨q, HQ⟩ : ∃ q, hltOk f r l = q := ⟨_, rfl⟩
  have HH : Hid (∀ X, Calls Try.prog 12 #[hlt f r l h] X fun e w' => e = .returned (.bool q) ∧ Below X.heap.size X w') := fun X => by rw [← HQ]; exact spec_hok f r l h X
  have HE : Hid ((if q then (f, r) else (0, 0)) = (f', r')) := by unfold opF at hq; rw [HQ] at hq; exact hq
  clear HQ hq
  go_enter Try.func15, Try.ntmps15
  go_wp2_with fail
  refine (HH.out _).mono ?_
  rintro x w1 ⟨rfl, hb1⟩
  have HB : Hid (Below w.heap.size w w1) := hb.out.trans (hb1.mono hb.out.size)
  have K1 : Hid (Bk w1 w.heap.size (hrow f r l h) ∧ Bk w1 (w.heap.size + 1) (hrow 0 0 0 false)) := ⟨HK.out.1.below hb1, HK.out.2.below hb1⟩
  clear hb hb1 HK HH
  have g0 := K1.out.1.cell 0 _ rfl
  have g1 := K1.out.1.cell 1 _ rfl
  have r0 := K1.out.2.cell 0 _ rfl
  have r1 := K1.out.2.cell 1 _ rfl
  have r2 := K1.out.2.cell 2 _ rfl
  have r3 := K1.out.2.cell 3 _ rfl
  have rf := K1.out.2.free
  cases q
  · injection HE.out with e1 e2
    subst e1 e2
    go_wp2
    have k4 := bk4 K1.out.2 (.int .i64 0) (.int .i64 0) (.int .i64 0) (.bool false)
    have h4 := b4 (R := w.heap.size + 1) HB.out (Nat.le_succ _) (.int .i64 0) (.int .i64 0) (.int .i64 0) (.bool false)
    clear g0 g1 r0 r1 r2 r3 rf K1 HB HE
    revert k4 h4
    generalize ((((w1.setCell ⟨w.heap.size + 1, 0, none⟩ (.int .i64 0)).setCell ⟨w.heap.size + 1, 1, none⟩ (.int .i64 0)).setCell ⟨w.heap.size + 1, 2, none⟩ (.int .i64 0)).setCell ⟨w.heap.size + 1, 3, none⟩ (.bool false)) = Wf
    intro k4 h4
    have q0 := k4.cell 0 _ rfl
    have q1 := k4.cell 1 _ rfl
    have q2 := k4.cell 2 _ rfl
    have q3 := k4.cell 3 _ rfl
    exact bodyPost_ret (v := hlt 0 0 0 false) (by simp [results, Try.results15, go_sem, q0, q1, q2, q3]) rfl ⟨rfl, h4⟩
  · injection HE.out with e1 e2
    subst e1 e2
    go_wp2
    have k4 := bk4 K1.out.2 (.int .i64 f) (.int .i64 r) (.int .i64 0) (.bool false)
    have h4 := b4 (R := w.heap.size + 1) HB.out (Nat.le_succ _) (.int .i64 f) (.int .i64 r) (.int .i64 0) (.bool false)
    clear g0 g1 r0 r1 r2 r3 rf K1 HB HE
    revert k4 h4
    generalize ((((w1.setCell ⟨w.heap.size + 1, 0, none⟩ (.int .i64 f)).setCell ⟨w.heap.size + 1, 1, none⟩ (.int .i64 r)).setCell ⟨w.heap.size + 1, 2, none⟩ (.int .i64 0)).setCell ⟨w.heap.size + 1, 3, none⟩ (.bool false)) = Wf
    intro k4 h4
    have q0 := k4.cell 0 _ rfl
    have q1 := k4.cell 1 _ rfl
    have q2 := k4.cell 2 _ rfl
    have q3 := k4.cell 3 _ rfl
    exact bodyPost_ret (v := hlt f r 0 false) (by simp [results, Try.results15, go_sem, q0, q1, q2, q3]) rfl ⟨rfl, h4⟩
set_option maxHeartbeats 1000000 in
theorem impl_oper (f r l : Int) (h : Bool) (f' r' : Int) (w : World) (hq : opF f r l = (f', r')) : Calls Try.prog 16 #[hlt f r l h] w fun e w' => e = .returned (hlt f' r' 0 false) ∧ Below w.heap.size w w' := by
  have hb : Hid (Below w.heap.size w ((w.alloc (.cells (hrow f r l h) 31)).alloc (.cells (hrow 0 0 0 false) 31))) := ((Below.refl _ w).alloc (Nat.le_refl _) _).alloc (by simp) _
  have HK : Hid (Bk ((w.alloc (.cells (hrow f r l h) 31)).alloc (.cells (hrow 0 0 0 false) 31)) w.heap.size (hrow f r l h) ∧ Bk ((w.alloc (.cells (hrow f r l h) 31)).alloc (.cells (hrow 0 0 0 false) 31)) (w.heap.size + 1) (hrow 0 0 0 false)) :=
    ⟨(Bk.new w _ _ w.heap.size rfl).alloc _, Bk.new _ _ _ _ (by simp)⟩
  obtain ⟨q, HQ⟩ : ∃ q, hltOk f r l = q := ⟨_, rfl⟩
  have HH : Hid (∀ X, Calls Try.prog 14 #[hlt f r l h] X fun e w' => e = .returned (.bool q) ∧ Below X.heap.size X w') := fun X => by rw [← HQ]; exact impl_hok f r l h X
  have HE : Hid ((if q then (f, r) else (0, 0)) = (f', r')) := by unfold opF at hq; rw [HQ] at hq; exact hq
  clear HQ hq
  go_enter Try.func16, Try.ntmps16
  go_wp2_with fail
  refine (HH.out _).mono ?_
  rintro x w1 ⟨rfl, hb1⟩
  have HB : Hid (Below w.heap.size w w1) := hb.out.trans (hb1.mono hb.out.size)
  have K1 : Hid (Bk w1 w.heap.size (hrow f r l h) ∧ Bk w1 (w.heap.size + 1) (hrow 0 0 0 false)) := ⟨HK.out.1.below hb1, HK.out.2.below hb1⟩
  clear hb hb1 HK HH
  have g0 := K1.out.1.cell 0 _ rfl
  have g1 := K1.out.1.cell 1 _ rfl
  have g2 := K1.out.1.cell 2 _ rfl
  have g3 := K1.out.1.cell 3 _ rfl
  have gf := K1.out.1.free
  have r0 := K1.out.2.cell 0 _ rfl
  have r1 := K1.out.2.cell 1 _ rfl
  have r2 := K1.out.2.cell 2 _ rfl
  have r3 := K1.out.2.cell 3 _ rfl
  have rf := K1.out.2.free
  cases q
  · injection HE.out with e1 e2
    subst e1 e2
    go_wp2
    have k4 := bk4 K1.out.2 (.int .i64 0) (.int .i64 0) (.int .i64 0) (.bool false)
    have h4 := b4 (R := w.heap.size + 1) HB.out (Nat.le_succ _) (.int .i64 0) (.int .i64 0) (.int .i64 0) (.bool false)
    clear g0 g1 g2 g3 gf r0 r1 r2 r3 rf K1 HB HE
    revert k4 h4
    generalize ((((w1.setCell ⟨w.heap.size + 1, 0, none⟩ (.int .i64 0)).setCell ⟨w.heap.size + 1, 1, none⟩ (.int .i64 0)).setCell ⟨w.heap.size + 1, 2, none⟩ (.int .i64 0)).setCell ⟨w.heap.size + 1, 3, none⟩ (.bool false)) = Wf
    intro k4 h4
    have q0 := k4.cell 0 _ rfl
    have q1 := k4.cell 1 _ rfl
    have q2 := k4.cell 2 _ rfl
    have q3 := k4.cell 3 _ rfl
    exact bodyPost_ret (v := hlt 0 0 0 false) (by simp [results, Try.results16, go_sem, q0, q1, q2, q3]) rfl ⟨rfl, h4⟩
  · injection HE.out with e1 e2
    subst e1 e2
    have K2 : Hid (Bk ((w1.setCell ⟨w.heap.size, 3, none⟩ (.bool false)).setCell ⟨w.heap.size, 2, none⟩ (.int .i64 0)) w.heap.size (hrow f r 0 false) ∧ Bk ((w1.setCell ⟨w.heap.size, 3, none⟩ (.bool false)).setCell ⟨w.heap.size, 2, none⟩ (.int .i64 0)) (w.heap.size + 1) (hrow 0 0 0 false)) :=
      ⟨(K1.out.1.set 3 (.bool false) (by simp) (cs' := hrow f r l false) rfl).set 2 (.int .i64 0) (by simp) rfl, (K1.out.2.other _ 3 _ (by omega)).other _ 2 _ (by omega)⟩
    have HB2 : Hid (Below w.heap.size w ((w1.setCell ⟨w.heap.size, 3, none⟩ (.bool false)).setCell ⟨w.heap.size, 2, none⟩ (.int .i64 0))) := Below.setCell (Below.setCell HB.out (p := ⟨w.heap.size, 3, none⟩) (Nat.le_refl _) _) (p := ⟨w.heap.size, 2, none⟩) (Nat.le_refl _) _
    have u0 := K2.out.1.cell 0 _ rfl
    have u1 := K2.out.1.cell 1 _ rfl
    have u2 := K2.out.1.cell 2 _ rfl
    have u3 := K2.out.1.cell 3 _ rfl
    have v0 := K2.out.2.cell 0 _ rfl
    have v1 := K2.out.2.cell 1 _ rfl
    have v2 := K2.out.2.cell 2 _ rfl
    have v3 := K2.out.2.cell 3 _ rfl
    have vf := K2.out.2.free
    go_wp2
    have k4 := bk4 K2.out.2 (.int .i64 f) (.int .i64 r) (.int .i64 0) (.bool false)
    have h4 := b4 (R := w.heap.size + 1) HB2.out (Nat.le_succ _) (.int .i64 f) (.int .i64 r) (.int .i64 0) (.bool false)
    clear g0 g1 g2 g3 gf r0 r1 r2 r3 rf K1 HB K2 HB2 HE u0 u1 u2 u3 v0 v1 v2 v3 vf
    revert k4 h4
    generalize (((((((w1.setCell ⟨w.heap.size, 3, none⟩ (.bool false)).setCell ⟨w.heap.size, 2, none⟩ (.int .i64 0))).setCell ⟨w.heap.size + 1, 0, none⟩ (.int .i64 f)).setCell ⟨w.heap.size + 1, 1, none⟩ (.int .i64 r)).setCell ⟨w.heap.size + 1, 2, none⟩ (.int .i64 0)).setCell ⟨w.heap.size + 1, 3, none⟩ (.bool false)) = Wf
    intro k4 h4
    have q0 := k4.cell 0 _ rfl
    have q1 := k4.cell 1 _ rfl
    have q2 := k4.cell 2 _ rfl
    have q3 := k4.cell 3 _ rfl
    exact bodyPost_ret (v := hlt f r 0 false) (by simp [results, Try.results16, go_sem, q0, q1, q2, q3]) rfl ⟨rfl, h4⟩
end Go.Proofs.Ytnjjjcmomjcmfaa
