
/-
  A fault noted, a guest halted or restarted, and what a right policy does: the program's own steps on a health. Conditions: counts are in 0 .. 1000000000 where one more is counted.
-/
import Derived.Test.YtnjjjcmomjcmfaaRows
import Derived.Test.YtnjjjcmomjcmfaaHop
namespace Go.Proofs.Ytnjjjcmomjcmfaa
open Go.ChangeShapes Go.WideShapes Go.ChangeAt Go.RowKit Go.Deep
set_option linter.unusedVariables false

theorem wrap1 {x : Int} (h0 : 0 ≤ x) (h1 : x ≤ 1000000000) : IntKind.i64.wrap (x + 1) = x + 1 := by rw [IntKind.wrap_i64]; omega
/-- One fault more, at most 1000000000. -/
def oneF (f : Int) : Int := if f < 1000000000 then f + 1 else f
theorem oneF_lt {f : Int} (h : f + 1 ≤ 1000000000) : f + 1 = oneF f := by unfold oneF; split <;> omega
theorem oneF_ge {f : Int} (h : 1000000000 < f + 1) (h1 : f ≤ 1000000000) : 1000000000 = oneF f := by unfold oneF; split <;> omega
set_option maxHeartbeats 1000000 in
theorem noted_i (f r l x g : Int) (b : Bool) (w : World) (h0 : 0 ≤ f) (h1 : f ≤ 1000000000) (hg : Hid (oneF f = g)) : Calls Try.prog 32 #[hlt f r l b, .int .i64 x] w fun e w' => e = .returned (hlt g r x b) ∧ Below w.heap.size w w' := by
  have hw := wrap1 h0 h1
  go_enter Try.func32, Try.ntmps32
  go_wp2
  · have e : (1000000000 : Int) = g := (oneF_ge h h1).trans hg.out
    rw [e]
    exact bodyPost_ret (v := hlt g r x _) (by simp [results, Try.results32, go_sem]) rfl ⟨rfl, ((Below.refl _ _).alloc (Nat.le_refl _) _).alloc (by simp) _⟩
  · have e : f + 1 = g := (oneF_lt h).trans hg.out
    rw [e]
    exact bodyPost_ret (v := hlt g r x _) (by simp [results, Try.results32, go_sem]) rfl ⟨rfl, ((Below.refl _ _).alloc (Nat.le_refl _) _).alloc (by simp) _⟩
set_option maxHeartbeats 1000000 in
theorem halted_i (f r l : Int) (h : Bool) (w : World) : Calls Try.prog 40 #[hlt f r l h] w fun e w' => e = .returned (.tuple #[hlt f r l true, .int .i64 1]) ∧ Below w.heap.size w w' := by
  go_enter Try.func40, Try.ntmps40
  go_wp2
  exact bodyPost_ret (v := .tuple #[hlt f r l true, .int .i64 1]) (by simp [results, Try.results40, go_sem]) rfl ⟨rfl, ((Below.refl _ _).alloc (Nat.le_refl _) _).alloc (by simp) _⟩
set_option maxHeartbeats 1000000 in
theorem restarted_i (f r l : Int) (h : Bool) (w : World) (h0 : 0 ≤ r) (h1 : r ≤ 1000000000) : Calls Try.prog 39 #[hlt f r l h] w fun e w' => e = .returned (.tuple #[hlt f (r + 1) l h, .int .i64 2]) ∧ Below w.heap.size w w' := by
  have hw := wrap1 h0 h1
  go_enter Try.func39, Try.ntmps39
  go_wp2
  exact bodyPost_ret (v := .tuple #[hlt f (r + 1) l h, .int .i64 2]) (by simp [results, Try.results39, go_sem]) rfl ⟨rfl, ((Below.refl _ _).alloc (Nat.le_refl _) _).alloc (by simp) _⟩
/-- What a right policy does with a fault that is noted: the health behind it and the act. -/
def trF (k m f r l : Int) (h : Bool) : Value := if k = 2 then .tuple #[hlt f r l h, .int .i64 3] else if k = 1 ∧ r < m then .tuple #[hlt f (r + 1) l h, .int .i64 2] else .tuple #[hlt f r l true, .int .i64 1]
theorem info66 : (Try.prog.info? 66).map (fun i => i.zero) = some (some (.agg #[])) := by kernel_rfl
theorem info67 : (Try.prog.info? 67).map (fun i => i.zero) = some (some (.agg #[])) := by kernel_rfl
theorem as_hit66 (w : World) : (Instr.typeAssert (.iface 66 (.agg #[])) 52 66 true).run Try.prog w = .ok (.tuple #[.agg #[], .bool true]) w := by
  simp [Instr.typeAssert, run_underlying Try.underlying66]
theorem as_hit67 (w : World) : (Instr.typeAssert (.iface 67 (.agg #[])) 52 67 true).run Try.prog w = .ok (.tuple #[.agg #[], .bool true]) w := by
  simp [Instr.typeAssert, run_underlying Try.underlying67]
theorem as_miss67 (T : TypeId) (w : World) (hT : ¬ T = 67) : (Instr.typeAssert (.iface T (.agg #[])) 52 67 true).run Try.prog w = .ok (.tuple #[.agg #[], .bool false]) w := by
  obtain ⟨i, hi, hz⟩ := Option.map_eq_some_iff.1 info67
  simp [Instr.typeAssert, run_underlying Try.underlying67, zeroValue, typeInfo, hi, hz, hT]
theorem as_miss66 (T : TypeId) (w : World) (hT : ¬ T = 66) : (Instr.typeAssert (.iface T (.agg #[])) 52 66 true).run Try.prog w = .ok (.tuple #[.agg #[], .bool false]) w := by
  obtain ⟨i, hi, hz⟩ := Option.map_eq_some_iff.1 info66
  simp [Instr.typeAssert, run_underlying Try.underlying66, zeroValue, typeInfo, hi, hz, hT]
set_option maxHeartbeats 1000000 in
theorem treated_i (k m f r l : Int) (b : Bool) (v : Value) (w : World) (hk : k = 0 ∨ k = 1 ∨ k = 2) (h0 : 0 ≤ r) (h1 : r ≤ 1000000000) (hv : trF k m f r l b = v) : Calls Try.prog 33 #[hlt f r l b, pol k m] w fun e w' => e = .returned v ∧ Below w.heap.size w w' := by
  have HB : Hid (Below w.heap.size w (((w.alloc (.cells (hrow f r l b) 31)).alloc (.cells (prow k m) 25)).alloc (.cells (hrow 0 0 0 false) 31))) := (((Below.refl _ w).alloc (Nat.le_refl _) _).alloc (by simp) _).alloc (by simp; omega) _
  have HK : Hid (Bk (((w.alloc (.cells (hrow f r l b) 31)).alloc (.cells (prow k m) 25)).alloc (.cells (hrow 0 0 0 false) 31)) w.heap.size (hrow f r l b) ∧ Bk (((w.alloc (.cells (hrow f r l b) 31)).alloc (.cells (prow k m) 25)).alloc (.cells (hrow 0 0 0 false) 31)) (w.heap.size + 1) (prow k m) ∧ Bk (((w.alloc (.cells (hrow f r l b) 31)).alloc (.cells (prow k m) 25)).alloc (.cells (hrow 0 0 0 false) 31)) (w.heap.size + 2) (hrow 0 0 0 false)) :=
    ⟨((Bk.new w _ _ w.heap.size rfl).alloc _).alloc _, (Bk.new _ _ _ _ (by simp)).alloc _, Bk.new _ _ _ _ (by simp)⟩
  have HV : Hid (trF k m f r l b = v) := hv
  have HT : Hid (∀ X, Calls Try.prog 40 #[hlt f r l b] X fun e w' => e = .returned (.tuple #[hlt f r l true, .int .i64 1]) ∧ Below X.heap.size X w') := fun X => halted_i f r l b X
  have HR : Hid (∀ X, Calls Try.prog 39 #[hlt f r l b] X fun e w' => e = .returned (.tuple #[hlt f (r + 1) l b, .int .i64 2]) ∧ Below X.heap.size X w') := fun X => restarted_i f r l b X h0 h1
  clear hv h0 h1
  rcases hk with rfl | rfl | rfl
  · have e : trF 0 m f r l b = .tuple #[hlt f r l true, .int .i64 1] := by simp [trF]
    have a1 := fun w => as_miss67 65 w (by decide)
    have a2 := fun w => as_miss66 65 w (by decide)
    obtain rfl := e.symm.trans HV.out
    clear e HV
    go_enter Try.func33, Try.ntmps33
    go_wp2_with fail
    refine (kind_of 0 m _).mono ?_
    rintro x w1 ⟨rfl, hb1⟩
    have HB1 : Hid (Below w.heap.size w w1) := HB.out.trans (hb1.mono HB.out.size)
    have K1 : Hid (Bk w1 w.heap.size (hrow f r l b) ∧ Bk w1 (w.heap.size + 1) (prow 0 m) ∧ Bk w1 (w.heap.size + 2) (hrow 0 0 0 false)) := ⟨HK.out.1.below hb1, HK.out.2.1.below hb1, HK.out.2.2.below hb1⟩
    clear HB HK hb1
    have hkv : kindV 0 = .iface 65 (.agg #[]) := rfl
    rw [hkv]
    clear hkv
    have g0 := K1.out.1.cell 0 _ rfl
    have g1 := K1.out.1.cell 1 _ rfl
    have g2 := K1.out.1.cell 2 _ rfl
    have g3 := K1.out.1.cell 3 _ rfl
    have p0 := K1.out.2.1.cell 0 _ rfl
    have p1 := K1.out.2.1.cell 1 _ rfl
    go_wp2_with fail
    refine (HT.out _).mono ?_
    rintro x w2 ⟨rfl, hb2⟩
    have HB2 : Hid (Below w.heap.size w w2) := HB1.out.trans (hb2.mono HB1.out.size)
    have K2 : Hid (Bk w2 (w.heap.size + 2) (hrow 0 0 0 false)) := K1.out.2.2.below hb2
    clear HB1 K1 hb2 g0 g1 g2 g3 p0 p1
    have r0 := K2.out.cell 0 _ rfl
    have r1 := K2.out.cell 1 _ rfl
    have r2 := K2.out.cell 2 _ rfl
    have r3 := K2.out.cell 3 _ rfl
    have rf := K2.out.free
    go_wp2
    have k4 := bk4 K2.out (.int .i64 f) (.int .i64 r) (.int .i64 l) (.bool true)
    have h4 := b4 (R := w.heap.size + 2) HB2.out (by omega) (.int .i64 f) (.int .i64 r) (.int .i64 l) (.bool true)
    clear r0 r1 r2 r3 rf K2 HB2 HR HT
    revert k4 h4
    generalize ((((w2.setCell ⟨w.heap.size + 2, 0, none⟩ (.int .i64 f)).setCell ⟨w.heap.size + 2, 1, none⟩ (.int .i64 r)).setCell ⟨w.heap.size + 2, 2, none⟩ (.int .i64 l)).setCell ⟨w.heap.size + 2, 3, none⟩ (.bool true)) = Wf
    intro k4 h4
    have q0 := k4.cell 0 _ rfl
    have q1 := k4.cell 1 _ rfl
    have q2 := k4.cell 2 _ rfl
    have q3 := k4.cell 3 _ rfl
    exact bodyPost_ret (v := .tuple #[hlt f r l true, .int .i64 1]) (by simp [results, Try.results33, go_sem, q0, q1, q2, q3]) rfl ⟨rfl, h4⟩
  · by_cases hrm : r < m
    · have e : trF 1 m f r l b = .tuple #[hlt f (r + 1) l b, .int .i64 2] := by simp [trF, hrm]
      have a1 := fun w => as_miss67 66 w (by decide)
      have a2 := as_hit66
      obtain rfl := e.symm.trans HV.out
      clear e HV
      go_enter Try.func33, Try.ntmps33
      go_wp2_with fail
      refine (kind_of 1 m _).mono ?_
      rintro x w1 ⟨rfl, hb1⟩
      have HB1 : Hid (Below w.heap.size w w1) := HB.out.trans (hb1.mono HB.out.size)
      have K1 : Hid (Bk w1 w.heap.size (hrow f r l b) ∧ Bk w1 (w.heap.size + 1) (prow 1 m) ∧ Bk w1 (w.heap.size + 2) (hrow 0 0 0 false)) := ⟨HK.out.1.below hb1, HK.out.2.1.below hb1, HK.out.2.2.below hb1⟩
      clear HB HK hb1
      have hkv : kindV 1 = .iface 66 (.agg #[]) := rfl
      rw [hkv]
      clear hkv
      have g0 := K1.out.1.cell 0 _ rfl
      have g1 := K1.out.1.cell 1 _ rfl
      have g2 := K1.out.1.cell 2 _ rfl
      have g3 := K1.out.1.cell 3 _ rfl
      have p0 := K1.out.2.1.cell 0 _ rfl
      have p1 := K1.out.2.1.cell 1 _ rfl
      go_wp2_with fail
      refine (HR.out _).mono ?_
      rintro x w2 ⟨rfl, hb2⟩
      have HB2 : Hid (Below w.heap.size w w2) := HB1.out.trans (hb2.mono HB1.out.size)
      have K2 : Hid (Bk w2 (w.heap.size + 2) (hrow 0 0 0 false)) := K1.out.2.2.below hb2
      clear HB1 K1 hb2 g0 g1 g2 g3 p0 p1
      have r0 := K2.out.cell 0 _ rfl
      have r1 := K2.out.cell 1 _ rfl
      have r2 := K2.out.cell 2 _ rfl
      have r3 := K2.out.cell 3 _ rfl
      have rf := K2.out.free
      go_wp2
      have k4 := bk4 K2.out (.int .i64 f) (.int .i64 (r + 1)) (.int .i64 l) (.bool b)
      have h4 := b4 (R := w.heap.size + 2) HB2.out (by omega) (.int .i64 f) (.int .i64 (r + 1)) (.int .i64 l) (.bool b)
      clear r0 r1 r2 r3 rf K2 HB2 HR HT
      revert k4 h4
      generalize ((((w2.setCell ⟨w.heap.size + 2, 0, none⟩ (.int .i64 f)).setCell ⟨w.heap.size + 2, 1, none⟩ (.int .i64 (r + 1))).setCell ⟨w.heap.size + 2, 2, none⟩ (.int .i64 l)).setCell ⟨w.heap.size + 2, 3, none⟩ (.bool b)) = Wf
      intro k4 h4
      have q0 := k4.cell 0 _ rfl
      have q1 := k4.cell 1 _ rfl
      have q2 := k4.cell 2 _ rfl
      have q3 := k4.cell 3 _ rfl
      exact bodyPost_ret (v := .tuple #[hlt f (r + 1) l b, .int .i64 2]) (by simp [results, Try.results33, go_sem, q0, q1, q2, q3]) rfl ⟨rfl, h4⟩
    · have e : trF 1 m f r l b = .tuple #[hlt f r l true, .int .i64 1] := by simp [trF, hrm]
      have a1 := fun w => as_miss67 66 w (by decide)
      have a2 := as_hit66
      obtain rfl := e.symm.trans HV.out
      clear e HV
      go_enter Try.func33, Try.ntmps33
      go_wp2_with fail
      refine (kind_of 1 m _).mono ?_
      rintro x w1 ⟨rfl, hb1⟩
      have HB1 : Hid (Below w.heap.size w w1) := HB.out.trans (hb1.mono HB.out.size)
      have K1 : Hid (Bk w1 w.heap.size (hrow f r l b) ∧ Bk w1 (w.heap.size + 1) (prow 1 m) ∧ Bk w1 (w.heap.size + 2) (hrow 0 0 0 false)) := ⟨HK.out.1.below hb1, HK.out.2.1.below hb1, HK.out.2.2.below hb1⟩
      clear HB HK hb1
      have hkv : kindV 1 = .iface 66 (.agg #[]) := rfl
      rw [hkv]
      clear hkv
      have g0 := K1.out.1.cell 0 _ rfl
      have g1 := K1.out.1.cell 1 _ rfl
      have g2 := K1.out.1.cell 2 _ rfl
      have g3 := K1.out.1.cell 3 _ rfl
      have p0 := K1.out.2.1.cell 0 _ rfl
      have p1 := K1.out.2.1.cell 1 _ rfl
      go_wp2_with fail
      refine (HT.out _).mono ?_
      rintro x w2 ⟨rfl, hb2⟩
      have HB2 : Hid (Below w.heap.size w w2) := HB1.out.trans (hb2.mono HB1.out.size)
      have K2 : Hid (Bk w2 (w.heap.size + 2) (hrow 0 0 0 false)) := K1.out.2.2.below hb2
      clear HB1 K1 hb2 g0 g1 g2 g3 p0 p1
      have r0 := K2.out.cell 0 _ rfl
      have r1 := K2.out.cell 1 _ rfl
      have r2 := K2.out.cell 2 _ rfl
      have r3 := K2.out.cell 3 _ rfl
      have rf := K2.out.free
      go_wp2
      have k4 := bk4 K2.out (.int .i64 f) (.int .i64 r) (.int .i64 l) (.bool true)
      have h4 := b4 (R := w.heap.size + 2) HB2.out (by omega) (.int .i64 f) (.int .i64 r) (.int .i64 l) (.bool true)
      clear r0 r1 r2 r3 rf K2 HB2 HR HT
      revert k4 h4
      generalize ((((w2.setCell ⟨w.heap.size + 2, 0, none⟩ (.int .i64 f)).setCell ⟨w.heap.size + 2, 1, none⟩ (.int .i64 r)).setCell ⟨w.heap.size + 2, 2, none⟩ (.int .i64 l)).setCell ⟨w.heap.size + 2, 3, none⟩ (.bool true)) = Wf
      intro k4 h4
      have q0 := k4.cell 0 _ rfl
      have q1 := k4.cell 1 _ rfl
      have q2 := k4.cell 2 _ rfl
      have q3 := k4.cell 3 _ rfl
      exact bodyPost_ret (v := .tuple #[hlt f r l true, .int .i64 1]) (by simp [results, Try.results33, go_sem, q0, q1, q2, q3]) rfl ⟨rfl, h4⟩
  · have e : trF 2 m f r l b = .tuple #[hlt f r l b, .int .i64 3] := by simp [trF]
    have a1 := as_hit67
    obtain rfl := e.symm.trans HV.out
    clear e HV
    go_enter Try.func33, Try.ntmps33
    go_wp2_with fail
    refine (kind_of 2 m _).mono ?_
    rintro x w1 ⟨rfl, hb1⟩
    have HB1 : Hid (Below w.heap.size w w1) := HB.out.trans (hb1.mono HB.out.size)
    have K1 : Hid (Bk w1 w.heap.size (hrow f r l b) ∧ Bk w1 (w.heap.size + 1) (prow 2 m) ∧ Bk w1 (w.heap.size + 2) (hrow 0 0 0 false)) := ⟨HK.out.1.below hb1, HK.out.2.1.below hb1, HK.out.2.2.below hb1⟩
    clear HB HK hb1
    have hkv : kindV 2 = .iface 67 (.agg #[]) := rfl
    rw [hkv]
    clear hkv
    have g0 := K1.out.1.cell 0 _ rfl
    have g1 := K1.out.1.cell 1 _ rfl
    have g2 := K1.out.1.cell 2 _ rfl
    have g3 := K1.out.1.cell 3 _ rfl
    have p0 := K1.out.2.1.cell 0 _ rfl
    have p1 := K1.out.2.1.cell 1 _ rfl
    have r0 := K1.out.2.2.cell 0 _ rfl
    have r1 := K1.out.2.2.cell 1 _ rfl
    have r2 := K1.out.2.2.cell 2 _ rfl
    have r3 := K1.out.2.2.cell 3 _ rfl
    have rf := K1.out.2.2.free
    go_wp2
    have k4 := bk4 K1.out.2.2 (.int .i64 f) (.int .i64 r) (.int .i64 l) (.bool b)
    have h4 := b4 (R := w.heap.size + 2) HB1.out (by omega) (.int .i64 f) (.int .i64 r) (.int .i64 l) (.bool b)
    clear g0 g1 g2 g3 p0 p1 r0 r1 r2 r3 rf K1 HB1 HR HT a1
    revert k4 h4
    generalize ((((w1.setCell ⟨w.heap.size + 2, 0, none⟩ (.int .i64 f)).setCell ⟨w.heap.size + 2, 1, none⟩ (.int .i64 r)).setCell ⟨w.heap.size + 2, 2, none⟩ (.int .i64 l)).setCell ⟨w.heap.size + 2, 3, none⟩ (.bool b)) = Wf
    intro k4 h4
    have q0 := k4.cell 0 _ rfl
    have q1 := k4.cell 1 _ rfl
    have q2 := k4.cell 2 _ rfl
    have q3 := k4.cell 3 _ rfl
    exact bodyPost_ret (v := .tuple #[hlt f r l b, .int .i64 3]) (by simp [results, Try.results33, go_sem, q0, q1, q2, q3]) rfl ⟨rfl, h4⟩
end Go.Proofs.Ytnjjjcmomjcmfaa
