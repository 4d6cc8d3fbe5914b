
/-
  The program's HealthRun: the health and the acts that the plain functions say, in memory of its own. Conditions: the list reads as integers and has at most 1048576.
-/
import Derived.Test.YtnjjjcmomjcmfaaRows
import Derived.Test.YtnjjjcmomjcmfaaHrn
import Derived.Deep.SlicePairs
namespace Go.Proofs.Ytnjjjcmomjcmfaa
open Go.ChangeShapes Go.WideShapes Go.ChangeAt Go.RowKit Go.Deep
set_option linter.unusedVariables false

theorem Own.betw {k : IntKind} {w w' : World} {B lo hi : Nat} {zs : List Int} (h : Own k w B zs) (hb : Betw lo hi w w') (ho : B < lo ∨ hi ≤ B) : Own k w' B zs :=
  ⟨Nat.lt_of_lt_of_le h.lt hb.size, fun i hi => (hb.cell (p := ⟨B, i, none⟩) h.lt ho).trans (h.cell i hi), fun i => (hb.frozen (p := ⟨B, i, none⟩) h.lt ho).trans (h.free i)⟩
/-- What is known in the loop of the program's run. -/
structure RI (w wr : World) (k m : Int) (s : St) (M Q : Nat) (L : List Int) : Prop where
  bel : Below w.heap.size w wr
  pk : Bk wr w.heap.size (prow k m)
  rz : Bk wr (w.heap.size + 1) (hrow 0 0 0 false)
  hh : Bk wr Q (hrowS s)
  own : Own .i64 wr M L
  lq : w.heap.size + 1 < Q
  lm : w.heap.size + 1 < M
  ne : Q ≠ M
theorem RI.below {w wr X : World} {k m : Int} {s : St} {M Q : Nat} {L : List Int} (h : RI w wr k m s M Q L) (hb : Below wr.heap.size wr X) : RI w X k m s M Q L :=
  ⟨h.bel.trans (hb.mono h.bel.size), h.pk.below hb, h.rz.below hb, h.hh.below hb, h.own.below hb, h.lq, h.lm, h.ne⟩
theorem RI.drew {w wr : World} {k m : Int} {s : St} {M Q : Nat} {L : List Int} (h : RI w wr k m s M Q L) : RI w wr.drew k m s M Q L := h.below (Below.refl _ _).drew
theorem RI.set {w wr : World} {k m : Int} {s : St} {M Q : Nat} {L : List Int} (h : RI w wr k m s M Q L) (f r l : Int) (b : Bool) :
    RI w ((((wr.setCell ⟨Q, 0, none⟩ (.int .i64 f)).setCell ⟨Q, 1, none⟩ (.int .i64 r)).setCell ⟨Q, 2, none⟩ (.int .i64 l)).setCell ⟨Q, 3, none⟩ (.bool b)) k m (f, r, l, b) M Q L := by
  have ht := t4 wr Q (.int .i64 f) (.int .i64 r) (.int .i64 l) (.bool b)
  have h1 := h.lq
  have h2 := h.ne
  exact ⟨b4 h.bel (by omega) _ _ _ _, h.pk.betw ht (.inl (by omega)), h.rz.betw ht (.inl (by omega)), bk4 h.hh _ _ _ _, h.own.betw ht (by omega), h.lq, h.lm, h.ne⟩
theorem RI.put {w wr : World} {k m : Int} {s : St} {M Q : Nat} {L : List Int} (h : RI w wr k m s M Q L) (j : Nat) (x : Int) (hj : j < L.length) : RI w (wr.setCell ⟨M, j, none⟩ (.int .i64 x)) k m s M Q (L.set j x) := by
  have h1 := h.lm
  have h2 := h.ne
  exact ⟨Below.setCell h.bel (p := ⟨M, j, none⟩) (by show w.heap.size ≤ M; omega) _, h.pk.other M j _ (by omega), h.rz.other M j _ (by omega), h.hh.other M j _ (fun e => h2 e.symm), h.own.set j x hj, h.lq, h.lm, h.ne⟩
theorem ri_a (w w1 : World) (k m : Int) (n : Nat) (hb : Below w.heap.size w w1) (hp : Bk w1 w.heap.size (prow k m)) (hr : Bk w1 (w.heap.size + 1) (hrow 0 0 0 false)) (T U : TypeId) :
    RI w ((w1.alloc (.cells (madeCells #[.int .i64 0] n) T)).alloc (.cells (hrow 0 0 0 false) U)) k m (0, 0, 0, false) w1.heap.size (w1.heap.size + 1) (List.replicate n 0) := by
  have h1 := hr.lt
  exact ⟨(hb.alloc hb.size _).alloc (by simp; have := hb.size; omega) _, (hp.alloc _).alloc _, (hr.alloc _).alloc _, Bk.new _ _ _ _ (by simp), (Own.made .i64 w1 n T 0).below ((Below.refl _ _).alloc (Nat.le_refl _) _), by omega, by omega, by omega⟩
theorem ri_b (w w1 : World) (k m : Int) (n : Nat) (hb : Below w.heap.size w w1) (hp : Bk w1 w.heap.size (prow k m)) (hr : Bk w1 (w.heap.size + 1) (hrow 0 0 0 false)) (T U : TypeId) :
    RI w ((w1.alloc (.cells (hrow 0 0 0 false) U)).alloc (.cells (madeCells #[.int .i64 0] n) T)) k m (0, 0, 0, false) (w1.heap.size + 1) w1.heap.size (List.replicate n 0) := by
  have h1 := hr.lt
  exact ⟨(hb.alloc hb.size _).alloc (by simp; have := hb.size; omega) _, (hp.alloc _).alloc _, (hr.alloc _).alloc _, (Bk.new _ _ _ _ rfl).alloc _, by have := Own.made .i64 (w1.alloc (.cells (hrow 0 0 0 false) U)) n T 0; simpa using this, by omega, by omega, by omega⟩
set_option maxRecDepth 20000 in
set_option maxHeartbeats 4000000 in
theorem impl_run (k m : Int) (a : Option Addr) (cap n : Nat) (zs : List Int) (w : World) (hs : Seg .i64 w a zs) (hl : zs.length = n) (hn : n ≤ 1048576) (s : St) (ys : List Int) (hy : RunP k m n → s = stI k m zs n ∧ ys = acts k m zs n) (hno : ¬ RunP k m n → s = (0, 0, 0, false) ∧ ys = []) :
    Calls Try.prog 22 #[pol k m, .slice a n cap] w (HPost w s ys) := by
  have HS : Hid (Seg .i64 w a zs) := hs
  have HL : Hid (zs.length = n) := hl
  have HY : Hid (RunP k m n → s = stI k m zs n ∧ ys = acts k m zs n) := hy
  have HNO : Hid (¬ RunP k m n → s = (0, 0, 0, false) ∧ ys = []) := hno
  have HB0 : Hid (Below w.heap.size w ((w.alloc (.cells (prow k m) 25)).alloc (.cells (hrow 0 0 0 false) 31)) ∧ Bk ((w.alloc (.cells (prow k m) 25)).alloc (.cells (hrow 0 0 0 false) 31)) w.heap.size (prow k m) ∧ Bk ((w.alloc (.cells (prow k m) 25)).alloc (.cells (hrow 0 0 0 false) 31)) (w.heap.size + 1) (hrow 0 0 0 false)) := ⟨((Below.refl _ w).alloc (Nat.le_refl _) _).alloc (by simp) _, (Bk.new w _ _ _ rfl).alloc _, Bk.new _ _ _ _ (by simp)⟩
  obtain ⟨q, HQ⟩ : ∃ q, Hid (polOk k m = q) := ⟨_, rfl⟩
  have HP : Hid (∀ X, Calls Try.prog 11 #[pol k m] X fun e w' => e = .returned (.bool q) ∧ Below X.heap.size X w') := fun X => by rw [← HQ.out]; exact impl_pok k m X
  have hmk := run_make_row' (P := Try.prog) 39 3 (.int .i64 0) 8 Try.underlying39 info3 rfl .i64 .i64 n (by omega) (by omega)
  clear hs hl hy hno
  go_enter Try.func22, Try.ntmps22
  go_wp2_with fail
  refine (HP.out _).mono ?_
  rintro u w1 ⟨rfl, hb1⟩
  have HB1 : Hid (Below w.heap.size w w1 ∧ Bk w1 w.heap.size (prow k m) ∧ Bk w1 (w.heap.size + 1) (hrow 0 0 0 false)) := ⟨HB0.out.1.trans (hb1.mono HB0.out.1.size), HB0.out.2.1.below hb1, HB0.out.2.2.below hb1⟩
  clear HB0 hb1 HP
  have HEND : Hid (q = false ∨ ¬ n ≤ 1000 → s = (0, 0, 0, false) ∧ ys = []) := fun h => HNO.out (fun g => by
    rcases h with h | h
    · have := g.1; rw [HQ.out, h] at this; cases this
    · exact h g.2)
  clear HNO
  cases q
  · have HK2 : Hid (Bk (w1.alloc (.cells #[] 3)) (w.heap.size + 1) (hrow 0 0 0 false)) := HB1.out.2.2.alloc _
    have HB2 : Hid (Below w.heap.size w (w1.alloc (.cells #[] 3))) := HB1.out.1.alloc HB1.out.1.size _
    have r0 := HK2.out.cell 0 _ rfl
    have r1 := HK2.out.cell 1 _ rfl
    have r2 := HK2.out.cell 2 _ rfl
    have r3 := HK2.out.cell 3 _ rfl
    have rf := HK2.out.free
    go_wp2
    have k4 := bk4 HK2.out (.int .i64 0) (.int .i64 0) (.int .i64 0) (.bool false)
    have x4 := b4 HB2.out (R := w.heap.size + 1) (by omega) (.int .i64 0) (.int .i64 0) (.int .i64 0) (.bool false)
    have HE : Hid (s = (0, 0, 0, false) ∧ ys = []) := HEND.out (.inl (by first | rfl | trivial))
    clear r0 r1 r2 r3 rf
    revert k4 x4
    generalize (((((w1.alloc (.cells #[] 3)).setCell ⟨w.heap.size + 1, 0, none⟩ (.int .i64 0)).setCell ⟨w.heap.size + 1, 1, none⟩ (.int .i64 0)).setCell ⟨w.heap.size + 1, 2, none⟩ (.int .i64 0)).setCell ⟨w.heap.size + 1, 3, none⟩ (.bool false)) = Wf
    intro k4 x4
    have q0 := k4.cell 0 _ rfl
    have q1 := k4.cell 1 _ rfl
    have q2 := k4.cell 2 _ rfl
    have q3 := k4.cell 3 _ rfl
    refine bodyPost_ret (v := .tuple #[hlt 0 0 0 false, .slice (some ⟨w1.heap.size, 0, none⟩) 0 0]) (by simp [results, Try.results22, go_sem, q0, q1, q2, q3]) rfl ?_
    rw [HE.out.1, HE.out.2]
    exact ⟨some ⟨w1.heap.size, 0, none⟩, 0, rfl, x4, fun h0 => absurd h0 (by simp)⟩
  by_cases hn2 : n ≤ 1000
  rotate_left
  · have hgt : (1000 : Int) < (n : Int) := by omega
    have HK2 : Hid (Bk (w1.alloc (.cells #[] 3)) (w.heap.size + 1) (hrow 0 0 0 false)) := HB1.out.2.2.alloc _
    have HB2 : Hid (Below w.heap.size w (w1.alloc (.cells #[] 3))) := HB1.out.1.alloc HB1.out.1.size _
    have r0 := HK2.out.cell 0 _ rfl
    have r1 := HK2.out.cell 1 _ rfl
    have r2 := HK2.out.cell 2 _ rfl
    have r3 := HK2.out.cell 3 _ rfl
    have rf := HK2.out.free
    go_wp2
    have k4 := bk4 HK2.out (.int .i64 0) (.int .i64 0) (.int .i64 0) (.bool false)
    have x4 := b4 HB2.out (R := w.heap.size + 1) (by omega) (.int .i64 0) (.int .i64 0) (.int .i64 0) (.bool false)
    have HE : Hid (s = (0, 0, 0, false) ∧ ys = []) := HEND.out (.inr hn2)
    clear r0 r1 r2 r3 rf
    revert k4 x4
    generalize (((((w1.alloc (.cells #[] 3)).setCell ⟨w.heap.size + 1, 0, none⟩ (.int .i64 0)).setCell ⟨w.heap.size + 1, 1, none⟩ (.int .i64 0)).setCell ⟨w.heap.size + 1, 2, none⟩ (.int .i64 0)).setCell ⟨w.heap.size + 1, 3, none⟩ (.bool false)) = Wf
    intro k4 x4
    have q0 := k4.cell 0 _ rfl
    have q1 := k4.cell 1 _ rfl
    have q2 := k4.cell 2 _ rfl
    have q3 := k4.cell 3 _ rfl
    refine bodyPost_ret (v := .tuple #[hlt 0 0 0 false, .slice (some ⟨w1.heap.size, 0, none⟩) 0 0]) (by simp [results, Try.results22, go_sem, q0, q1, q2, q3]) rfl ?_
    rw [HE.out.1, HE.out.2]
    exact ⟨some ⟨w1.heap.size, 0, none⟩, 0, rfl, x4, fun h0 => absurd h0 (by simp)⟩
  have hngt : ¬ ((1000 : Int) < (n : Int)) := by omega
  have HF : Hid (s = stI k m zs n ∧ ys = acts k m zs n) := HY.out ⟨HQ.out, hn2⟩
  clear HY HEND
  have HIA : Hid (RI w ((w1.alloc (.cells (madeCells #[.int .i64 0] n) 3)).alloc (.cells (hrow 0 0 0 false) 31)) k m (0, 0, 0, false) w1.heap.size (w1.heap.size + 1) (List.replicate n 0)) := ri_a w w1 k m n HB1.out.1 HB1.out.2.1 HB1.out.2.2 3 31
  have HIB : Hid (RI w ((w1.alloc (.cells (hrow 0 0 0 false) 31)).alloc (.cells (madeCells #[.int .i64 0] n) 3)) k m (0, 0, 0, false) (w1.heap.size + 1) w1.heap.size (List.replicate n 0)) := ri_b w w1 k m n HB1.out.1 HB1.out.2.1 HB1.out.2.2 3 31
  clear HB1
  go_wp2
  go_region
  all_goals
    first
    | (have HI : Hid (RI w ((w1.alloc (.cells (madeCells #[.int .i64 0] n) 3)).alloc (.cells #[.int .i64 0, .int .i64 0, .int .i64 0, .bool false] 31)).drew k m (0, 0, 0, false) w1.heap.size (w1.heap.size + 1) (List.replicate n 0)) := HIA.out.drew
       clear HIA HIB
       generalize ((w1.alloc (.cells (madeCells #[.int .i64 0] n) 3)).alloc (.cells #[.int .i64 0, .int .i64 0, .int .i64 0, .bool false] 31)).drew = V at HI ⊢
       generalize w1.heap.size + 1 = Q at HI ⊢
       generalize w1.heap.size = M at HI ⊢
       show Exit.then _ _ Exit.normal _ V)
    | (have HI : Hid (RI w ((w1.alloc (.cells #[.int .i64 0, .int .i64 0, .int .i64 0, .bool false] 31)).alloc (.cells (madeCells #[.int .i64 0] n) 3)).drew k m (0, 0, 0, false) (w1.heap.size + 1) w1.heap.size (List.replicate n 0)) := HIB.out.drew
       clear HIA HIB
       generalize ((w1.alloc (.cells #[.int .i64 0, .int .i64 0, .int .i64 0, .bool false] 31)).alloc (.cells (madeCells #[.int .i64 0] n) 3)).drew = V at HI ⊢
       generalize w1.heap.size + 1 = M at HI ⊢
       generalize w1.heap.size = Q at HI ⊢
       show Exit.then _ _ Exit.normal _ V)
    clear hmk
    revert Q
    revert M
    revert V
    try clear w1
    refine ?wayR
  intro V M Q HI
  go_wp2
  go_loopw [26] (fun i wr => ∃ j : Nat, j ≤ n ∧ i = .int .i64 j ∧ Hid (RI w wr k m (stI k m zs j) M Q ((acts k m zs n).take j ++ List.replicate (n - j) 0))) (fun i _ => n - (intOf i).toNat)
  case atStart => exact ⟨0, by omega, rfl, by show RI w V k m (stI k m zs 0) M Q ((acts k m zs n).take 0 ++ List.replicate (n - 0) 0); simpa [stI] using HI.out⟩
  case round =>
    obtain ⟨j, hj, rfl, HR⟩ := hrel
    clear HI
    by_cases hjn : j < n
    rotate_left
    · obtain rfl : j = n := by omega
      have HAL : Hid ((acts k m zs j).length = j) := acts_len k m zs j
      have HTK : Hid ((acts k m zs j).take j ++ List.replicate (j - j) (0 : Int) = acts k m zs j) := by
        show _ = _
        rw [List.take_of_length_le (by have := HAL.out; omega), Nat.sub_self, List.replicate_zero, List.append_nil]
      rw [HTK.out] at HR
      generalize stI k m zs j = st at HR HF
      obtain ⟨f1, r1, l1, b1⟩ := st
      have hc0 := HR.out.hh.cell 0 _ rfl
      have hc1 := HR.out.hh.cell 1 _ rfl
      have hc2 := HR.out.hh.cell 2 _ rfl
      have hc3 := HR.out.hh.cell 3 _ rfl
      have rc0 := HR.out.rz.cell 0 _ rfl
      have rc1 := HR.out.rz.cell 1 _ rfl
      have rc2 := HR.out.rz.cell 2 _ rfl
      have rc3 := HR.out.rz.cell 3 _ rfl
      have rf := HR.out.rz.free
      have hlm := HR.out.lm
      go_wp2
      have k4 := bk4 HR.out.rz (.int .i64 f1) (.int .i64 r1) (.int .i64 l1) (.bool b1)
      have x4 := b4 HR.out.bel (R := w.heap.size + 1) (by omega) (.int .i64 f1) (.int .i64 r1) (.int .i64 l1) (.bool b1)
      have o4 := HR.out.own.betw (t4 wr (w.heap.size + 1) (.int .i64 f1) (.int .i64 r1) (.int .i64 l1) (.bool b1)) (.inr (by omega))
      clear hc0 hc1 hc2 hc3 rc0 rc1 rc2 rc3 rf
      revert k4 x4 o4
      generalize ((((wr.setCell ⟨w.heap.size + 1, 0, none⟩ (.int .i64 f1)).setCell ⟨w.heap.size + 1, 1, none⟩ (.int .i64 r1)).setCell ⟨w.heap.size + 1, 2, none⟩ (.int .i64 l1)).setCell ⟨w.heap.size + 1, 3, none⟩ (.bool b1)) = Wf
      intro k4 x4 o4
      have q0 := k4.cell 0 _ rfl
      have q1 := k4.cell 1 _ rfl
      have q2 := k4.cell 2 _ rfl
      have q3 := k4.cell 3 _ rfl
      refine bodyPost_ret (v := .tuple #[hlt f1 r1 l1 b1, .slice (some ⟨M, 0, none⟩) j j]) (by simp [results, Try.results22, go_sem, q0, q1, q2, q3]) rfl ?_
      rw [HF.out.1, HF.out.2]
      exact ⟨some ⟨M, 0, none⟩, j, by rw [HAL.out], x4, fun h0 => ⟨M, 0, rfl, by omega, o4.lt, o4.lt, fun i hi => by rw [Nat.zero_add]; exact o4.cell i hi, fun i hi => o4.free _⟩⟩
    have hjn' : (j : Int) < (n : Int) := by omega
    obtain ⟨b1, o1, rfl, hbl1, e1⟩ := Seg.at (w := w) HS.out j (by rw [HL.out]; exact hjn)
    replace e1 := kept_cell' HR.out.bel hbl1 e1
    have hV := onV_onS k m (stI k m zs j) (zs.getD j 0)
    rw [show (onS k m (stI k m zs j) (zs.getD j 0)).1 = stI k m zs (j + 1) from rfl, show (onS k m (stI k m zs j) (zs.getD j 0)).2 = acI k m zs j from rfl] at hV
    have hAL : (acts k m zs n).length = n := acts_len k m zs n
    have hAG : (acts k m zs n).getD j 0 = acI k m zs j := acts_at k m zs n j hjn
    have hcs := copy_step (acts k m zs n) j (by rw [hAL]; exact hjn)
    have hcl := copy_len (acts k m zs n) j (by rw [hAL]; exact hj)
    rw [hAL, hAG] at hcs
    rw [hAL] at hcl
    generalize hst2 : stI k m zs (j + 1) = st2 at hV
    generalize acI k m zs j = x9 at hV hcs
    generalize (acts k m zs n).take j ++ List.replicate (n - j) (0 : Int) = L at HR hcs hcl
    generalize hl2 : (acts k m zs n).take (j + 1) ++ List.replicate (n - (j + 1)) (0 : Int) = L2 at hcs
    have HL2 : Hid ((acts k m zs n).take (j + 1) ++ List.replicate (n - (j + 1)) (0 : Int) = L2) := hl2
    clear hl2
    have HCS : Hid (L.set j x9 = L2) := hcs
    have HCL : Hid (j < L.length) := by show _ < _; omega
    clear hcs hcl hAL hAG hbl1
    generalize stI k m zs j = st at HR hV
    generalize zs.getD j 0 = z at e1 hV
    obtain ⟨f0, r0, l0, b0⟩ := st
    obtain ⟨f2, r2, l2, b2⟩ := st2
    have HS2 : Hid (stI k m zs (j + 1) = (f2, r2, l2, b2)) := hst2
    clear hst2
    have HC : Hid (∀ X, Calls Try.prog 19 #[pol k m, hlt f0 r0 l0 b0, .int .i64 z] X fun y w' => y = .returned (.tuple #[hlt f2 r2 l2 b2, .int .i64 x9]) ∧ Below X.heap.size X w') := fun X => impl_onf k m f0 r0 l0 z b0 _ X hV
    clear hV
    have c0 := HR.out.pk.cell 0 _ rfl
    have c1 := HR.out.pk.cell 1 _ rfl
    have d0 := HR.out.hh.cell 0 _ rfl
    have d1 := HR.out.hh.cell 1 _ rfl
    have d2 := HR.out.hh.cell 2 _ rfl
    have d3 := HR.out.hh.cell 3 _ rfl
    go_wp2_with fail
    refine Calls.mono (HC.out _) ?_
    rintro u w3 ⟨rfl, hb3⟩
    have HR3 : Hid (RI w w3 k m (f0, r0, l0, b0) M Q L) := HR.out.below hb3
    clear hb3 c0 c1 d0 d1 d2 d3 e1 HR HC
    have HR4 : Hid (RI w ((((w3.setCell ⟨Q, 0, none⟩ (.int .i64 f2)).setCell ⟨Q, 1, none⟩ (.int .i64 r2)).setCell ⟨Q, 2, none⟩ (.int .i64 l2)).setCell ⟨Q, 3, none⟩ (.bool b2)) k m (f2, r2, l2, b2) M Q L) := HR3.out.set f2 r2 l2 b2
    have HR5 : Hid (RI w (((((w3.setCell ⟨Q, 0, none⟩ (.int .i64 f2)).setCell ⟨Q, 1, none⟩ (.int .i64 r2)).setCell ⟨Q, 2, none⟩ (.int .i64 l2)).setCell ⟨Q, 3, none⟩ (.bool b2)).setCell ⟨M, j, none⟩ (.int .i64 x9)) k m (f2, r2, l2, b2) M Q L2) := by rw [← HCS.out]; exact HR4.out.put j x9 HCL.out
    have d0 := HR3.out.hh.cell 0 _ rfl
    have d1 := HR3.out.hh.cell 1 _ rfl
    have d2 := HR3.out.hh.cell 2 _ rfl
    have d3 := HR3.out.hh.cell 3 _ rfl
    have df := HR3.out.hh.free
    obtain ⟨uu, hu⟩ : ∃ uu, ((((w3.setCell ⟨Q, 0, none⟩ (.int .i64 f2)).setCell ⟨Q, 1, none⟩ (.int .i64 r2)).setCell ⟨Q, 2, none⟩ (.int .i64 l2)).setCell ⟨Q, 3, none⟩ (.bool b2)).cell? ⟨M, j, none⟩ = some uu := ⟨_, HR4.out.own.cell j HCL.out⟩
    have hfz := HR4.out.own.free j
    clear HR3 HR4
    go_wp2
    go_roundw
    case rel => exact ⟨j + 1, by omega, by go_num, by rw [HS2.out, HL2.out]; exact HR5⟩
    case measure => simp [intOf]; omega
end Go.Proofs.Ytnjjjcmomjcmfaa
