
/-
  Whose slot a cycle is in, in given phases: the program's own function; who may begin a step and whose slot begins: the specification's. Conditions: the slots lie in memory; the tables are sound.
-/
import Derived.Test.YtmgopppgckgglaaGreatDoorBas
import Derived.Test.YtmgopppgckgglaaGreatDoorTid
import Derived.Test.YtmgopppgckgglaaGreatDoorTif
namespace Go.Proofs.YtmgopppgckgglaaGreatDoor
open Go.ChangeShapes Go.WideShapes Go.ChangeAt Go.RowKit Go.Deep Go.Joins
set_option linter.unusedVariables false

set_option maxRecDepth 40000 in
set_option maxHeartbeats 4000000 in
theorem index_int (A : Option Addr) (cap n : Nat) (zs : List Int) (v : Int) (w : World) (hz : GSeg 1 w A n (inX zs)) (hn : n ≤ 1048576) :
    Calls Tryz.prog 95 #[.slice A n cap, .int .i64 v] w fun e w' => (∃ r : Int, e = .returned (.int .i64 r) ∧ ((r = -1 ∧ ∀ i, i < n → zs.getD i 0 ≠ v) ∨ ∃ i : Nat, i < n ∧ r = (i : Int) ∧ zs.getD i 0 = v)) ∧ w' = w := by
  have HS : Hid (GSeg 1 w A n (inX zs)) := hz
  clear hz
  go_enter Tryz.func95, Tryz.ntmps95
  go_wp2
  go_loopw [8] (fun i wr => ∃ m : Nat, m ≤ n ∧ i = .int .i64 m ∧ Hid (wr = w ∧ ∀ j, j < m → zs.getD j 0 ≠ v)) (fun i _ => n - (intOf i).toNat)
  case atStart => exact ⟨0, by omega, rfl, rfl, fun i hi => absurd hi (by omega)⟩
  case round =>
    obtain ⟨m, hm, rfl, HR⟩ := hrel
    have HW : Hid (wr = w) := HR.out.1
    by_cases hmn : m < n
    rotate_left
    · obtain rfl : m = n := by omega
      have HT : Hid (∀ j, j < m → zs.getD j 0 ≠ v) := HR.out.2
      clear HR
      go_wp2
      go_ret
      exact ⟨⟨_, rfl, .inl ⟨rfl, HT.out⟩⟩, HW.out⟩
    have hmn' : (m : Int) < (n : Int) := by omega
    have HS2 : GSeg 1 wr A n (inX zs) := by rw [HW.out]; exact HS.out
    obtain ⟨b1, o1, rfl, hbl1, p1⟩ := HS2.at m hmn
    rw [Nat.mul_one] at p1
    have c0 := in_cell p1
    have HY : Hid (zs.getD m 0 = v → ∃ i : Nat, i < n ∧ (m : Int) = (i : Int) ∧ zs.getD i 0 = v) := fun h => ⟨m, hmn, rfl, h⟩
    have HNO : Hid (¬ zs.getD m 0 = v → ∀ j, j < m + 1 → zs.getD j 0 ≠ v) := fun h j hj => by
      by_cases e : j = m
      · subst e; exact h
      · exact HR.out.2 j (by omega)
    obtain ⟨z, HZ⟩ : ∃ z, Hid (zs.getD m 0 = z) := ⟨_, rfl⟩
    rw [HZ.out] at c0
    clear p1 hbl1 HR HS2
    by_cases hzv : z = v
    · have HT : Hid _ := HY.out (HZ.out.trans hzv)
      subst hzv
      clear HY HNO HZ
      go_wp2
      go_ret
      exact ⟨⟨_, rfl, .inr HT.out⟩, HW.out⟩
    · have HT : Hid _ := HNO.out (fun h => hzv (HZ.out.symm.trans h))
      have hb : (v == z) = false := by simp; exact fun h => hzv h.symm
      have hb2 : ¬ (v = z) := fun h => hzv h.symm
      clear HY HNO HZ
      go_wp2
      go_roundw
      case rel => exact ⟨m + 1, by omega, by go_num, HW.out, HT.out⟩
      case measure => simp [intOf]; omega
set_option maxRecDepth 40000 in
set_option maxHeartbeats 4000000 in
theorem contains_int (A : Option Addr) (cap n : Nat) (zs : List Int) (v : Int) (q : Bool) (w : World) (hz : GSeg 1 w A n (inX zs)) (hn : n ≤ 1048576) (hq : q = true ↔ ∃ i, i < n ∧ zs.getD i 0 = v) :
    Calls Tryz.prog 75 #[.slice A n cap, .int .i64 v] w fun e w' => e = .returned (.bool q) ∧ w' = w := by
  have HC : Hid _ := index_int A cap n zs v w hz hn
  have HQ : Hid (q = true ↔ ∃ i, i < n ∧ zs.getD i 0 = v) := hq
  clear hz hn hq
  go_enter Tryz.func75, Tryz.ntmps75
  go_wp2_with fail
  refine Calls.mono HC.out ?_
  rintro e w1 ⟨⟨r, rfl, hr⟩, hw1⟩
  have HW : Hid (w1 = w) := hw1
  clear hw1 HC
  rcases hr with ⟨rfl, hno⟩ | ⟨i, hi, rfl, he⟩
  · have HT : Hid (q = false) := not_true HQ.out (fun ⟨i, hi, g⟩ => hno i hi g)
    clear HQ hno
    go_wp2
    go_ret
    exact ⟨ret_bool HT.out.symm, HW.out⟩
  · have HT : Hid (q = true) := HQ.out.2 ⟨i, hi, he⟩
    clear HQ he
    have h0 : 0 ≤ (i : Int) := by omega
    go_wp2
    go_ret
    exact ⟨ret_bool HT.out.symm, HW.out⟩
set_option maxRecDepth 40000 in
set_option maxHeartbeats 4000000 in
theorem part_in (t : Tb) (a : Ad) (c : Int) (A : Option Addr) (cap n : Nat) (zs : List Int) (q : Bool) (w : World) (hm : TM 0 w t a) (hw : TW t a) (hs : TS a) (hcs : a.sn ≤ a.sc) (ht : Tm t) (hc : 0 ≤ c) (hc2 : c ≤ 1000000) (hz : GSeg 1 w A n (inX zs)) (hzn : n ≤ 1048576)
    (hz0 : ∀ i, i < n → zs.getD i 0 ≠ 0) (hq : q = true ↔ ∃ i, i < n ∧ zs.getD i 0 = phaseV t (c % t.maj)) :
    Calls Tryz.prog 53 #[tbV t a, .int .i64 c, .slice A n cap] w fun e w' => e = .returned (.int .i64 (if q = true then (t.ss.getD (slotV t (c % t.maj)).toNat sl0).1 else -1)) ∧ Below w.heap.size w w' := by
  have HCP : Hid (∀ X, Below w.heap.size w X → Calls Tryz.prog 76 #[tbV t a, .int .i64 c] X fun e w' => e = .returned (.int .i64 (phaseV t (c % t.maj))) ∧ Below X.heap.size X w') := fun X hX => phase_at t a c X (hm.below hX) hw hs hcs ht hc hc2
  have HCS : Hid (∀ X, Below w.heap.size w X → Calls Tryz.prog 77 #[tbV t a, .int .i64 c] X fun e w' => e = .returned (.int .i64 (slotV t (c % t.maj))) ∧ Below X.heap.size X w') := fun X hX => slot_at t a c X (hm.below hX) hw hs hcs ht hc hc2
  have hL : t.ss.length = a.sn := hw.sl
  have hn : a.sn ≤ 1048576 := hs.s
  have HSL : Hid (∀ X, Below w.heap.size w X → GSeg 3 X a.sa a.sn (slX t.ss)) := fun X hX => (hm.below hX).s.seg
  generalize c % t.maj = p at hq HCP HCS ⊢
  obtain ⟨f, HF⟩ : ∃ f, Hid (phaseV t p = f) := ⟨_, rfl⟩
  have HZQ : Hid (q = true → phaseV t p ≠ 0) := fun g => by
    obtain ⟨i, hi, e⟩ := hq.1 g
    rw [← e]
    exact hz0 i hi
  rw [HF.out] at HCP hq
  have HCC : Hid (∀ X, Below w.heap.size w X → Calls Tryz.prog 75 #[.slice A n cap, .int .i64 f] X fun e w' => e = .returned (.bool q) ∧ w' = X) := fun X hX => contains_int A cap n zs f q X (hz.below hX) hzn hq
  have HB0 : Hid (Below w.heap.size w (w.alloc (.cells (tbA t a) 33))) := (Below.refl _ _).alloc (Nat.le_refl _) _
  have HX0 : Hid (TBx (w.alloc (.cells (tbA t a) 33)) w.heap.size t a) := TBx.new w t a _ rfl
  clear hm hw hs ht hc hc2 hcs hq hz hz0
  cases q
  · have HT0 : Hid (-1 = (if false = true then (t.ss.getD (slotV t p).toNat sl0).1 else -1)) := by show _ = _; rw [if_neg (by decide)]
    rw [← HT0.out]
    clear HT0 HZQ HF HSL HCS
    go_enter Tryz.func53, Tryz.ntmps53
    go_wp2_with (first | (refine wpList_load_row rfl 33 (.tmp 3) rfl w.heap.size rfl 33 (tbA t a) (0, 0) _ HX0.out Tryz.underlying33 rfl (by kernel_rfl) ?_) | fail)
    refine Calls.mono (HCP.out _ HB0.out) ?_
    rintro e w1 ⟨rfl, hb1⟩
    have HB1 : Hid (Below w.heap.size w w1) := HB0.out.trans (hb1.mono HB0.out.size)
    clear hb1 HB0 HX0 HCP
    go_wp2_with fail
    refine Calls.mono (HCC.out _ HB1.out) ?_
    rintro e w2 ⟨rfl, rfl⟩
    clear HCC
    go_wp2
    go_ret
    exact ⟨rfl, HB1.out⟩
  obtain ⟨i, hi, hsv, _⟩ := phaseV_slot (HZQ.out rfl)
  have HT0 : Hid ((t.ss.getD i sl0).1 = (if true = true then (t.ss.getD (slotV t p).toNat sl0).1 else -1)) := by show _ = _; rw [if_pos rfl, hsv]; rfl
  rw [← HT0.out]
  replace HT0 : Hid ((t.ss.getD i sl0).1 = (t.ss.getD i sl0).1) := rfl
  obtain ⟨r, HRR⟩ : ∃ r, Hid ((t.ss.getD i sl0).1 = r) := ⟨_, rfl⟩
  replace HT0 : Hid ((t.ss.getD i sl0).1 = r) := HRR.out
  rw [HRR.out]
  rw [hsv] at HCS
  have hi2 : i < a.sn := by omega
  have hi3 : (i : Int) < (a.sn : Int) := by omega
  have hi4 : 0 ≤ (i : Int) := by omega
  clear HZQ HF HRR hsv hL
  go_enter Tryz.func53, Tryz.ntmps53
  go_wp2_with (first | (refine wpList_load_row rfl 33 (.tmp 3) rfl w.heap.size rfl 33 (tbA t a) (0, 0) _ HX0.out Tryz.underlying33 rfl (by kernel_rfl) ?_) | fail)
  refine Calls.mono (HCP.out _ HB0.out) ?_
  rintro e w1 ⟨rfl, hb1⟩
  have HB1 : Hid (Below w.heap.size w w1) := HB0.out.trans (hb1.mono HB0.out.size)
  have HX2 : Hid (TBx w1 w.heap.size t a) := HX0.out.below hb1
  clear hb1 HB0 HX0 HCP
  go_wp2_with fail
  refine Calls.mono (HCC.out _ HB1.out) ?_
  rintro e V ⟨rfl, hV⟩
  subst hV
  have HB2 : Hid (Below w.heap.size w V) := HB1.out
  clear HCC HB1
  obtain ⟨b1, o1, hsa, hbl1, p1⟩ := (HSL.out _ HB2.out).at i hi2
  have k18 : V.cell? ⟨w.heap.size, 18, none⟩ = some (.slice (some ⟨b1, o1, none⟩) a.sn a.sc) := by rw [← hsa]; exact HX2.out.cell 18 rfl
  simp only [slX] at p1
  generalize t.ss.getD i sl0 = y at p1 HT0
  obtain ⟨c0, c1, c2⟩ := sl_cells p1
  obtain ⟨x1, x2, x3⟩ := y
  simp only at c0 c1 c2 HT0
  have G18 := fun X => gr_cell (W0 := V) k18 X
  have G0 := fun X => gr_cell (W0 := V) c0 X
  have HCG : Hid (∀ X : Gr V, Calls Tryz.prog 77 #[tbV t a, .int .i64 c] X.w fun e w' => e = .returned (.int .i64 (i : Int)) ∧ Below X.w.heap.size X.w w') := fun X => HCS.out _ (HB2.out.trans (X.h.mono HB2.out.size))
  have HXX : Hid (∀ w', (∃ X : Gr V, w' = X.w) → w'.heap[w.heap.size]? = some (.cells (tbA t a) 33 (0, 0))) := fun w' hX => by
    obtain ⟨X, rfl⟩ := hX
    exact HX2.out.below X.h
  clear p1 hbl1 HSL
  go_wp2
  have hgr := gr_some V
  refine region_alike (by kernel_rfl) (by kernel_rfl) ?_
  repeat (first | (refine wpQuiet_load_row rfl 33 (.tmp 3) rfl w.heap.size rfl 33 (tbA t a) (0, 0) _ HXX.out Tryz.underlying33 rfl (by kernel_rfl) ?_; simp only [Act.put, List.setIfInBounds_toArray, List.set_cons_zero, List.set_cons_succ]) | go_big_quiet_step (first | (go_at_call 77; exact gr_call (HCG.out _))))
  refine wpQuiet_nil ?_
  intro _ hw'
  obtain ⟨X1, rfl⟩ := hw'
  have HBE : Hid (Below w.heap.size w X1.w) := HB2.out.trans (X1.h.mono HB2.out.size)
  generalize X1.w = W2 at HBE ⊢
  clear hgr G18 G0 HCG HXX k18 c0 c1 c2
  go_wp2
  go_ret
  exact ⟨ret_int HT0.out, HBE.out⟩
end Go.Proofs.YtmgopppgckgglaaGreatDoor
