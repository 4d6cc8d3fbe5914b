
/-
  Whether a row of a feed is right for a partition: the program's answer. Conditions: the tables are sound, their lists lie in memory.
-/
import Derived.Test.YtiheojmknhgjfaaGreatDoorBas
import Derived.Test.YtiheojmknhgjfaaGreatDoorFkp
import Derived.Test.YtiheojmknhgjfaaGreatDoorCrs
import Derived.Test.YtiheojmknhgjfaaGreatDoorRul
namespace Go.Proofs.YtiheojmknhgjfaaGreatDoor
open Go.ChangeShapes Go.WideShapes Go.ChangeAt Go.RowKit Go.Deep Go.Joins
set_option linter.unusedVariables false

set_option maxRecDepth 40000 in
set_option maxHeartbeats 8000000 in
theorem send_side (k f t d h : Int) (w : World) : Calls Tryz.prog 104 #[crw k f t d, .agg #[.int .i64 h, .slice none 0 0]] w fun e w' => e = .returned (.agg #[.int .i64 k, .int .i64 f, .int .i64 t, .int .i64 d, .int .i64 h, .slice none 0 0]) ∧ Below w.heap.size w w' := by
  go_enter Tryz.func104, Tryz.ntmps104
  go_wp2
  exact bodyPost_ret (v := .agg #[.int .i64 k, .int .i64 f, .int .i64 t, .int .i64 d, .int .i64 h, .slice none 0 0]) (by simp [results, Tryz.results104, go_sem]) rfl ⟨rfl, (((Below.refl _ _).alloc (Nat.le_refl _) _).alloc (by simp) _).alloc (by simp; omega) _⟩
set_option maxRecDepth 40000 in
set_option maxHeartbeats 8000000 in
theorem is_right (k f t d : Int) (q : Bool) (w : World) (HQ : Hid (chOk k f t d = q)) : Calls Tryz.prog 127 #[crw k f t d] w fun e w' => e = .returned (.bool q) ∧ Below w.heap.size w w' := by
  have HB0 : Hid (Below w.heap.size w (w.alloc (.cells #[.int .i64 k, .int .i64 f, .int .i64 t, .int .i64 d] 123))) := (Below.refl _ _).alloc (Nat.le_refl _) _
  go_enter Tryz.func127, Tryz.ntmps127
  go_wp2_with fail
  refine Calls.mono (impl_chok k f t d q _ HQ) ?_
  rintro e w1 ⟨rfl, hb⟩
  have HB1 : Hid (Below w.heap.size w w1) := HB0.out.trans (hb.mono HB0.out.size)
  clear hb HB0
  go_wp2
  go_ret
  exact ⟨rfl, HB1.out⟩
set_option maxRecDepth 40000 in
set_option maxHeartbeats 8000000 in
theorem side_sound (k f t d h : Int) (q : Bool) (w : World) (hc : chOk k f t d = true) (hq : q = true ↔ (0 ≤ h ∧ h ≤ d)) : Calls Tryz.prog 105 #[.agg #[.int .i64 k, .int .i64 f, .int .i64 t, .int .i64 d, .int .i64 h, .slice none 0 0]] w fun e w' => e = .returned (.bool q) ∧ Below w.heap.size w w' := by
  have hk := chOk_k hc
  have hbA : Below w.heap.size w (w.alloc (.cells #[.int .i64 k, .int .i64 f, .int .i64 t, .int .i64 d, .int .i64 h, .slice none 0 0] 152)) := (Below.refl _ _).alloc (Nat.le_refl _) _
  have HB0 : Hid (Below w.heap.size w (w.alloc (.cells #[.int .i64 k, .int .i64 f, .int .i64 t, .int .i64 d, .int .i64 h, .slice none 0 0] 152))) := hbA
  have KE : Hid (CellsAt (w.alloc (.cells #[.int .i64 k, .int .i64 f, .int .i64 t, .int .i64 d, .int .i64 h, .slice none 0 0] 152)) w.heap.size 0 [.int .i64 k, .int .i64 f, .int .i64 t, .int .i64 d, .int .i64 h, .slice none 0 0]) := CellsAt.new w [.int .i64 k, .int .i64 f, .int .i64 t, .int .i64 d, .int .i64 h, .slice none 0 0] _ _ rfl
  obtain ⟨m, HM⟩ : ∃ m, Hid (mostF k d = m) := ⟨_, rfl⟩
  have HMM : Hid (0 ≤ h → h ≤ d → h ≤ m) := fun h1 h2 => by rw [← HM.out]; unfold mostF; split <;> omega
  have HIR : Hid (∀ X, Calls Tryz.prog 127 #[crw k f t d] X fun e w' => e = .returned (.bool true) ∧ Below X.heap.size X w') := fun X => is_right k f t d true X hc
  have HMO : Hid (∀ X, Calls Tryz.prog 70 #[crw k f t d] X fun e w' => e = .returned (.int .i64 m) ∧ Below X.heap.size X w') := fun X => impl_most k f t d m X HM
  have HQ : Hid (q = true ↔ (0 ≤ h ∧ h ≤ d)) := hq
  have hd8 : d ≤ 8 := by omega
  clear hc hq hbA hk HM
  go_enter Tryz.func105, Tryz.ntmps105
  go_wp2
  revert HB0 KE
  generalize w.alloc (.cells #[.int .i64 k, .int .i64 f, .int .i64 t, .int .i64 d, .int .i64 h, .slice none 0 0] 152) = V
  intro HB0 KE
  have HIG : Hid (∀ X : Gr V, Calls Tryz.prog 127 #[crw k f t d] X.w fun e w' => e = .returned (.bool true) ∧ Below X.w.heap.size X.w w') := fun X => HIR.out X.w
  have HMG : Hid (∀ X : Gr V, Calls Tryz.prog 70 #[crw k f t d] X.w fun e w' => e = .returned (.int .i64 m) ∧ Below X.w.heap.size X.w w') := fun X => HMO.out X.w
  have e0 : V.cell? ⟨w.heap.size, 0, none⟩ = some (.int .i64 k) := KE.out 0 _ rfl
  have e1 : V.cell? ⟨w.heap.size, 1, none⟩ = some (.int .i64 f) := KE.out 1 _ rfl
  have e2 : V.cell? ⟨w.heap.size, 2, none⟩ = some (.int .i64 t) := KE.out 2 _ rfl
  have e3 : V.cell? ⟨w.heap.size, 3, none⟩ = some (.int .i64 d) := KE.out 3 _ rfl
  have e4 : V.cell? ⟨w.heap.size, 4, none⟩ = some (.int .i64 h) := KE.out 4 _ rfl
  have e5 : V.cell? ⟨w.heap.size, 5, none⟩ = some (.slice none 0 0) := KE.out 5 _ rfl
  replace e0 := fun X => gr_cell (W0 := V) e0 X
  replace e1 := fun X => gr_cell (W0 := V) e1 X
  replace e2 := fun X => gr_cell (W0 := V) e2 X
  replace e3 := fun X => gr_cell (W0 := V) e3 X
  replace e4 := fun X => gr_cell (W0 := V) e4 X
  replace e5 := fun X => gr_cell (W0 := V) e5 X
  have hgr := gr_some V
  clear KE HIR HMO
  by_cases h1 : 0 ≤ h
  rotate_left
  · have HT : Hid (q = false) := not_true HQ.out (fun g => h1 g.1)
    have hd1 : decide (0 ≤ h) = false := decide_eq_false h1
    refine region_alike (by kernel_rfl) (by kernel_rfl) ?_
    repeat (first | (go_big_quiet_step (first | (go_at_call 127; exact gr_call (HIG.out _)) | (go_at_call 70; exact gr_call (HMG.out _)))) | (rw [hd1]) | (simp only [hd1]))
    refine wpQuiet_nil ?_
    intro _ hw'
    obtain ⟨X1, rfl⟩ := hw'
    have HBE : Hid (Below w.heap.size w X1.w) := HB0.out.trans (X1.h.mono HB0.out.size)
    generalize X1.w = W2 at HBE ⊢
    clear hgr HIG HMG e0 e1 e2 e3 e4 e5
    go_wp2
    go_ret
    exact ⟨ret_bool HT.out.symm, HBE.out⟩
  by_cases h2 : h ≤ d
  rotate_left
  · have HT : Hid (q = false) := not_true HQ.out (fun g => h2 g.2)
    have hd1 : decide (h ≤ d) = false := decide_eq_false h2
    refine region_alike (by kernel_rfl) (by kernel_rfl) ?_
    repeat (first | (go_big_quiet_step (first | (go_at_call 127; exact gr_call (HIG.out _)) | (go_at_call 70; exact gr_call (HMG.out _)))) | (rw [hd1]) | (simp only [hd1]))
    refine wpQuiet_nil ?_
    intro _ hw'
    obtain ⟨X1, rfl⟩ := hw'
    have HBE : Hid (Below w.heap.size w X1.w) := HB0.out.trans (X1.h.mono HB0.out.size)
    generalize X1.w = W2 at HBE ⊢
    clear hgr HIG HMG e0 e1 e2 e3 e4 e5
    go_wp2
    go_ret
    exact ⟨ret_bool HT.out.symm, HBE.out⟩
  have HT : Hid (q = true) := HQ.out.2 ⟨h1, h2⟩
  have hwr : IntKind.i64.wrap h = h := by rw [IntKind.wrap_i64]; omega
  have hwz : IntKind.i64.wrap (h + 0) = h := by rw [Int.add_zero]; exact hwr
  have h3 : h ≤ m := HMM.out h1 h2
  have hd1 : decide (h ≤ m) = true := decide_eq_true h3
  refine region_alike (by kernel_rfl) (by kernel_rfl) ?_
  repeat (first | (go_big_quiet_step (first | (go_at_call 127; exact gr_call (HIG.out _)) | (go_at_call 70; exact gr_call (HMG.out _)))) | (rw [hd1]) | (simp only [hd1]))
  refine wpQuiet_nil ?_
  intro _ hw'
  obtain ⟨X1, rfl⟩ := hw'
  have HBE : Hid (Below w.heap.size w X1.w) := HB0.out.trans (X1.h.mono HB0.out.size)
  generalize X1.w = W2 at HBE ⊢
  clear hgr HIG HMG e0 e1 e2 e3 e4 e5
  go_wp2
  go_ret
  exact ⟨ret_bool HT.out.symm, HBE.out⟩
set_option maxRecDepth 40000 in
set_option maxHeartbeats 8000000 in
theorem out_ok (k f t d h : Int) (q : Bool) (w : World) (hc : chOk k f t d = true) (hq : q = true ↔ (0 ≤ h ∧ h ≤ d)) : Calls Tryz.prog 73 #[crw k f t d, .agg #[.int .i64 h, .slice none 0 0]] w fun e w' => e = .returned (.bool q) ∧ Below w.heap.size w w' := by
  have HB0 : Hid (Below w.heap.size w ((w.alloc (.cells #[.int .i64 k, .int .i64 f, .int .i64 t, .int .i64 d] 106)).alloc (.cells #[.int .i64 h, .slice none 0 0] 127))) := ((Below.refl _ _).alloc (Nat.le_refl _) _).alloc (by simp) _
  have HS : Hid (∀ X, Calls Tryz.prog 105 #[.agg #[.int .i64 k, .int .i64 f, .int .i64 t, .int .i64 d, .int .i64 h, .slice none 0 0]] X fun e w' => e = .returned (.bool q) ∧ Below X.heap.size X w') := fun X => side_sound k f t d h q X hc hq
  clear hc hq
  go_enter Tryz.func73, Tryz.ntmps73
  go_wp2_with fail
  refine Calls.mono (send_side k f t d h _) ?_
  rintro e w1 ⟨rfl, hb⟩
  have HB1 : Hid (Below w.heap.size w w1) := HB0.out.trans (hb.mono HB0.out.size)
  clear hb HB0
  go_wp2_with fail
  refine Calls.mono (HS.out _) ?_
  rintro e w2 ⟨rfl, hb⟩
  have HB2 : Hid (Below w.heap.size w w2) := HB1.out.trans (hb.mono HB1.out.size)
  clear hb HB1
  go_wp2
  go_ret
  exact ⟨rfl, HB2.out⟩
set_option maxRecDepth 40000 in
set_option maxHeartbeats 8000000 in
theorem impl_feeds (t : Tb) (a : Ad) (p cy kd at_ hd : Int) (wa : Option Addr) (wn wc : Nat) (q : Bool) (w : World) (hm : TM 0 w t a) (hw : TW t a) (hs : TS a) (hsd : Sd t) (hq : q = true ↔ FRow t p kd at_ hd wn) :
    Calls Tryz.prog 39 #[tbV t a, .int .i64 p, .agg #[.int .i64 cy, .int .i64 kd, .int .i64 at_, .int .i64 hd, .slice wa wn wc]] w fun e w' => e = .returned (.bool q) ∧ Below w.heap.size w w' := by
  have HB0 : Hid (Below w.heap.size w ((w.alloc (.cells (tbA t a) 42)).alloc (.cells #[.int .i64 cy, .int .i64 kd, .int .i64 at_, .int .i64 hd, .slice wa wn wc] 67))) := ((Below.refl _ _).alloc (Nat.le_refl _) _).alloc (by simp) _
  have HX0 : Hid (TBx ((w.alloc (.cells (tbA t a) 42)).alloc (.cells #[.int .i64 cy, .int .i64 kd, .int .i64 at_, .int .i64 hd, .slice wa wn wc] 67)) w.heap.size t a) := (TBx.new w t a _ rfl).below ((Below.refl _ _).alloc (Nat.le_refl _) _)
  have KE : Hid (CellsAt ((w.alloc (.cells (tbA t a) 42)).alloc (.cells #[.int .i64 cy, .int .i64 kd, .int .i64 at_, .int .i64 hd, .slice wa wn wc] 67)) (w.heap.size + 1) 0 [.int .i64 cy, .int .i64 kd, .int .i64 at_, .int .i64 hd, .slice wa wn wc]) := CellsAt.new _ [.int .i64 cy, .int .i64 kd, .int .i64 at_, .int .i64 hd, .slice wa wn wc] _ _ (by simp)
  have HLC : t.cs.length = a.cn := hw.cl
  have HLD : t.ds.length = a.dn := hw.dl
  have hnc : a.cn ≤ 1048576 := hs.c
  have HMM : Hid (∀ X, Below w.heap.size w X → TM 0 X t a) := fun X hX => hm.below hX
  have HWS : Hid (TW t a ∧ TS a ∧ Sd t) := ⟨hw, hs, hsd⟩
  have HQ : Hid (q = true ↔ FRow t p kd at_ hd wn) := hq
  clear hm hw hs hsd hq
  by_cases k0 : kd = 0
  · subst k0
    have HQ1 : Hid (q = true ↔ FIn t p at_ hd wn) := HQ.out.trans ⟨fun h => by rcases h with h | h | h | h <;> (first | exact h.2 | (exact absurd h.1 (by decide))), fun h => .inl ⟨rfl, h⟩⟩
    clear HQ
    obtain ⟨q1, hq1⟩ := told ((0 ≤ at_ ∧ at_ < (a.cn : Int)) ∧ (t.cs.getD at_.toNat ch0).2.2.1 = p)
    have HTO : Hid (∀ X, Below w.heap.size w X → Calls Tryz.prog 68 #[tbV t a, .int .i64 p, .int .i64 at_] X fun e w' => e = .returned (.bool q1) ∧ Below X.heap.size X w') := fun X hX => is_to t a p at_ q1 X (HMM.out X hX) HWS.out.1 HWS.out.2.1 hq1
    go_enter Tryz.func39, Tryz.ntmps39
    go_wp2
    revert HB0 HX0 KE
    generalize ((w.alloc (.cells (tbA t a) 42)).alloc (.cells #[.int .i64 cy, .int .i64 0, .int .i64 at_, .int .i64 hd, .slice wa wn wc] 67)) = V
    obtain ⟨N, hN⟩ : ∃ N, w.heap.size + 1 = N := ⟨_, rfl⟩
    rw [hN]
    intro HB0 HX0 KE
    clear hN
    have HXX : Hid (∀ w', (∃ X : Gr V, w' = X.w) → w'.heap[w.heap.size]? = some (.cells (tbA t a) 42 (0, 0))) := fun w' hX => by
      obtain ⟨X, rfl⟩ := hX
      exact HX0.out.below X.h
    have hgr := gr_some V
    cases q1
    · have HT : Hid (q = false) := not_true HQ1.out (fun h => by have := hq1.2 (by rw [← HLC]; exact h.1); cases this)
      have HTG : Hid (∀ X : Gr V, Calls Tryz.prog 68 #[tbV t a, .int .i64 p, .int .i64 at_] X.w fun e w' => e = .returned (.bool false) ∧ Below X.w.heap.size X.w w') := fun X => HTO.out _ (HB0.out.trans (X.h.mono HB0.out.size))
      clear HTO hq1 HQ1
      have e0 : V.cell? ⟨N, 0, none⟩ = some (.int .i64 cy) := KE.out 0 _ rfl
      replace e0 := fun X => gr_cell (W0 := V) e0 X
      have e1 : V.cell? ⟨N, 1, none⟩ = some (.int .i64 0) := KE.out 1 _ rfl
      replace e1 := fun X => gr_cell (W0 := V) e1 X
      have e2 : V.cell? ⟨N, 2, none⟩ = some (.int .i64 at_) := KE.out 2 _ rfl
      replace e2 := fun X => gr_cell (W0 := V) e2 X
      have e3 : V.cell? ⟨N, 3, none⟩ = some (.int .i64 hd) := KE.out 3 _ rfl
      replace e3 := fun X => gr_cell (W0 := V) e3 X
      have e4 : V.cell? ⟨N, 4, none⟩ = some (.slice wa wn wc) := KE.out 4 _ rfl
      replace e4 := fun X => gr_cell (W0 := V) e4 X
      clear KE
      refine region_alike (by kernel_rfl) (by kernel_rfl) ?_
      (refine wpQuiet_load_row rfl 42 (.tmp 3) rfl w.heap.size rfl 42 (tbA t a) (0, 0) _ HXX.out Tryz.underlying42 rfl (by kernel_rfl) ?_; simp only [Act.put, List.setIfInBounds_toArray, List.set_cons_zero, List.set_cons_succ])
      repeat (go_big_quiet_step (first | (go_at_call 68; exact gr_call (HTG.out _))))
      refine wpQuiet_nil ?_
      intro _ hw'
      obtain ⟨X1, rfl⟩ := hw'
      have HBE : Hid (Below w.heap.size w X1.w) := HB0.out.trans (X1.h.mono HB0.out.size)
      generalize X1.w = W2 at HBE ⊢
      clear hgr HXX e0 e1 e2 e3 e4
      go_wp2
      go_ret
      exact ⟨ret_bool HT.out.symm, HBE.out⟩
    have h1 := hq1.1 (by first | rfl | trivial)
    obtain ⟨X, rfl⟩ : ∃ X : Nat, at_ = (X : Int) := ⟨at_.toNat, by omega⟩
    have hX : X < a.cn := by omega
    have hX' : (X : Int) < (a.cn : Int) := by omega
    have hX0 : 0 ≤ (X : Int) := by omega
    have HTG : Hid (∀ X' : Gr V, Calls Tryz.prog 68 #[tbV t a, .int .i64 p, .int .i64 (X : Int)] X'.w fun e w' => e = .returned (.bool true) ∧ Below X'.w.heap.size X'.w w') := fun X' => HTO.out _ (HB0.out.trans (X'.h.mono HB0.out.size))
    have hch := sd_ch HWS.out.2.2 (i := X) (by omega)
    have HQ2 : Hid (q = true ↔ (hd = 0 ∧ 1 ≤ (wn : Int) ∧ (wn : Int) ≤ mostF (t.cs.getD X ch0).1 (t.cs.getD X ch0).2.2.2)) := HQ1.out.trans ⟨fun h => ⟨h.2.1, h.2.2.1, by have h9 := h.2.2.2; simp only [Int.toNat_natCast] at h9; unfold chM at h9; unfold mostF; split at h9 <;> split <;> omega⟩, fun h => ⟨by rw [HLC]; exact h1, h.1, h.2.1, by have h9 := h.2.2; simp only [Int.toNat_natCast]; unfold mostF at h9; unfold chM; split at h9 <;> split <;> omega⟩⟩
    have k17 : V.cell? ⟨w.heap.size, 17, none⟩ = some (.slice a.ca a.cn a.cc) := HX0.out.cell 17 rfl
    obtain ⟨b1, o1, hsa, hbl1, p1⟩ := (HMM.out _ HB0.out).c.seg.at X hX
    rw [hsa] at k17
    simp only [chX] at p1
    generalize t.cs.getD X ch0 = y at p1 HQ2 hch
    obtain ⟨c0, c1, c2, c3⟩ := ch_cells p1
    obtain ⟨x1, x2, x3, x4⟩ := y
    simp only at c0 c1 c2 c3 HQ2 hch
    replace k17 := fun X => gr_cell (W0 := V) k17 X
    replace c0 := fun X => gr_cell (W0 := V) c0 X
    replace c1 := fun X => gr_cell (W0 := V) c1 X
    replace c2 := fun X => gr_cell (W0 := V) c2 X
    replace c3 := fun X => gr_cell (W0 := V) c3 X
    clear p1 hbl1 hsa
    obtain ⟨m, HM⟩ : ∃ m, Hid (mostF x1 x4 = m) := ⟨_, rfl⟩
    rw [HM.out] at HQ2
    have HMO : Hid (∀ X' : Gr V, Calls Tryz.prog 70 #[crw x1 x2 x3 x4] X'.w fun e w' => e = .returned (.int .i64 m) ∧ Below X'.w.heap.size X'.w w') := fun X' => impl_most x1 x2 x3 x4 m X'.w HM
    have HNW : Hid (∀ X' : Gr V, Calls Tryz.prog 69 #[.agg #[.int .i64 cy, .int .i64 0, .int .i64 (X : Int), .int .i64 hd, .slice wa wn wc], .int .i64 m] X'.w fun e w' => e = .returned (.bool q) ∧ Below X'.w.heap.size X'.w w') := fun X' => names_words cy 0 (X : Int) hd wa wn wc m q X'.w HQ2.out
    clear HTO hq1 HQ1 HQ2 HM hch h1
    have e0 : V.cell? ⟨N, 0, none⟩ = some (.int .i64 cy) := KE.out 0 _ rfl
    replace e0 := fun X => gr_cell (W0 := V) e0 X
    have e1 : V.cell? ⟨N, 1, none⟩ = some (.int .i64 0) := KE.out 1 _ rfl
    replace e1 := fun X => gr_cell (W0 := V) e1 X
    have e2 : V.cell? ⟨N, 2, none⟩ = some (.int .i64 (X : Int)) := KE.out 2 _ rfl
    replace e2 := fun X => gr_cell (W0 := V) e2 X
    have e3 : V.cell? ⟨N, 3, none⟩ = some (.int .i64 hd) := KE.out 3 _ rfl
    replace e3 := fun X => gr_cell (W0 := V) e3 X
    have e4 : V.cell? ⟨N, 4, none⟩ = some (.slice wa wn wc) := KE.out 4 _ rfl
    replace e4 := fun X => gr_cell (W0 := V) e4 X
    clear KE
    refine region_alike (by kernel_rfl) (by kernel_rfl) ?_
    (refine wpQuiet_load_row rfl 42 (.tmp 3) rfl w.heap.size rfl 42 (tbA t a) (0, 0) _ HXX.out Tryz.underlying42 rfl (by kernel_rfl) ?_; simp only [Act.put, List.setIfInBounds_toArray, List.set_cons_zero, List.set_cons_succ])
    repeat (go_big_quiet_step (first | (go_at_call 68; exact gr_call (HTG.out _)) | (go_at_call 70; exact gr_call (HMO.out _)) | (go_at_call 69; exact gr_call (HNW.out _))))
    refine wpQuiet_nil ?_
    intro _ hw'
    obtain ⟨X1, rfl⟩ := hw'
    have HBE : Hid (Below w.heap.size w X1.w) := HB0.out.trans (X1.h.mono HB0.out.size)
    generalize X1.w = W2 at HBE ⊢
    clear hgr HXX e0 e1 e2 e3 e4
    go_wp2
    go_ret
    exact ⟨rfl, HBE.out⟩
  by_cases k1 : kd = 1
  · subst k1
    have HQ1 : Hid (q = true ↔ FHeld t p at_ hd wn) := HQ.out.trans ⟨fun h => by rcases h with h | h | h | h <;> (first | exact h.2 | (exact absurd h.1 (by decide))), fun h => .inr (.inl ⟨rfl, h⟩)⟩
    clear HQ k0
    obtain ⟨q1, hq1⟩ := told ((0 ≤ at_ ∧ at_ < (a.cn : Int)) ∧ (t.cs.getD at_.toNat ch0).2.1 = p)
    obtain ⟨q2, hq2⟩ := told ((wn : Int) = 0)
    have HFO : Hid (∀ X, Below w.heap.size w X → Calls Tryz.prog 71 #[tbV t a, .int .i64 p, .int .i64 at_] X fun e w' => e = .returned (.bool q1) ∧ Below X.heap.size X w') := fun X hX => is_from t a p at_ q1 X (HMM.out X hX) HWS.out.1 HWS.out.2.1 hq1
    go_enter Tryz.func39, Tryz.ntmps39
    go_wp2
    revert HB0 HX0 KE
    generalize ((w.alloc (.cells (tbA t a) 42)).alloc (.cells #[.int .i64 cy, .int .i64 1, .int .i64 at_, .int .i64 hd, .slice wa wn wc] 67)) = V
    obtain ⟨N, hN⟩ : ∃ N, w.heap.size + 1 = N := ⟨_, rfl⟩
    rw [hN]
    intro HB0 HX0 KE
    clear hN
    have HXX : Hid (∀ w', (∃ X : Gr V, w' = X.w) → w'.heap[w.heap.size]? = some (.cells (tbA t a) 42 (0, 0))) := fun w' hX => by
      obtain ⟨X, rfl⟩ := hX
      exact HX0.out.below X.h
    have hgr := gr_some V
    cases q1
    · have HT : Hid (q = false) := not_true HQ1.out (fun h => by have := hq1.2 (by rw [← HLC]; exact h.1); cases this)
      have HTG : Hid (∀ X : Gr V, Calls Tryz.prog 71 #[tbV t a, .int .i64 p, .int .i64 at_] X.w fun e w' => e = .returned (.bool false) ∧ Below X.w.heap.size X.w w') := fun X => HFO.out _ (HB0.out.trans (X.h.mono HB0.out.size))
      clear HFO hq1 HQ1
      have e0 : V.cell? ⟨N, 0, none⟩ = some (.int .i64 cy) := KE.out 0 _ rfl
      replace e0 := fun X => gr_cell (W0 := V) e0 X
      have e1 : V.cell? ⟨N, 1, none⟩ = some (.int .i64 1) := KE.out 1 _ rfl
      replace e1 := fun X => gr_cell (W0 := V) e1 X
      have e2 : V.cell? ⟨N, 2, none⟩ = some (.int .i64 at_) := KE.out 2 _ rfl
      replace e2 := fun X => gr_cell (W0 := V) e2 X
      have e3 : V.cell? ⟨N, 3, none⟩ = some (.int .i64 hd) := KE.out 3 _ rfl
      replace e3 := fun X => gr_cell (W0 := V) e3 X
      have e4 : V.cell? ⟨N, 4, none⟩ = some (.slice wa wn wc) := KE.out 4 _ rfl
      replace e4 := fun X => gr_cell (W0 := V) e4 X
      clear KE
      refine region_alike (by kernel_rfl) (by kernel_rfl) ?_
      (refine wpQuiet_load_row rfl 42 (.tmp 3) rfl w.heap.size rfl 42 (tbA t a) (0, 0) _ HXX.out Tryz.underlying42 rfl (by kernel_rfl) ?_; simp only [Act.put, List.setIfInBounds_toArray, List.set_cons_zero, List.set_cons_succ])
      repeat (go_big_quiet_step (first | (go_at_call 71; exact gr_call (HTG.out _))))
      refine wpQuiet_nil ?_
      intro _ hw'
      obtain ⟨X1, rfl⟩ := hw'
      have HBE : Hid (Below w.heap.size w X1.w) := HB0.out.trans (X1.h.mono HB0.out.size)
      generalize X1.w = W2 at HBE ⊢
      clear hgr HXX e0 e1 e2 e3 e4
      go_wp2
      go_ret
      exact ⟨ret_bool HT.out.symm, HBE.out⟩
    have h1 := hq1.1 (by first | rfl | trivial)
    obtain ⟨X, rfl⟩ : ∃ X : Nat, at_ = (X : Int) := ⟨at_.toNat, by omega⟩
    have hX : X < a.cn := by omega
    have hX' : (X : Int) < (a.cn : Int) := by omega
    have hX0 : 0 ≤ (X : Int) := by omega
    have HTG : Hid (∀ X' : Gr V, Calls Tryz.prog 71 #[tbV t a, .int .i64 p, .int .i64 (X : Int)] X'.w fun e w' => e = .returned (.bool true) ∧ Below X'.w.heap.size X'.w w') := fun X' => HFO.out _ (HB0.out.trans (X'.h.mono HB0.out.size))
    have HNH : Hid (∀ X' : Gr V, Calls Tryz.prog 72 #[.agg #[.int .i64 cy, .int .i64 1, .int .i64 (X : Int), .int .i64 hd, .slice wa wn wc]] X'.w fun e w' => e = .returned (.bool q2) ∧ Below X'.w.heap.size X'.w w') := fun X' => names_held cy 1 (X : Int) hd wa wn wc q2 X'.w hq2
    cases q2
    · have HT : Hid (q = false) := not_true HQ1.out (fun h => by have := hq2.2 h.2.2; cases this)
      clear HFO hq1 HQ1 hq2 h1
      have e0 : V.cell? ⟨N, 0, none⟩ = some (.int .i64 cy) := KE.out 0 _ rfl
      replace e0 := fun X => gr_cell (W0 := V) e0 X
      have e1 : V.cell? ⟨N, 1, none⟩ = some (.int .i64 1) := KE.out 1 _ rfl
      replace e1 := fun X => gr_cell (W0 := V) e1 X
      have e2 : V.cell? ⟨N, 2, none⟩ = some (.int .i64 (X : Int)) := KE.out 2 _ rfl
      replace e2 := fun X => gr_cell (W0 := V) e2 X
      have e3 : V.cell? ⟨N, 3, none⟩ = some (.int .i64 hd) := KE.out 3 _ rfl
      replace e3 := fun X => gr_cell (W0 := V) e3 X
      have e4 : V.cell? ⟨N, 4, none⟩ = some (.slice wa wn wc) := KE.out 4 _ rfl
      replace e4 := fun X => gr_cell (W0 := V) e4 X
      clear KE
      refine region_alike (by kernel_rfl) (by kernel_rfl) ?_
      (refine wpQuiet_load_row rfl 42 (.tmp 3) rfl w.heap.size rfl 42 (tbA t a) (0, 0) _ HXX.out Tryz.underlying42 rfl (by kernel_rfl) ?_; simp only [Act.put, List.setIfInBounds_toArray, List.set_cons_zero, List.set_cons_succ])
      repeat (go_big_quiet_step (first | (go_at_call 71; exact gr_call (HTG.out _)) | (go_at_call 72; exact gr_call (HNH.out _))))
      refine wpQuiet_nil ?_
      intro _ hw'
      obtain ⟨X1, rfl⟩ := hw'
      have HBE : Hid (Below w.heap.size w X1.w) := HB0.out.trans (X1.h.mono HB0.out.size)
      generalize X1.w = W2 at HBE ⊢
      clear hgr HXX e0 e1 e2 e3 e4
      go_wp2
      go_ret
      exact ⟨ret_bool HT.out.symm, HBE.out⟩
    have h2 := hq2.1 (by first | rfl | trivial)
    have hck := sd_chk HWS.out.2.2 (i := X) (by omega)
    have HQ2 : Hid (q = true ↔ (0 ≤ hd ∧ hd ≤ (t.cs.getD X ch0).2.2.2)) := HQ1.out.trans ⟨fun h => by have h9 := h.2.1; simpa using h9, fun h => ⟨by rw [HLC]; exact h1, by simpa using h, h2⟩⟩
    have HOO : Hid (∀ X' : Gr V, Calls Tryz.prog 73 #[crw (t.cs.getD X ch0).1 (t.cs.getD X ch0).2.1 (t.cs.getD X ch0).2.2.1 (t.cs.getD X ch0).2.2.2, .agg #[.int .i64 hd, .slice none 0 0]] X'.w fun e w' => e = .returned (.bool q) ∧ Below X'.w.heap.size X'.w w') := fun X' => out_ok _ _ _ _ hd q X'.w hck HQ2.out
    have k17 : V.cell? ⟨w.heap.size, 17, none⟩ = some (.slice a.ca a.cn a.cc) := HX0.out.cell 17 rfl
    obtain ⟨b1, o1, hsa, hbl1, p1⟩ := (HMM.out _ HB0.out).c.seg.at X hX
    rw [hsa] at k17
    simp only [chX] at p1
    generalize t.cs.getD X ch0 = y at p1 HQ2 hck HOO
    obtain ⟨c0, c1, c2, c3⟩ := ch_cells p1
    obtain ⟨x1, x2, x3, x4⟩ := y
    simp only at c0 c1 c2 c3 HQ2 hck HOO
    replace k17 := fun X => gr_cell (W0 := V) k17 X
    replace c0 := fun X => gr_cell (W0 := V) c0 X
    replace c1 := fun X => gr_cell (W0 := V) c1 X
    replace c2 := fun X => gr_cell (W0 := V) c2 X
    replace c3 := fun X => gr_cell (W0 := V) c3 X
    clear p1 hbl1 hsa
    clear HFO hq1 HQ1 hq2 h1 h2 HQ2 hck
    have e0 : V.cell? ⟨N, 0, none⟩ = some (.int .i64 cy) := KE.out 0 _ rfl
    replace e0 := fun X => gr_cell (W0 := V) e0 X
    have e1 : V.cell? ⟨N, 1, none⟩ = some (.int .i64 1) := KE.out 1 _ rfl
    replace e1 := fun X => gr_cell (W0 := V) e1 X
    have e2 : V.cell? ⟨N, 2, none⟩ = some (.int .i64 (X : Int)) := KE.out 2 _ rfl
    replace e2 := fun X => gr_cell (W0 := V) e2 X
    have e3 : V.cell? ⟨N, 3, none⟩ = some (.int .i64 hd) := KE.out 3 _ rfl
    replace e3 := fun X => gr_cell (W0 := V) e3 X
    have e4 : V.cell? ⟨N, 4, none⟩ = some (.slice wa wn wc) := KE.out 4 _ rfl
    replace e4 := fun X => gr_cell (W0 := V) e4 X
    clear KE
    refine region_alike (by kernel_rfl) (by kernel_rfl) ?_
    (refine wpQuiet_load_row rfl 42 (.tmp 3) rfl w.heap.size rfl 42 (tbA t a) (0, 0) _ HXX.out Tryz.underlying42 rfl (by kernel_rfl) ?_; simp only [Act.put, List.setIfInBounds_toArray, List.set_cons_zero, List.set_cons_succ])
    repeat (go_big_quiet_step (first | (go_at_call 71; exact gr_call (HTG.out _)) | (go_at_call 72; exact gr_call (HNH.out _)) | (go_at_call 73; exact gr_call (HOO.out _))))
    refine wpQuiet_nil ?_
    intro _ hw'
    obtain ⟨X1, rfl⟩ := hw'
    have HBE : Hid (Below w.heap.size w X1.w) := HB0.out.trans (X1.h.mono HB0.out.size)
    generalize X1.w = W2 at HBE ⊢
    clear hgr HXX e0 e1 e2 e3 e4
    go_wp2
    go_ret
    exact ⟨rfl, HBE.out⟩
  have hk0 : (kd == 0) = false := eqb_no k0
  have hk1 : (kd == 1) = false := eqb_no k1
  by_cases k2 : kd = 2
  · subst k2
    have HQ1 : Hid (q = true ↔ FDev t p at_ hd wn) := HQ.out.trans ⟨fun h => by rcases h with h | h | h | h <;> (first | exact h.2 | (exact absurd h.1 (by decide))), fun h => .inr (.inr (.inl ⟨rfl, h⟩))⟩
    clear HQ k0 k1 hk0 hk1
    obtain ⟨q1, hq1⟩ := told ((0 ≤ at_ ∧ at_ < (a.dn : Int)) ∧ t.ds.getD at_.toNat 0 = p)
    have HOW : Hid (∀ X, Below w.heap.size w X → Calls Tryz.prog 74 #[tbV t a, .int .i64 p, .int .i64 at_] X fun e w' => e = .returned (.bool q1) ∧ Below X.heap.size X w') := fun X hX => is_owner t a p at_ q1 X (HMM.out X hX) HWS.out.1 HWS.out.2.1 hq1
    go_enter Tryz.func39, Tryz.ntmps39
    go_wp2_with (first | (refine wpList_load_row rfl 42 (.tmp 3) rfl w.heap.size rfl 42 (tbA t a) (0, 0) _ HX0.out Tryz.underlying42 rfl (by kernel_rfl) ?_) | fail)
    revert HB0 HX0 KE
    generalize ((w.alloc (.cells (tbA t a) 42)).alloc (.cells #[.int .i64 cy, .int .i64 2, .int .i64 at_, .int .i64 hd, .slice wa wn wc] 67)) = V
    obtain ⟨N, hN⟩ : ∃ N, w.heap.size + 1 = N := ⟨_, rfl⟩
    rw [hN]
    intro HB0 HX0 KE
    clear hN
    refine Calls.mono (HOW.out _ HB0.out) ?_
    rintro e w1 ⟨rfl, hb1⟩
    have HB1 : Hid (Below w.heap.size w w1) := HB0.out.trans (hb1.mono HB0.out.size)
    have KE1 : Hid (CellsAt w1 N 0 [.int .i64 cy, .int .i64 2, .int .i64 at_, .int .i64 hd, .slice wa wn wc]) := KE.out.below hb1
    clear hb1 HB0 KE HOW
    cases q1
    · have HT : Hid (q = false) := not_true HQ1.out (fun h => by have := hq1.2 (by rw [← HLD]; exact h.1); cases this)
      clear hq1 HQ1
      go_wp2
      go_ret
      exact ⟨ret_bool HT.out.symm, HB1.out⟩
    have h1 := hq1.1 (by first | rfl | trivial)
    have HQ2 : Hid (q = true ↔ (hd = 0 ∧ 1 ≤ (wn : Int) ∧ (wn : Int) ≤ 1)) := HQ1.out.trans ⟨fun h => ⟨h.2.1, by have := h.2.2; omega⟩, fun h => ⟨by rw [HLD]; exact h1, h.1, by have := h.2; omega⟩⟩
    have e0 : w1.cell? ⟨N, 0, none⟩ = some (.int .i64 cy) := KE1.out 0 _ rfl
    have e1 : w1.cell? ⟨N, 1, none⟩ = some (.int .i64 2) := KE1.out 1 _ rfl
    have e2 : w1.cell? ⟨N, 2, none⟩ = some (.int .i64 at_) := KE1.out 2 _ rfl
    have e3 : w1.cell? ⟨N, 3, none⟩ = some (.int .i64 hd) := KE1.out 3 _ rfl
    have e4 : w1.cell? ⟨N, 4, none⟩ = some (.slice wa wn wc) := KE1.out 4 _ rfl
    clear HQ1 hq1 h1
    go_wp2_with fail
    refine Calls.mono (names_words cy 2 at_ hd wa wn wc 1 q _ HQ2.out) ?_
    rintro e w2 ⟨rfl, hb2⟩
    have HB2 : Hid (Below w.heap.size w w2) := HB1.out.trans (hb2.mono HB1.out.size)
    clear hb2 HB1 KE1 e0 e1 e2 e3 e4
    go_wp2
    go_ret
    exact ⟨rfl, HB2.out⟩
  have hk2 : (kd == 2) = false := eqb_no k2
  by_cases k3 : kd = 3
  · subst k3
    have HQ1 : Hid (q = true ↔ FRest at_ hd wn) := HQ.out.trans ⟨fun h => by rcases h with h | h | h | h <;> (first | exact h.2 | (exact absurd h.1 (by decide))), fun h => .inr (.inr (.inr ⟨rfl, h⟩))⟩
    clear HQ k0 k1 k2 hk0 hk1 hk2
    have HNN : Hid (∀ X, Calls Tryz.prog 75 #[.agg #[.int .i64 cy, .int .i64 3, .int .i64 at_, .int .i64 hd, .slice wa wn wc]] X fun e w' => e = .returned (.bool q) ∧ Below X.heap.size X w') := fun X => names_none cy 3 at_ hd wa wn wc q X HQ1.out
    clear HQ1
    go_enter Tryz.func39, Tryz.ntmps39
    go_wp2_with fail
    refine Calls.mono (HNN.out _) ?_
    rintro e w1 ⟨rfl, hb1⟩
    have HB1 : Hid (Below w.heap.size w w1) := HB0.out.trans (hb1.mono HB0.out.size)
    clear hb1 HB0 KE HNN HX0
    go_wp2
    go_ret
    exact ⟨rfl, HB1.out⟩
  have hk3 : (kd == 3) = false := eqb_no k3
  have HT : Hid (q = false) := not_true HQ.out (fun h => by rcases h with h | h | h | h; exact k0 h.1; exact k1 h.1; exact k2 h.1; exact k3 h.1)
  clear HQ k0 k1 k2 k3 KE HX0
  go_enter Tryz.func39, Tryz.ntmps39
  go_wp2
  go_ret
  exact ⟨ret_bool HT.out.symm, HB0.out⟩
end Go.Proofs.YtiheojmknhgjfaaGreatDoor
