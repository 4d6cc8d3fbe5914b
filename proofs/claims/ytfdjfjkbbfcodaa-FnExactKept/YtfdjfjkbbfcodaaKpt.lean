
/-
  The windows that allow kinds of access: the program's own function. Conditions: the sizes are numbers of 64 bits; the slice's capacity is at least its length.
-/
import Derived.Test.YtfdjfjkbbfcodaaBas
import Derived.Test.YtfdjfjkbbfcodaaProg
import Derived.Test.YtfdjfjkbbfcodaaAlw
import Derived.Maps.AppendAt
namespace Go.Proofs.Ytfdjfjkbbfcodaa
open Go.ChangeShapes Go.WideShapes Go.ChangeAt Go.RowKit Go.Deep Go.Shelf
set_option linter.unusedVariables false
attribute [local go_sem] Oper.semAt_some

/-- The windows at these places that allow the kinds, in order. -/
def keptL (xs : List Wn) (kd : Int) (ps : List Nat) : List Wn := (ps.map fun k => xs.getD k wn0).filter fun x => alw x.2.2 kd
theorem keptL_hit {xs : List Wn} {kd : Int} {k : Nat} (ps : List Nat) (h : alw (xs.getD k wn0).2.2 kd = true) : keptL xs kd (ps ++ [k]) = keptL xs kd ps ++ [xs.getD k wn0] := by
  simp only [keptL, List.map_append, List.filter_append, List.map_cons, List.map_nil, List.filter_cons, h, if_true, List.filter_nil]
theorem keptL_miss {xs : List Wn} {kd : Int} {k : Nat} (ps : List Nat) (h : alw (xs.getD k wn0).2.2 kd = false) : keptL xs kd (ps ++ [k]) = keptL xs kd ps := by
  simp [keptL, List.filter_append, List.filter_cons]
  simpa using h
theorem keptL_len (xs : List Wn) (kd : Int) (ps : List Nat) : (keptL xs kd ps).length ≤ ps.length := by
  unfold keptL
  exact Nat.le_trans (List.length_filter_le _ _) (by simp)
theorem OwnA.grown {A B : World} {base : Nat} {v : Value} {xs : List Wn} {row : Option Nat} (h : OwnA A base v xs) (hg : A.grownBy B row) (hr : ∀ r, row = some r → ∃ o : Obj, A.heap[r]? = some o ∧ o.isCells = false) : OwnA B base v xs := by
  refine World.ownsRow.kept h hg ?_
  rcases h.2 with ⟨rfl, _⟩ | ⟨g, cap, cur, rfl, _, hgb, _⟩
  · exact .inl rfl
  · refine .inr fun e' => ?_
    obtain ⟨o, ho, hc⟩ := hr g (by simpa [Value.ownBlock] using e'.symm)
    rw [hgb] at ho; cases ho; cases hc
theorem box_own {A B : World} {b : Nat} {t : TypeId} {v : Value} {row : Option Nat} (h : Boxed A b t v) (hg : A.grownBy B row) (hr : ∀ r, row = some r → ∃ o : Obj, A.heap[r]? = some o ∧ o.isCells = false) : Boxed B b t v :=
  h.kept hg (fun e' => by
    obtain ⟨o, ho, hc⟩ := hr b e'.symm
    rw [show A.heap[b]? = _ from h] at ho; cases ho; cases hc)
theorem box_below {A B : World} {b : Nat} {t : TypeId} {v : Value} (h : Boxed A b t v) (hb : Below A.heap.size A B) : Boxed B b t v := (hb.block b h.lt).trans h
set_option maxRecDepth 100000 in
set_option maxHeartbeats 4000000 in
theorem impl_kept_no (a : Option Addr) (cap n : Nat) (kd : Int) (w : World) (hk : ¬ (1 ≤ kd ∧ kd ≤ 7)) :
    Calls Try.prog 26 #[.slice a n cap, .int .i64 kd] w fun e w' => ∃ v, e = .returned v ∧ Below w.heap.size w w' ∧ OwnA w' w.heap.size v [] := by
  have HI : Hid (inr kd 1 7 = false) := inr_no hk
  clear hk
  have hal1 : Below w.heap.size w (w.alloc (.cells #[.int .i64 kd] 3)) := (Below.refl _ _).alloc (Nat.le_refl _) _
  have hal2 := hal1.alloc hal1.size (.cells #[] 60)
  have hal3 := hal2.alloc hal2.size (.cells #[.slice (some ⟨w.heap.size + 1, 0, none⟩) 0 0] 25)
  have o1 := ((OwnA.new (w.alloc (.cells #[.int .i64 kd] 3)) (w.heap.size + 1) (by simp)).below ((Below.refl _ _).alloc (Nat.le_refl _) (.cells #[.slice (some ⟨w.heap.size + 1, 0, none⟩) 0 0] 25))).low (b' := w.heap.size) (by omega)
  have HZ : Hid _ := And.intro hal3 o1
  clear hal1 hal2 hal3 o1
  refine (callsIn_wide (n := 6)).1 ?_
  refine callsIn_of_wp_marks Try.func26 rfl trivial ?_ rfl
  simp only [Try.ntmps26, List.size_toArray, List.length_cons, List.length_nil, Nat.reduceAdd, Nat.reduceSub, Array.replicate_succ, Array.replicate_zero, List.push_toArray, List.append_toArray, List.nil_append, List.cons_append]
  gi_wp2_with (refine ⟨trivial, ?_⟩; gi_at_call 61; refine (callsIn_wide.2 (is_perm kd _)).mono ?_; rintro e w' ⟨rfl, rfl⟩; rw [HI.out])
  exact ⟨.slice (some ⟨w.heap.size + 1, 0, none⟩) 0 0, by simp [results, Try.results26, go_sem], _, rfl, HZ.out.1, HZ.out.2⟩
set_option maxRecDepth 100000 in
set_option maxHeartbeats 4000000 in
theorem impl_kept_yes (a : Option Addr) (cap n : Nat) (xs : List Wn) (kd : Int) (q : Bool) (N : Nat) (w : World) (hk : 1 ≤ kd ∧ kd ≤ 7) (hs : ASeg w a xs) (hf : Fit xs) (hl : xs.length = n) (hn : n ≤ 9223372036854775807) (hc : n ≤ cap) (hq : q = true ↔ WsOk xs) (hN0 : q = false → N = 0) (hN1 : q = true → N = n) :
    Calls Try.prog 26 #[.slice a n cap, .int .i64 kd] w fun e w' => ∃ v, e = .returned v ∧ Below w.heap.size w w' ∧ OwnA w' w.heap.size v (keptL xs kd (List.range N)) := by
  have HI : Hid (inr kd 1 7 = true) := inr_yes hk
  clear hk
  obtain ⟨i0, hi, hz0, hz1, hz2⟩ := infoA'
  have hlow := fun h0 b off e => ASeg.low hs hl h0 b off e
  refine (callsIn_wide (n := 6)).1 ?_
  refine callsIn_of_wp_marks Try.func26 rfl trivial ?_ rfl
  simp only [Try.ntmps26, List.size_toArray, List.length_cons, List.length_nil, Nat.reduceAdd, Nat.reduceSub, Array.replicate_succ, Array.replicate_zero, List.push_toArray, List.append_toArray, List.nil_append, List.cons_append]
  gi_wp2_with (first | (refine ⟨trivial, ?_⟩; gi_at_call 61; refine (callsIn_wide.2 (is_perm kd _)).mono ?_; rintro e w' ⟨rfl, rfl⟩; rw [HI.out]) | (refine ⟨trivial, ?_⟩; gi_at_call 55; refine (snd_in _ _ _ _ _).mono ?_; rintro e w' ⟨rfl, rfl⟩))
  have hal1 : Below w.heap.size w (w.alloc (.cells #[.int .i64 kd] 3)) := (Below.refl _ _).alloc (Nat.le_refl _) _
  have hal2 := hal1.alloc hal1.size (.cells #[] 60)
  have hal3 := hal2.alloc hal2.size (.cells #[.slice (some ⟨w.heap.size + 1, 0, none⟩) 0 0] 25)
  have hal4 := hal3.alloc hal3.size (.cells #[.slice a n cap] 25)
  have o1 := (((OwnA.new (w.alloc (.cells #[.int .i64 kd] 3)) (w.heap.size + 1) (by simp)).below ((Below.refl _ _).alloc (Nat.le_refl _) (.cells #[.slice (some ⟨w.heap.size + 1, 0, none⟩) 0 0] 25))).below ((Below.refl _ _).alloc (Nat.le_refl _) (.cells #[.slice a n cap] 25))).low (b' := w.heap.size) (by omega)
  have bK := (((Boxed.new w 3 (.int .i64 kd)).alloc (.cells #[] 60)).alloc (.cells #[.slice (some ⟨w.heap.size + 1, 0, none⟩) 0 0] 25)).alloc (.cells #[.slice a n cap] 25)
  have bV := (Boxed.new ((w.alloc (.cells #[.int .i64 kd] 3)).alloc (.cells #[] 60)) 25 (.slice (some ⟨w.heap.size + 1, 0, none⟩) 0 0)).alloc (.cells #[.slice a n cap] 25)
  have bS := Boxed.new (((w.alloc (.cells #[.int .i64 kd] 3)).alloc (.cells #[] 60)).alloc (.cells #[.slice (some ⟨w.heap.size + 1, 0, none⟩) 0 0] 25)) 25 (.slice a n cap)
  simp only [World.size_alloc] at bV bS
  have hseg := hs.below hal4
  obtain ⟨W0, hW0⟩ : ∃ W0, (((w.alloc (.cells #[.int .i64 kd] 3)).alloc (.cells #[] 60)).alloc (.cells #[.slice (some ⟨w.heap.size + 1, 0, none⟩) 0 0] 25)).alloc (.cells #[.slice a n cap] 25) = W0 := ⟨_, rfl⟩
  rw [hW0] at bK bV bS hseg hal4 o1 ⊢
  have hsz : W0.heap.size = w.heap.size + 4 := by rw [← hW0]; simp
  clear hW0 hal1 hal2 hal3 hs
  refine wpIn_rangeFunc_ownH (Kp := KB w.heap.size (w.heap.size + 1 + 1 + 1)) rfl (by omega) (gf := 88) (lb := #[.pointer (some ⟨w.heap.size + 1 + 1 + 1, 0, none⟩)]) rfl trivial (enters_of Try.func88 (by kernel_rfl) rfl)
    (snd_stops (6 - 1) (by omega) (w.heap.size + 1 + 1 + 1) w.heap.size n cap a xs q hq hf hl hn hc N hN0 hN1 W0 (by omega) (by omega) bS.cell hseg hlow) (fun h g => h.trans g)
    (fun W l o o' hl ho h1 h2 => ⟨belowK_b (w := W0) (by omega) W l o o' hl ho h1 h2, by
      have hne : w.heap.size + 1 + 1 + 1 ≠ l := by omega
      simp [World.putObj, Ne.symm hne]⟩) (Below.refl _ _) (fun _ => rfl)
    (fun pre W => Boxed W w.heap.size 3 (.int .i64 kd) ∧ Boxed W (w.heap.size + 1 + 1 + 1) 25 (.slice a n cap) ∧ (∃ v, Boxed W (w.heap.size + 1 + 1) 25 v ∧ OwnA W w.heap.size v (keptL xs kd (pre.map (·.1)))) ∧ Below w.heap.size w W ∧ W0.heap.size ≤ W.heap.size)
    (fun _ _ _ => False)
    (fun s A B row hs hg hr => by
      obtain ⟨h1, h2, ⟨v, h3, h4⟩, h5, h6⟩ := hs
      have hr' := fun r e => (hr r e).2
      exact ⟨box_own h1 hg hr', box_own h2 hg hr', ⟨v, box_own h3 hg hr', h4.grown hg hr'⟩, Below.grown h5 hg h5.size (fun k e => by have := (hr k e).1; omega), Nat.le_trans h6 hg.size⟩)
    (fun _ _ _ _ _ hs _ _ => hs)
    ⟨bK, bS, ⟨_, bV, o1⟩, hal4, Nat.le_refl _⟩
    (fun x a' W => ∃ Bx, w.heap.size + 1 + 1 + 1 < Bx ∧ Bk W Bx #[.int .i64 (xs.getD x.1 wn0).1, .int .i64 (xs.getD x.1 wn0).2.1, .int .i64 (xs.getD x.1 wn0).2.2] ∧ a' = { tmps := #[.slice a n cap, .int .i64 kd, undef, .pointer (some ⟨w.heap.size, 0, none⟩), .slice none 0 0, .pointer (some ⟨w.heap.size + 1 + 1, 0, none⟩), undef, .pointer (some ⟨Bx, 0, none⟩), .slice (some ⟨w.heap.size + 1, 0, none⟩) 0 0, .int .i64 kd, .bool true, .bool false, undef, .slice a n cap, .func (.func 88) #[] #[.pointer (some ⟨w.heap.size + 1 + 1 + 1, 0, none⟩)], .int .i64 (x.1 : Int), win (xs.getD x.1 wn0).1 (xs.getD x.1 wn0).2.1 (xs.getD x.1 wn0).2.2, undef, undef, undef, undef, undef, undef, undef, undef], defers := [] })
    (fun x a' _ A B row hs hg hr => by
      obtain ⟨Bx, h1, h2, h3⟩ := hs
      exact ⟨Bx, h1, h2.own (by simp) hg (fun r e => (hr r e).2), h3⟩)
    ?assign ?body ?done ?stop
  case assign =>
    rintro l pre x W K ⟨h1, h2, ⟨v, h3, h4⟩, h5, h6⟩ hK
    generalize xs.getD x.1 wn0 = z at hK ⊢
    have hal : Below W.heap.size W (W.alloc (.cells #[.int .i64 z.1, .int .i64 z.2.1, .int .i64 z.2.2] 60)) := (Below.refl _ _).alloc (Nat.le_refl _) _
    gi_wp2
    exact hK _ _ ((KeepsOthers.alloc _ _).from _) ⟨hal.mono h5.size, hal.block _ (by omega)⟩ ⟨box_below h1 hal, box_below h2 hal, ⟨v, box_below h3 hal, h4.below hal⟩, h5.trans (hal.mono h5.size), Nat.le_trans h6 hal.size⟩ ⟨W.heap.size, by omega, Bk.new W _ 60 _ rfl, rfl⟩
  case body =>
    rintro l pre x a' W hl2 hr2 ⟨h1, h2, ⟨v, h3, h4⟩, h5, h6⟩ ⟨Bx, hBx, bX, rfl⟩ hlt
    have hle4 : (keptL xs kd (pre.map (·.1))).length ≤ 4 := by have := x.2.2.1; have := keptL_len xs kd (pre.map (·.1)); rw [List.length_map] at this; omega
    obtain ⟨qh, hqh⟩ : ∃ qh, alw (xs.getD x.1 wn0).2.2 kd = qh := ⟨_, rfl⟩
    have HH : Hid (∀ X, Calls Try.prog 59 #[win (xs.getD x.1 wn0).1 (xs.getD x.1 wn0).2.1 (xs.getD x.1 wn0).2.2, .int .i64 kd] X fun e w' => e = .returned (.bool qh) ∧ Below X.heap.size X w') := fun X => win_allows _ _ _ kd qh X hqh
    have HKT : Hid (qh = true → keptL xs kd ((pre ++ [x]).map (·.1)) = keptL xs kd (pre.map (·.1)) ++ [xs.getD x.1 wn0]) := fun e => by
      rw [List.map_append]
      exact keptL_hit _ (hqh.trans e)
    have HKF : Hid (qh = false → keptL xs kd ((pre ++ [x]).map (·.1)) = keptL xs kd (pre.map (·.1))) := fun e => by
      rw [List.map_append]
      exact keptL_miss _ (hqh.trans e)
    clear hqh
    generalize keptL xs kd (pre.map (·.1)) = L at h4 HKT HKF hle4
    generalize xs.getD x.1 wn0 = z at bX HH HKT ⊢
    obtain ⟨z1, z2, z3⟩ := z
    simp only at bX HH ⊢
    have x0 := bX.cell 0 _ rfl
    have x1 := bX.cell 1 _ rfl
    have x2 := bX.cell 2 _ rfl
    have k0 := h1.cell
    have v0 := h3.cell
    cases qh
    · have HK2 : Hid _ := HKF.out (by trivial)
      clear HKT HKF
      gi_wp2_with (refine ⟨trivial, ?_⟩; gi_at_call 59; refine (CallsIn.inRound l (callsIn_wide.2 (HH.out _))).mono ?_; rintro e w' ⟨rfl, hb6⟩)
      exact ⟨KeepsOthers.from (KeepsOthers.of_grownBy (row := none) ⟨hb6.os, hb6.tape, hb6.output, hb6.size, fun k hk _ => hb6.block k hk⟩ (by simp)) _, ⟨hb6.mono h5.size, hb6.block _ (by omega)⟩, box_below h1 hb6, box_below h2 hb6, ⟨v, box_below h3 hb6, by rw [HK2.out]; exact h4.below hb6⟩, h5.trans (hb6.mono h5.size), Nat.le_trans h6 hb6.size⟩
    · have HK2 : Hid _ := HKT.out (by trivial)
      clear HKT HKF
      gi_wp2_with (first | (refine ⟨trivial, ?_⟩; gi_at_call 59; refine (CallsIn.inRound l (callsIn_wide.2 (HH.out _))).mono ?_; rintro e w' ⟨rfl, hb6⟩; have y0 := (bX.below hb6).cell 0 _ rfl; have y1 := (bX.below hb6).cell 1 _ rfl; have y2 := (bX.below hb6).cell 2 _ rfl; have v1 := (box_below h3 hb6).cell; have h4' := h4.below hb6; have hw6 : w.heap.size ≤ w'.heap.size := Nat.le_trans h5.size hb6.size) | (gi_at_builtin; refine wpListIn_append_own _ rfl _ _ 25 rfl w.heap.size 60 i0 (.agg #[.int .i64 0, .int .i64 0, .int .i64 0]) 3 24 Try.underlying25 hi hz0 hz1 hz2 rfl (by decide) _ _ _ rfl (World.ownsRow.alloc h4' _) ⟨_, 0, none⟩ 1 1 [.int .i64 z1, .int .i64 z2, .int .i64 z3] rfl rfl (news_acc _ (z1, z2, z3) _ rfl) (one_acc (z1, z2, z3)) (by unfold maxLen; omega) (by omega) (by simp; omega) ?_; intro v' w1 hown' hgrow _; obtain ⟨g', cap', rfl⟩ := ownsRow_succ hown'; obtain ⟨hv1, hv2, hr3, hk2, hb2⟩ := (box_below h3 hb6).appended (by decide) h4' hw6 (by omega) hown' hgrow; have hc1 := hv1.cell; have hf1 := hv1.frozen))
      have hkO := KeepsOthers.from (KeepsOthers.of_grownBy (row := none) ⟨hb6.os, hb6.tape, hb6.output, hb6.size, fun k hk _ => hb6.block k hk⟩ (by simp)) W0.heap.size
      have hn1 := (box_below h1 hb6).not_row (by decide) h4'
      have hn2 := (box_below h2 hb6).not_row (by decide) h4'
      have g1 : Boxed w1 w.heap.size 3 (.int .i64 kd) := Boxed.kept (Boxed.alloc (box_below h1 hb6) _) hgrow hn1
      have g2 : Boxed w1 (w.heap.size + 1 + 1 + 1) 25 (.slice a n cap) := Boxed.kept (Boxed.alloc (box_below h2 hb6) _) hgrow hn2
      have e1 : Boxed (w1.setCell ⟨w.heap.size + 1 + 1, 0, none⟩ (.slice (some ⟨g', 0, none⟩) (L.length + 1) cap')) w.heap.size 3 (.int .i64 kd) := (Below.heap_setCell _ _ _ _ (by simp; omega)).trans g1
      have e2 : Boxed (w1.setCell ⟨w.heap.size + 1 + 1, 0, none⟩ (.slice (some ⟨g', 0, none⟩) (L.length + 1) cap')) (w.heap.size + 1 + 1 + 1) 25 (.slice a n cap) := (Below.heap_setCell _ _ _ _ (by simp)).trans g2
      have hb8 := (hb6.mono h5.size).trans hb2
      exact ⟨hkO.trans (hk2.from _), ⟨hb8, (show _ = _ from e2).trans (show _ = _ from h2).symm⟩, e1, e2, ⟨_, hv2, by rw [HK2.out]; exact OwnA.snoc (x := (z1, z2, z3)) hr3⟩, h5.trans hb8, Nat.le_trans h6 hb8.size⟩
  case done =>
    rintro D ys W hD hys ⟨h1, h2, ⟨v, h3, h4⟩, h5, h6⟩ hK
    rw [hys] at h4
    have v0 := h3.cell
    have hg := grownBy_putObj' W D (.deferred none)
    have hrow : ∀ r, some D = some r → ∃ o : Obj, W.heap[r]? = some o ∧ o.isCells = false := fun r e => by cases e; exact ⟨_, hK, rfl⟩
    have HZ : Hid _ := And.intro (Below.grown h5 hg h5.size (fun k e => by cases e; omega)) (h4.grown hg hrow)
    clear hys h4
    gi_wp2
    refine ⟨by simp, .inl ⟨_, _, rfl, run_takeDeferred hK, ?_⟩⟩
    exact ⟨v, by simp [results, Try.results26, go_sem], v, rfl, HZ.out.1, HZ.out.2⟩
  case stop =>
    rintro D c pre W _ _ h _
    exact h.elim
end Go.Proofs.Ytfdjfjkbbfcodaa
