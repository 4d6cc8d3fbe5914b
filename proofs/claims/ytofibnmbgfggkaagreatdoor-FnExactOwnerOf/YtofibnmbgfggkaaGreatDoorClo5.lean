
/-
  The rules on channels and slots, by the program. Conditions: what a rule is asked under.
-/
import Derived.Test.YtofibnmbgfggkaaGreatDoorBas
import Derived.Test.YtofibnmbgfggkaaGreatDoorRul
import Derived.BigQuiet
import Derived.Deep.RegionHeldLaw
import Derived.Test.YtofibnmbgfggkaaGreatDoorClo4
import Derived.Test.YtofibnmbgfggkaaGreatDoorLrw
namespace Go.Proofs.YtofibnmbgfggkaaGreatDoor
open Go.ChangeShapes Go.WideShapes Go.ChangeAt Go.RowKit Go.Deep Go.Joins
set_option linter.unusedVariables false

set_option maxRecDepth 40000 in
set_option maxHeartbeats 4000000 in
theorem t_chan (t : Tb) (a : Ad) (x : chT) (q : Bool) (B : Nat) (X : World) (hx : TBx X B t a) (hb : a.pn ≤ 9223372036854775807) (hq : q = true ↔ (chOkT x = true ∧ (0 ≤ x.2.1 ∧ x.2.1 < (a.pn : Int)) ∧ (0 ≤ x.2.2.1 ∧ x.2.2.1 < (a.pn : Int)))) :
    Calls Tryz.prog 136 #[chV x, .pointer (some ⟨B, 0, none⟩)] X fun e w' => e = .returned (.bool q) ∧ Below X.heap.size X w' := by
  obtain ⟨q1, HQ1⟩ : ∃ b, Hid (chOkT x = b) := ⟨_, rfl⟩
  obtain ⟨q2, hq2⟩ := told (0 ≤ x.2.1 ∧ x.2.1 < (a.pn : Int))
  obtain ⟨q3, hq3⟩ := told (0 ≤ x.2.2.1 ∧ x.2.2.1 < (a.pn : Int))
  have H1 : Hid (∀ Y, Calls Tryz.prog 137 #[crw x.1 x.2.1 x.2.2.1 x.2.2.2] Y fun e w' => e = .returned (.bool q1) ∧ Below Y.heap.size Y w') := fun Y => impl_chok _ _ _ _ q1 Y HQ1.out
  have H2 : Hid (∀ Y, Calls Tryz.prog 132 #[tbV t a, .int .i64 x.2.1] Y fun e w' => e = .returned (.bool q2) ∧ Below Y.heap.size Y w') := fun Y => has_part t a _ q2 Y hb hq2
  have H3 : Hid (∀ Y, Calls Tryz.prog 132 #[tbV t a, .int .i64 x.2.2.1] Y fun e w' => e = .returned (.bool q3) ∧ Below Y.heap.size Y w') := fun Y => has_part t a _ q3 Y hb hq3
  have HN : Hid (q1 = false ∨ q2 = false ∨ q3 = false → q = false) := fun h => not_true hq (fun g => by
    rcases h with h | h | h
    · rw [← HQ1.out, g.1] at h; cases h
    · rw [hq2.2 g.2.1] at h; cases h
    · rw [hq3.2 g.2.2] at h; cases h)
  have HY : Hid (q1 = true → q2 = true → q3 = true → q = true) := fun h1 h2 h3 => hq.2 ⟨HQ1.out.trans h1, hq2.1 h2, hq3.1 h3⟩
  clear hq hq2 hq3 HQ1
  obtain ⟨x1, x2, x3, x4⟩ := x
  simp only [chV] at *
  have HB0 : Hid (Below X.heap.size X (X.alloc (.cells #[.int .i64 x1, .int .i64 x2, .int .i64 x3, .int .i64 x4] 92))) := (Below.refl _ _).alloc (Nat.le_refl _) _
  have HX : Hid (TBx (X.alloc (.cells #[.int .i64 x1, .int .i64 x2, .int .i64 x3, .int .i64 x4] 92)) B t a ∧ CellsAt (X.alloc (.cells #[.int .i64 x1, .int .i64 x2, .int .i64 x3, .int .i64 x4] 92)) X.heap.size 0 [.int .i64 x1, .int .i64 x2, .int .i64 x3, .int .i64 x4]) := ⟨hx.below HB0.out, CellsAt.new X [.int .i64 x1, .int .i64 x2, .int .i64 x3, .int .i64 x4] 92 _ rfl⟩
  clear hx
  go_enter Tryz.func136, Tryz.ntmps136
  go_wp2_with fail
  refine Calls.mono (H1.out _) ?_
  rintro e w1 ⟨rfl, hb1⟩
  have HB1 : Hid (Below X.heap.size X w1) := HB0.out.trans (hb1.mono HB0.out.size)
  have HX1 : Hid (TBx w1 B t a ∧ CellsAt w1 X.heap.size 0 [.int .i64 x1, .int .i64 x2, .int .i64 x3, .int .i64 x4]) := ⟨HX.out.1.below hb1, HX.out.2.below hb1⟩
  clear hb1 HX HB0 H1
  cases q1
  · have HT : Hid (q = false) := HN.out (.inl (by trivial))
    go_wp2
    go_ret
    exact ⟨ret_bool HT.out.symm, HB1.out⟩
  have HXX : Hid (w1.heap[B]? = some (.cells (tbA t a) 40 (0, 0))) := HX1.out.1
  have d1 : w1.cell? ⟨X.heap.size, 1, none⟩ = some (.int .i64 x2) := cell0 HX1.out.2 1 rfl
  go_wp2_with (first | (refine wpList_load_rowG rfl 40 (.tmp 1) rfl B rfl 40 (tbA t a) (0, 0) _ HXX.out Tryz.underlying40 rfl (by kernel_rfl) ?_) | fail)
  refine Calls.mono (H2.out _) ?_
  rintro e w2 ⟨rfl, hb2⟩
  have HB2 : Hid (Below X.heap.size X w2) := HB1.out.trans (hb2.mono HB1.out.size)
  have HX2 : Hid (TBx w2 B t a ∧ CellsAt w2 X.heap.size 0 [.int .i64 x1, .int .i64 x2, .int .i64 x3, .int .i64 x4]) := ⟨HX1.out.1.below hb2, HX1.out.2.below hb2⟩
  clear hb2 HX1 HB1 H2 d1 HXX
  cases q2
  · have HT : Hid (q = false) := HN.out (.inr (.inl (by trivial)))
    go_wp2
    go_ret
    exact ⟨ret_bool HT.out.symm, HB2.out⟩
  have HXX : Hid (w2.heap[B]? = some (.cells (tbA t a) 40 (0, 0))) := HX2.out.1
  have d2 : w2.cell? ⟨X.heap.size, 2, none⟩ = some (.int .i64 x3) := cell0 HX2.out.2 2 rfl
  go_wp2_with (first | (refine wpList_load_rowG rfl 40 (.tmp 1) rfl B rfl 40 (tbA t a) (0, 0) _ HXX.out Tryz.underlying40 rfl (by kernel_rfl) ?_) | fail)
  refine Calls.mono (H3.out _) ?_
  rintro e w3 ⟨rfl, hb3⟩
  have HB3 : Hid (Below X.heap.size X w3) := HB2.out.trans (hb3.mono HB2.out.size)
  clear hb3 HX2 HB2 H3 d2 HXX
  have HT : Hid (q3 = q) := by
    show _ = _
    cases q3
    · exact (HN.out (.inr (.inr rfl))).symm
    · exact (HY.out (by trivial) (by trivial) rfl).symm
  clear HN HY
  go_wp2
  go_ret
  exact ⟨ret_bool HT.out, HB3.out⟩
set_option maxRecDepth 20000 in
theorem e_chan : ∀ args (v : World), (callFunc 136 args).run Tryz.prog v = .ok (.enter 136 args) v := enters_of Tryz.func136 (by kernel_rfl) rfl
set_option maxRecDepth 40000 in
set_option maxHeartbeats 4000000 in
theorem cl19 (t : Tb) (a : Ad) (B : Nat) (q : Bool) (X : World) (hu : Und X B t a) (hp : ∀ j, j < 19 → R t j) (hq : q = true ↔ R t 19) :
    Calls Tryz.prog 134 #[.pointer (some ⟨B, 0, none⟩)] X fun e w' => e = .returned (.bool q) ∧ Below X.heap.size X w' := by
  have HL : t.ps.length = a.pn := hu.w.pl
  have HD : t.cs.length = a.cn := hu.w.cl
  have hd : ∀ i, ∃ b : Bool, b = true ↔ (chOkT (t.cs.getD i ch0) = true ∧ (0 ≤ (t.cs.getD i ch0).2.1 ∧ (t.cs.getD i ch0).2.1 < (a.pn : Int)) ∧ (0 ≤ (t.cs.getD i ch0).2.2.1 ∧ (t.cs.getD i ch0).2.2.1 < (a.pn : Int))) := fun i => told _
  have c0 : X.cell? ⟨B, 17, none⟩ = some (.slice a.ca a.cn a.cc) := hu.x.cell 17 rfl
  have HE : Hid (Calls Tryz.prog 135 #[.slice a.ca a.cn a.cc, .func (.func 136) #[] #[.pointer (some ⟨B, 0, none⟩)]] X fun e w' => e = .returned (.bool q) ∧ Below X.heap.size X w') :=
    ch_every a.ca a.cc a.cn t.cs (fun i => (hd i).choose) q 136 #[.pointer (some ⟨B, 0, none⟩)] X hu.m.c.seg hu.w.cb e_chan (fun i hi Y hY => t_chan t a _ _ B Y (hu.x.below hY) hu.w.pb (hd i).choose_spec)
      (hq.trans (by simp only [R]; rw [HL, HD]; exact ⟨fun h i hi => (hd i).choose_spec.2 (h i hi), fun h i hi => (hd i).choose_spec.1 (h i hi)⟩))
  clear hu hp hq HL HD hd
  go_enter Tryz.func134, Tryz.ntmps134
  go_wp2_with fail
  refine Calls.mono HE.out ?_
  rintro e w1 ⟨rfl, hb⟩
  have HB : Hid (Below X.heap.size X w1) := hb
  clear hb c0 HE
  go_wp2
  go_ret
  exact ⟨rfl, HB.out⟩
set_option maxRecDepth 40000 in
set_option maxHeartbeats 4000000 in
theorem cl20 (t : Tb) (a : Ad) (B : Nat) (q : Bool) (X : World) (hu : Und X B t a) (hp : ∀ j, j < 20 → R t j) (hq : q = true ↔ R t 20) :
    Calls Tryz.prog 138 #[.pointer (some ⟨B, 0, none⟩)] X fun e w' => e = .returned (.bool q) ∧ Below X.heap.size X w' := by
  have HD : t.cs.length = a.cn := hu.w.cl
  have h1 := hp 1 (by omega)
  have h3 := hp 3 (by omega)
  have h18 := hp 18 (by omega)
  have h19 := hp 19 (by omega)
  simp only [R] at h1 h3 h18 h19
  have hpo : padOk t.c1 t.c2 t.c3 t.c4 t.c5 t.c6 t.c7 t.s1 t.s2 t.s3 t.cs a.cn := ⟨h3, h1, by omega, fun i hi => (h19 i (by omega)).1⟩
  obtain ⟨v, HV⟩ : ∃ v, Hid (padV t = v) := ⟨_, rfl⟩
  have HQ : Hid (decide (v ≤ t.pad) = q) := bool_is hq (by simp only [R]; rw [HV.out]; simp)
  have HW : Hid (∀ x : Gr X, Calls Tryz.prog 139 #[cst t.c1 t.c2 t.c3 t.c4 t.c5 t.c6 t.c7, shp t.s1 t.s2 t.s3, .slice a.ca a.cn a.cc] x.w fun r w' => r = .returned (.int .i64 v) ∧ Below x.w.heap.size x.w w') := fun x =>
    (impl_pad t.c1 t.c2 t.c3 t.c4 t.c5 t.c6 t.c7 t.s1 t.s2 t.s3 a.ca a.cc a.cn t.cs x.w (hu.m.below x.h).c.seg hu.w.cb).mono fun e w' ⟨⟨v', g1, g2, _⟩, g4⟩ => ⟨by rw [g1, g2 hpo, ← HV.out]; unfold padV; rw [HD], g4⟩
  have k1 : X.cell? ⟨B, 1, none⟩ = some (.int .i64 t.s1) := hu.x.cell 1 rfl
  have k2 : X.cell? ⟨B, 2, none⟩ = some (.int .i64 t.s2) := hu.x.cell 2 rfl
  have k3 : X.cell? ⟨B, 3, none⟩ = some (.int .i64 t.s3) := hu.x.cell 3 rfl
  have k5 : X.cell? ⟨B, 5, none⟩ = some (.int .i64 t.c1) := hu.x.cell 5 rfl
  have k6 : X.cell? ⟨B, 6, none⟩ = some (.int .i64 t.c2) := hu.x.cell 6 rfl
  have k7 : X.cell? ⟨B, 7, none⟩ = some (.int .i64 t.c3) := hu.x.cell 7 rfl
  have k8 : X.cell? ⟨B, 8, none⟩ = some (.int .i64 t.c4) := hu.x.cell 8 rfl
  have k9 : X.cell? ⟨B, 9, none⟩ = some (.int .i64 t.c5) := hu.x.cell 9 rfl
  have k10 : X.cell? ⟨B, 10, none⟩ = some (.int .i64 t.c6) := hu.x.cell 10 rfl
  have k11 : X.cell? ⟨B, 11, none⟩ = some (.int .i64 t.c7) := hu.x.cell 11 rfl
  have k12 : X.cell? ⟨B, 12, none⟩ = some (.int .i64 t.pad) := hu.x.cell 12 rfl
  have k17 : X.cell? ⟨B, 17, none⟩ = some (.slice a.ca a.cn a.cc) := hu.x.cell 17 rfl
  clear hu hp hq HD h1 h3 h18 h19 hpo
  generalize t.pad = g at k12 HQ
  generalize hd : decide (v ≤ g) = d at HQ
  replace k1 := fun x => gr_cell k1 x
  replace k2 := fun x => gr_cell k2 x
  replace k3 := fun x => gr_cell k3 x
  replace k5 := fun x => gr_cell k5 x
  replace k6 := fun x => gr_cell k6 x
  replace k7 := fun x => gr_cell k7 x
  replace k8 := fun x => gr_cell k8 x
  replace k9 := fun x => gr_cell k9 x
  replace k10 := fun x => gr_cell k10 x
  replace k11 := fun x => gr_cell k11 x
  replace k12 := fun x => gr_cell k12 x
  replace k17 := fun x => gr_cell k17 x
  go_enter Tryz.func138, Tryz.ntmps138
  go_wp2
  have hgr := gr_some X
  refine region_alike (by kernel_rfl) (by kernel_rfl) ?_
  repeat (go_big_quiet_step (first | (go_at_call 139; exact gr_call (HW.out _))))
  refine wpQuiet_nil ?_
  intro _ hw'
  obtain ⟨X1, rfl⟩ := hw'
  have hb2 := X1.h
  generalize X1.w = W1 at hb2 ⊢
  have HB : Hid (Below X.heap.size X W1) := hb2
  clear hb2 k1 k2 k3 k5 k6 k7 k8 k9 k10 k11 k12 k17
  go_wp2
  go_ret
  exact ⟨ret_bool HQ.out, HB.out⟩
set_option maxRecDepth 40000 in
set_option maxHeartbeats 4000000 in
theorem cl21 (t : Tb) (a : Ad) (B : Nat) (q : Bool) (X : World) (hu : Und X B t a) (hp : ∀ j, j < 21 → R t j) (hq : q = true ↔ R t 21) :
    Calls Tryz.prog 140 #[.pointer (some ⟨B, 0, none⟩)] X fun e w' => e = .returned (.bool q) ∧ Below X.heap.size X w' := by
  have HL : t.ss.length = a.sn := hu.w.sl
  have hpb := hu.w.sb
  have HQ : Hid (inr (a.sn : Int) 1 16 = q) := bool_is hq (by simp only [R]; rw [HL, inr_iff]; omega)
  have c0 : X.cell? ⟨B, 18, none⟩ = some (.slice a.sa a.sn a.sc) := hu.x.cell 18 rfl
  clear hu hp hq HL
  generalize a.sn = n at c0 HQ hpb
  go_enter Tryz.func140, Tryz.ntmps140
  go_wp2_with fail
  refine (is_cnt (n : Int) 16 _).mono ?_
  rintro e w1 ⟨rfl, rfl⟩
  rw [HQ.out]
  go_wp2
  go_ret
  exact ⟨rfl, Below.refl _ _⟩
set_option maxRecDepth 40000 in
set_option maxHeartbeats 4000000 in
theorem t_hold (t : Tb) (a : Ad) (x : slT) (q : Bool) (B : Nat) (X : World) (hx : TBx X B t a) (hb : a.pn ≤ 9223372036854775807) (hq : q = true ↔ (0 ≤ x.1 ∧ x.1 < (a.pn : Int))) :
    Calls Tryz.prog 143 #[slV x, .pointer (some ⟨B, 0, none⟩)] X fun e w' => e = .returned (.bool q) ∧ Below X.heap.size X w' := by
  have H2 : Hid (∀ Y, Calls Tryz.prog 132 #[tbV t a, .int .i64 x.1] Y fun e w' => e = .returned (.bool q) ∧ Below Y.heap.size Y w') := fun Y => has_part t a _ q Y hb hq
  clear hq
  obtain ⟨x1, x2, x3⟩ := x
  simp only [slV] at *
  have HB0 : Hid (Below X.heap.size X (X.alloc (.cells #[.int .i64 x1, .int .i64 x2, .int .i64 x3] 67))) := (Below.refl _ _).alloc (Nat.le_refl _) _
  have HXX : Hid ((X.alloc (.cells #[.int .i64 x1, .int .i64 x2, .int .i64 x3] 67)).heap[B]? = some (.cells (tbA t a) 40 (0, 0))) := hx.below HB0.out
  clear hx
  go_enter Tryz.func143, Tryz.ntmps143
  go_wp2_with (first | (refine wpList_load_row rfl 40 (.tmp 1) rfl B rfl 40 (tbA t a) (0, 0) _ HXX.out Tryz.underlying40 rfl (by kernel_rfl) ?_) | fail)
  refine Calls.mono (H2.out _) ?_
  rintro e w1 ⟨rfl, hb1⟩
  have HB1 : Hid (Below X.heap.size X w1) := HB0.out.trans (hb1.mono HB0.out.size)
  clear hb1 H2 HXX
  go_wp2
  go_ret
  exact ⟨rfl, HB1.out⟩
set_option maxRecDepth 20000 in
theorem e_hold : ∀ args (v : World), (callFunc 143 args).run Tryz.prog v = .ok (.enter 143 args) v := enters_of Tryz.func143 (by kernel_rfl) rfl
set_option maxRecDepth 40000 in
set_option maxHeartbeats 4000000 in
theorem lost_any (t : Tb) (a : Ad) (w : World) (hp : 1 ≤ t.pad ∧ t.pad ≤ 5000) (hg : 1 ≤ t.grd ∧ t.grd ≤ 5000) :
    Calls Tryz.prog 42 #[tbV t a] w fun e w' => e = .returned (.int .i64 (t.pad + t.grd)) ∧ Below w.heap.size w w' := by
  have HB0 : Hid (Below w.heap.size w (w.alloc (.cells (tbA t a) 40))) := (Below.refl _ _).alloc (Nat.le_refl _) _
  have hw : IntKind.i64.wrap (t.pad + t.grd) = t.pad + t.grd := by rw [IntKind.wrap_i64]; omega
  obtain ⟨h1, h2⟩ := hp
  obtain ⟨h3, h4⟩ := hg
  go_enter Tryz.func42, Tryz.ntmps42
  go_wp2
  go_ret
  exact ⟨rfl, HB0.out⟩
set_option maxRecDepth 40000 in
set_option maxHeartbeats 8000000 in
theorem t_long (t : Tb) (a : Ad) (x : slT) (q : Bool) (B : Nat) (X : World) (hx : TBx X B t a) (hp : 1 ≤ t.pad ∧ t.pad ≤ 5000) (hg : 1 ≤ t.grd ∧ t.grd ≤ 5000) (hq : q = true ↔ t.pad + t.grd < x.2.2) :
    Calls Tryz.prog 145 #[slV x, .pointer (some ⟨B, 0, none⟩)] X fun e w' => e = .returned (.bool q) ∧ Below X.heap.size X w' := by
  obtain ⟨v, HV⟩ : ∃ v, Hid (t.pad + t.grd = v) := ⟨_, rfl⟩
  have HL : Hid (∀ Y, Calls Tryz.prog 42 #[tbV t a] Y fun e w' => e = .returned (.int .i64 v) ∧ Below Y.heap.size Y w') := fun Y => by rw [← HV.out]; exact lost_any t a Y hp hg
  rw [HV.out] at hq
  have HQ : Hid (decide (v < x.2.2) = q) := bool_is hq (by simp)
  clear hq HV hp hg
  obtain ⟨x1, x2, x3⟩ := x
  simp only [slV] at *
  generalize hd : decide (v < x3) = d at HQ
  have hb : Below X.heap.size X (X.alloc (.cells #[.int .i64 x1, .int .i64 x2, .int .i64 x3] 67)) := (Below.refl _ _).alloc (Nat.le_refl _) _
  have K := CellsAt.new X [.int .i64 x1, .int .i64 x2, .int .i64 x3] 67 _ rfl
  have d2 : (X.alloc (.cells #[.int .i64 x1, .int .i64 x2, .int .i64 x3] 67)).cell? ⟨X.heap.size, 2, none⟩ = some (.int .i64 x3) := cell0 K 2 rfl
  have hx1 := hx.below hb
  clear K hx
  generalize HW0 : X.alloc (.cells #[.int .i64 x1, .int .i64 x2, .int .i64 x3] 67) = W0 at *
  replace d2 := fun x => gr_cell d2 x
  have HXX : Hid (∀ w, (∃ x : Gr W0, w = x.w) → w.heap[B]? = some (.cells (tbA t a) 40 (0, 0))) := fun w ⟨x, hx⟩ => by rw [hx]; exact hx1.below x.h
  clear hx1
  go_enter Tryz.func145, Tryz.ntmps145
  go_wp2
  clear HW0
  have hgr := gr_some W0
  refine region_alike (by kernel_rfl) (by kernel_rfl) ?_
  repeat (first | (refine wpQuiet_load_row rfl 40 (.tmp 1) rfl B rfl 40 (tbA t a) (0, 0) _ HXX.out Tryz.underlying40 rfl (by kernel_rfl) ?_; simp only [Act.put, List.setIfInBounds_toArray, List.set_cons_zero, List.set_cons_succ]) | go_big_quiet_step (first | (go_at_call 42; exact gr_call (HL.out _))))
  refine wpQuiet_nil ?_
  intro _ hw'
  obtain ⟨x9, rfl⟩ := hw'
  have hb := hb.trans (x9.h.mono hb.size)
  generalize x9.w = W1 at hb ⊢
  have HB : Hid (Below X.heap.size X W1) := hb
  clear hb d2 HXX
  go_wp2
  go_ret
  exact ⟨ret_bool HQ.out, HB.out⟩
set_option maxRecDepth 20000 in
theorem e_long : ∀ args (v : World), (callFunc 145 args).run Tryz.prog v = .ok (.enter 145 args) v := enters_of Tryz.func145 (by kernel_rfl) rfl
set_option maxRecDepth 40000 in
set_option maxHeartbeats 4000000 in
theorem cl22 (t : Tb) (a : Ad) (B : Nat) (q : Bool) (X : World) (hu : Und X B t a) (hp : ∀ j, j < 22 → R t j) (hq : q = true ↔ R t 22) :
    Calls Tryz.prog 141 #[.pointer (some ⟨B, 0, none⟩)] X fun e w' => e = .returned (.bool q) ∧ Below X.heap.size X w' := by
  have HL : t.ps.length = a.pn := hu.w.pl
  have HD : t.ss.length = a.sn := hu.w.sl
  have hd : ∀ i, ∃ b : Bool, b = true ↔ (0 ≤ (t.ss.getD i sl0).1 ∧ (t.ss.getD i sl0).1 < (a.pn : Int)) := fun i => told _
  have c0 : X.cell? ⟨B, 18, none⟩ = some (.slice a.sa a.sn a.sc) := hu.x.cell 18 rfl
  have HE : Hid (Calls Tryz.prog 142 #[.slice a.sa a.sn a.sc, .func (.func 143) #[] #[.pointer (some ⟨B, 0, none⟩)]] X fun e w' => e = .returned (.bool q) ∧ Below X.heap.size X w') :=
    sl_every a.sa a.sc a.sn t.ss (fun i => (hd i).choose) q 143 #[.pointer (some ⟨B, 0, none⟩)] X hu.m.s.seg hu.w.sb e_hold (fun i hi Y hY => t_hold t a _ _ B Y (hu.x.below hY) hu.w.pb (hd i).choose_spec)
      (hq.trans (by simp only [R]; rw [HL, HD]; exact ⟨fun h i hi => (hd i).choose_spec.2 (h i hi), fun h i hi => (hd i).choose_spec.1 (h i hi)⟩))
  clear hu hp hq HL HD hd
  go_enter Tryz.func141, Tryz.ntmps141
  go_wp2_with fail
  refine Calls.mono HE.out ?_
  rintro e w1 ⟨rfl, hb⟩
  have HB : Hid (Below X.heap.size X w1) := hb
  clear hb c0 HE
  go_wp2
  go_ret
  exact ⟨rfl, HB.out⟩
set_option maxRecDepth 40000 in
set_option maxHeartbeats 4000000 in
theorem cl23 (t : Tb) (a : Ad) (B : Nat) (q : Bool) (X : World) (hu : Und X B t a) (hp : ∀ j, j < 23 → R t j) (hq : q = true ↔ R t 23) :
    Calls Tryz.prog 144 #[.pointer (some ⟨B, 0, none⟩)] X fun e w' => e = .returned (.bool q) ∧ Below X.heap.size X w' := by
  have HL : t.ps.length = a.pn := hu.w.pl
  have HD : t.ss.length = a.sn := hu.w.sl
  have hd : ∀ i, ∃ b : Bool, b = true ↔ (t.pad + t.grd < (t.ss.getD i sl0).2.2) := fun i => told _
  have c0 : X.cell? ⟨B, 18, none⟩ = some (.slice a.sa a.sn a.sc) := hu.x.cell 18 rfl
  have HE : Hid (Calls Tryz.prog 142 #[.slice a.sa a.sn a.sc, .func (.func 145) #[] #[.pointer (some ⟨B, 0, none⟩)]] X fun e w' => e = .returned (.bool q) ∧ Below X.heap.size X w') :=
    sl_every a.sa a.sc a.sn t.ss (fun i => (hd i).choose) q 145 #[.pointer (some ⟨B, 0, none⟩)] X hu.m.s.seg hu.w.sb e_long (fun i hi Y hY => t_long t a _ _ B Y (hu.x.below hY) (hp 4 (by omega)) (hp 5 (by omega)) (hd i).choose_spec)
      (hq.trans (by simp only [R]; rw [HD]; exact ⟨fun h i hi => (hd i).choose_spec.2 (h i hi), fun h i hi => (hd i).choose_spec.1 (h i hi)⟩))
  clear hu hp hq HL HD hd
  go_enter Tryz.func144, Tryz.ntmps144
  go_wp2_with fail
  refine Calls.mono HE.out ?_
  rintro e w1 ⟨rfl, hb⟩
  have HB : Hid (Below X.heap.size X w1) := hb
  clear hb c0 HE
  go_wp2
  go_ret
  exact ⟨rfl, HB.out⟩
end Go.Proofs.YtofibnmbgfggkaaGreatDoor
