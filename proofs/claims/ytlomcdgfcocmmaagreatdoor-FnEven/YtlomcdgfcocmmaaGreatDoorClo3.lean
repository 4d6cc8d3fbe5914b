/-
  The rules on the numbers of tables, by the program. Conditions: what a rule is asked under.
  The rules on partitions, by the program. Conditions: what a rule is asked under.
  The rules on windows, by the program. Conditions: what a rule is asked under.
-/
import Derived.Test.YtlomcdgfcocmmaaGreatDoorBas
import Derived.Test.YtlomcdgfcocmmaaGreatDoorRul
import Derived.BigQuiet
import Derived.Deep.RegionHeldLaw
import Derived.Test.YtlomcdgfcocmmaaGreatDoorPev
import Derived.Shelf.Abstract
import Derived.Test.YtlomcdgfcocmmaaGreatDoorApj
namespace Go.Proofs.YtlomcdgfcocmmaaGreatDoor
open Go.ChangeShapes Go.WideShapes Go.ChangeAt Go.RowKit Go.Deep Go.Joins
set_option linter.unusedVariables false

set_option maxRecDepth 40000 in
set_option maxHeartbeats 4000000 in
theorem is_mem (m : Int) (q : Bool) (w : World) (hq : q = true ↔ (m % 4 = 0 ∧ 64 ≤ m ∧ m ≤ 2048)) :
    Calls Tryz.prog 114 #[.int .i64 m] w fun e w' => e = .returned (.bool q) ∧ w' = w := by
  have HM : Hid _ := tm4 m
  have HQ : Hid (q = true ↔ (m % 4 = 0 ∧ 64 ≤ m ∧ m ≤ 2048)) := hq
  clear hq
  by_cases h4 : m % 4 = 0
  · have h4' : Int.tmod m 4 = 0 := HM.out.2 h4
    by_cases h1 : 64 ≤ m
    · have HT : Hid (decide (m ≤ 2048) = q) := bool_is HQ.out ⟨fun h => ⟨h4, h1, of_decide_eq_true h⟩, fun h => decide_eq_true h.2.2⟩
      go_enter Tryz.func114, Tryz.ntmps114
      go_wp2
      go_ret
      exact ⟨ret_bool HT.out, rfl⟩
    · have HT : Hid (q = false) := not_true HQ.out (fun h => h1 h.2.1)
      go_enter Tryz.func114, Tryz.ntmps114
      go_wp2
      go_ret
      exact ⟨ret_bool HT.out.symm, rfl⟩
  · have HT : Hid (q = false) := not_true HQ.out (fun h => h4 h.1)
    have h4' : (Int.tmod m 4 == 0) = false := by
      have : ¬ Int.tmod m 4 = 0 := fun h => h4 (HM.out.1 h)
      simpa using this
    clear h4
    go_enter Tryz.func114, Tryz.ntmps114
    go_wp2
    go_ret
    exact ⟨ret_bool HT.out.symm, rfl⟩
set_option maxRecDepth 40000 in
set_option maxHeartbeats 4000000 in
theorem clz0 (t : Tb) (a : Ad) (B : Nat) (q : Bool) (X : World) (hu : Und X B t a) (hp : ∀ j, j < 0 → R t j) (hq : q = true ↔ R t 0) :
    Calls Tryz.prog 113 #[.pointer (some ⟨B, 0, none⟩)] X fun e w' => e = .returned (.bool q) ∧ Below X.heap.size X w' := by
  have c0 : X.cell? ⟨B, 0, none⟩ = some (.int .i64 t.mem) := hu.x.cell 0 rfl
  have HQ : Hid (q = true ↔ (t.mem % 4 = 0 ∧ 64 ≤ t.mem ∧ t.mem ≤ 2048)) := hq
  clear hu hp hq
  go_enter Tryz.func113, Tryz.ntmps113
  go_wp2_with fail
  refine (is_mem _ q _ HQ.out).mono ?_
  rintro e w1 ⟨rfl, rfl⟩
  go_wp2
  go_ret
  exact ⟨rfl, Below.refl _ _⟩
set_option maxRecDepth 40000 in
set_option maxHeartbeats 4000000 in
theorem cl1 (t : Tb) (a : Ad) (B : Nat) (q : Bool) (X : World) (hu : Und X B t a) (hp : ∀ j, j < 1 → R t j) (hq : q = true ↔ R t 1) :
    Calls Tryz.prog 115 #[.pointer (some ⟨B, 0, none⟩)] X fun e w' => e = .returned (.bool q) ∧ Below X.heap.size X w' := by
  have HQ : Hid (shapeOk t.s1 t.s2 t.s3 = q) := bool_is hq (by simp only [R])
  have c1 : X.cell? ⟨B, 1, none⟩ = some (.int .i64 t.s1) := hu.x.cell 1 rfl
  have c2 : X.cell? ⟨B, 2, none⟩ = some (.int .i64 t.s2) := hu.x.cell 2 rfl
  have c3 : X.cell? ⟨B, 3, none⟩ = some (.int .i64 t.s3) := hu.x.cell 3 rfl
  clear hu hp hq
  go_enter Tryz.func115, Tryz.ntmps115
  go_wp2_with fail
  refine (impl_shok t.s1 t.s2 t.s3 _).mono ?_
  rintro e w1 ⟨rfl, hb⟩
  have HB : Hid (Below X.heap.size X w1) := hb
  clear hb c1 c2 c3
  rw [HQ.out]
  go_wp2
  go_ret
  exact ⟨rfl, HB.out⟩
set_option maxRecDepth 40000 in
set_option maxHeartbeats 4000000 in
theorem cl2 (t : Tb) (a : Ad) (B : Nat) (q : Bool) (X : World) (hu : Und X B t a) (hp : ∀ j, j < 2 → R t j) (hq : q = true ↔ R t 2) :
    Calls Tryz.prog 117 #[.pointer (some ⟨B, 0, none⟩)] X fun e w' => e = .returned (.bool q) ∧ Below X.heap.size X w' := by
  have HQ : Hid (inr t.tlb 1 8 = q) := bool_is hq (by simp only [R]; exact inr_iff)
  have c0 : X.cell? ⟨B, 4, none⟩ = some (.int .i64 t.tlb) := hu.x.cell 4 rfl
  clear hu hp hq
  go_enter Tryz.func117, Tryz.ntmps117
  go_wp2_with fail
  refine (is_tlb t.tlb _).mono ?_
  rintro e w1 ⟨rfl, rfl⟩
  rw [HQ.out]
  go_wp2
  go_ret
  exact ⟨rfl, Below.refl _ _⟩
set_option maxRecDepth 40000 in
set_option maxHeartbeats 4000000 in
theorem cl3 (t : Tb) (a : Ad) (B : Nat) (q : Bool) (X : World) (hu : Und X B t a) (hp : ∀ j, j < 3 → R t j) (hq : q = true ↔ R t 3) :
    Calls Tryz.prog 119 #[.pointer (some ⟨B, 0, none⟩)] X fun e w' => e = .returned (.bool q) ∧ Below X.heap.size X w' := by
  have HQ : Hid (costsOk t.c1 t.c2 t.c3 t.c4 t.c5 t.c6 t.c7 = q) := bool_is hq (by simp only [R])
  have k1 : X.cell? ⟨B, 5, none⟩ = some (.int .i64 t.c1) := hu.x.cell 5 rfl
  have k2 : X.cell? ⟨B, 6, none⟩ = some (.int .i64 t.c2) := hu.x.cell 6 rfl
  have k3 : X.cell? ⟨B, 7, none⟩ = some (.int .i64 t.c3) := hu.x.cell 7 rfl
  have k4 : X.cell? ⟨B, 8, none⟩ = some (.int .i64 t.c4) := hu.x.cell 8 rfl
  have k5 : X.cell? ⟨B, 9, none⟩ = some (.int .i64 t.c5) := hu.x.cell 9 rfl
  have k6 : X.cell? ⟨B, 10, none⟩ = some (.int .i64 t.c6) := hu.x.cell 10 rfl
  have k7 : X.cell? ⟨B, 11, none⟩ = some (.int .i64 t.c7) := hu.x.cell 11 rfl
  clear hu hp hq
  go_enter Tryz.func119, Tryz.ntmps119
  go_wp2_with fail
  refine (impl_cok t.c1 t.c2 t.c3 t.c4 t.c5 t.c6 t.c7 _).mono ?_
  rintro e w1 ⟨rfl, hb⟩
  have HB : Hid (Below X.heap.size X w1) := by rw [hb]; exact (Below.refl _ _).alloc (Nat.le_refl _) _
  clear hb k1 k2 k3 k4 k5 k6 k7
  rw [HQ.out]
  go_wp2
  go_ret
  exact ⟨rfl, HB.out⟩
set_option maxRecDepth 40000 in
set_option maxHeartbeats 4000000 in
theorem cl4 (t : Tb) (a : Ad) (B : Nat) (q : Bool) (X : World) (hu : Und X B t a) (hp : ∀ j, j < 4 → R t j) (hq : q = true ↔ R t 4) :
    Calls Tryz.prog 121 #[.pointer (some ⟨B, 0, none⟩)] X fun e w' => e = .returned (.bool q) ∧ Below X.heap.size X w' := by
  have HQ : Hid (inr t.pad 1 5000 = q) := bool_is hq (by simp only [R]; exact inr_iff)
  have c0 : X.cell? ⟨B, 12, none⟩ = some (.int .i64 t.pad) := hu.x.cell 12 rfl
  clear hu hp hq
  go_enter Tryz.func121, Tryz.ntmps121
  go_wp2_with fail
  refine (is_len t.pad _).mono ?_
  rintro e w1 ⟨rfl, rfl⟩
  rw [HQ.out]
  go_wp2
  go_ret
  exact ⟨rfl, Below.refl _ _⟩
set_option maxRecDepth 40000 in
set_option maxHeartbeats 4000000 in
theorem cl5 (t : Tb) (a : Ad) (B : Nat) (q : Bool) (X : World) (hu : Und X B t a) (hp : ∀ j, j < 5 → R t j) (hq : q = true ↔ R t 5) :
    Calls Tryz.prog 123 #[.pointer (some ⟨B, 0, none⟩)] X fun e w' => e = .returned (.bool q) ∧ Below X.heap.size X w' := by
  have HQ : Hid (inr t.grd 1 5000 = q) := bool_is hq (by simp only [R]; exact inr_iff)
  have c0 : X.cell? ⟨B, 13, none⟩ = some (.int .i64 t.grd) := hu.x.cell 13 rfl
  clear hu hp hq
  go_enter Tryz.func123, Tryz.ntmps123
  go_wp2_with fail
  refine (is_len t.grd _).mono ?_
  rintro e w1 ⟨rfl, rfl⟩
  rw [HQ.out]
  go_wp2
  go_ret
  exact ⟨rfl, Below.refl _ _⟩
set_option maxRecDepth 40000 in
set_option maxHeartbeats 4000000 in
theorem cl6 (t : Tb) (a : Ad) (B : Nat) (q : Bool) (X : World) (hu : Und X B t a) (hp : ∀ j, j < 6 → R t j) (hq : q = true ↔ R t 6) :
    Calls Tryz.prog 124 #[.pointer (some ⟨B, 0, none⟩)] X fun e w' => e = .returned (.bool q) ∧ Below X.heap.size X w' := by
  have HQ : Hid (inr t.maj 1 5000 = q) := bool_is hq (by simp only [R]; exact inr_iff)
  have c0 : X.cell? ⟨B, 14, none⟩ = some (.int .i64 t.maj) := hu.x.cell 14 rfl
  clear hu hp hq
  go_enter Tryz.func124, Tryz.ntmps124
  go_wp2_with fail
  refine (is_len t.maj _).mono ?_
  rintro e w1 ⟨rfl, rfl⟩
  rw [HQ.out]
  go_wp2
  go_ret
  exact ⟨rfl, Below.refl _ _⟩
set_option maxRecDepth 40000 in
set_option maxHeartbeats 4000000 in
theorem cov_step (t : Tb) (a : Ad) (q : Bool) (X : World) (he : TabE X) (hq : q = true ↔ worstStep t.c1 t.c2 t.c3 t.c4 t.c5 t.c6 t.c7 ≤ t.grd) :
    Calls Tryz.prog 126 #[tbV t a] X fun e w' => e = .returned (.bool q) ∧ Below X.heap.size X w' := by
  obtain ⟨v, HV⟩ : ∃ v, Hid (worstStep t.c1 t.c2 t.c3 t.c4 t.c5 t.c6 t.c7 = v) := ⟨_, rfl⟩
  have HQ : Hid (decide (v ≤ t.grd) = q) := bool_is hq (by rw [HV.out]; simp)
  have HB0 : Hid (Below X.heap.size X (X.alloc (.cells (tbA t a) 33))) := (Below.refl _ _).alloc (Nat.le_refl _) _
  have K0 : Hid (Bk (X.alloc (.cells (tbA t a) 33)) X.heap.size (tbA t a)) := Bk.new X _ _ _ rfl
  have k1 : (X.alloc (.cells (tbA t a) 33)).cell? ⟨X.heap.size, 5, none⟩ = some (.int .i64 t.c1) := K0.out.cell 5 _ rfl
  have k2 : (X.alloc (.cells (tbA t a) 33)).cell? ⟨X.heap.size, 6, none⟩ = some (.int .i64 t.c2) := K0.out.cell 6 _ rfl
  have k3 : (X.alloc (.cells (tbA t a) 33)).cell? ⟨X.heap.size, 7, none⟩ = some (.int .i64 t.c3) := K0.out.cell 7 _ rfl
  have k4 : (X.alloc (.cells (tbA t a) 33)).cell? ⟨X.heap.size, 8, none⟩ = some (.int .i64 t.c4) := K0.out.cell 8 _ rfl
  have k5 : (X.alloc (.cells (tbA t a) 33)).cell? ⟨X.heap.size, 9, none⟩ = some (.int .i64 t.c5) := K0.out.cell 9 _ rfl
  have k6 : (X.alloc (.cells (tbA t a) 33)).cell? ⟨X.heap.size, 10, none⟩ = some (.int .i64 t.c6) := K0.out.cell 10 _ rfl
  have k7 : (X.alloc (.cells (tbA t a) 33)).cell? ⟨X.heap.size, 11, none⟩ = some (.int .i64 t.c7) := K0.out.cell 11 _ rfl
  have k0 : (X.alloc (.cells (tbA t a) 33)).cell? ⟨X.heap.size, 13, none⟩ = some (.int .i64 t.grd) := K0.out.cell 13 _ rfl
  have HTE : Hid (TabE (X.alloc (.cells (tbA t a) 33))) := he.below HB0.out
  clear hq he K0
  have HW : Hid (∀ x : Gr (X.alloc (.cells (tbA t a) 33)), Calls Tryz.prog 176 #[cst t.c1 t.c2 t.c3 t.c4 t.c5 t.c6 t.c7] x.w fun r w' => r = .returned (.int .i64 v) ∧ Below x.w.heap.size x.w w') := fun x => by
    rw [← HV.out]; exact impl_worstS t.c1 t.c2 t.c3 t.c4 t.c5 t.c6 t.c7 x.w (HTE.out.below x.h)
  go_enter Tryz.func126, Tryz.ntmps126
  go_wp2
  generalize (X.alloc (.cells (tbA t a) 33)) = X0 at *
  generalize t.grd = g at k0 HQ
  generalize hd : decide (v ≤ g) = d at HQ
  replace k0 := fun x => gr_cell k0 x
  replace k1 := fun x => gr_cell k1 x
  replace k2 := fun x => gr_cell k2 x
  replace k3 := fun x => gr_cell k3 x
  replace k4 := fun x => gr_cell k4 x
  replace k5 := fun x => gr_cell k5 x
  replace k6 := fun x => gr_cell k6 x
  replace k7 := fun x => gr_cell k7 x
  have hgr := gr_some X0
  refine region_alike (by kernel_rfl) (by kernel_rfl) ?_
  repeat (go_big_quiet_step (first | (go_at_call 176; exact gr_call (HW.out _))))
  refine wpQuiet_nil ?_
  intro _ hw'
  obtain ⟨X1, rfl⟩ := hw'
  have hb2 := X1.h
  generalize X1.w = W1 at hb2 ⊢
  have HB : Hid (Below X.heap.size X W1) := HB0.out.trans (hb2.mono HB0.out.size)
  clear hb2 k0 k1 k2 k3 k4 k5 k6 k7
  go_wp2
  go_ret
  exact ⟨ret_bool HQ.out, HB.out⟩
set_option maxRecDepth 40000 in
set_option maxHeartbeats 4000000 in
theorem cl7 (t : Tb) (a : Ad) (B : Nat) (q : Bool) (X : World) (hu : Und X B t a) (hp : ∀ j, j < 7 → R t j) (hq : q = true ↔ R t 7) :
    Calls Tryz.prog 125 #[.pointer (some ⟨B, 0, none⟩)] X fun e w' => e = .returned (.bool q) ∧ Below X.heap.size X w' := by
  have HQ : Hid (q = true ↔ worstStep t.c1 t.c2 t.c3 t.c4 t.c5 t.c6 t.c7 ≤ t.grd) := hq
  have HXX : Hid (X.heap[B]? = some (.cells (tbA t a) 33 (0, 0))) := hu.x
  have HTE : Hid (TabE X) := hu.e
  clear hu hp hq
  go_enter Tryz.func125, Tryz.ntmps125
  go_wp2_with (first | (refine wpList_load_row rfl 33 (.tmp 0) rfl B rfl 33 (tbA t a) (0, 0) _ HXX.out Tryz.underlying33 rfl (by kernel_rfl) ?_) | fail)
  refine (cov_step t a q _ HTE.out HQ.out).mono ?_
  rintro e w1 ⟨rfl, hb⟩
  have HB : Hid (Below X.heap.size X w1) := hb
  clear hb
  go_wp2
  go_ret
  exact ⟨rfl, HB.out⟩
end Go.Proofs.YtlomcdgfcocmmaaGreatDoor
namespace Go.Proofs.YtlomcdgfcocmmaaGreatDoor
open Go.ChangeShapes Go.WideShapes Go.ChangeAt Go.RowKit Go.Deep Go.Joins
set_option linter.unusedVariables false

set_option maxRecDepth 40000 in
set_option maxHeartbeats 4000000 in
theorem cl8 (t : Tb) (a : Ad) (B : Nat) (q : Bool) (X : World) (hu : Und X B t a) (hp : ∀ j, j < 8 → R t j) (hq : q = true ↔ R t 8) :
    Calls Tryz.prog 127 #[.pointer (some ⟨B, 0, none⟩)] X fun e w' => e = .returned (.bool q) ∧ Below X.heap.size X w' := by
  have HL : t.ps.length = a.pn := hu.w.pl
  have hpb := hu.w.pb
  have HQ : Hid (inr (a.pn : Int) 1 6 = q) := bool_is hq (by simp only [R]; rw [HL, inr_iff]; omega)
  have c0 : X.cell? ⟨B, 15, none⟩ = some (.slice a.pa a.pn a.pc) := hu.x.cell 15 rfl
  clear hu hp hq HL
  generalize a.pn = n at c0 HQ hpb
  go_enter Tryz.func127, Tryz.ntmps127
  go_wp2_with fail
  refine (is_cnt (n : Int) 6 _).mono ?_
  rintro e w1 ⟨rfl, rfl⟩
  rw [HQ.out]
  go_wp2
  go_ret
  exact ⟨rfl, Below.refl _ _⟩
theorem t_name (y : Rw) (q : Bool) (w : World) (hn : y.nm.size ≤ 1048576) (hq : Hid (Lab.nok (Tx.nums y.nm) = q)) : Calls Tryz.prog 130 #[rwV y] w fun e w' => e = .returned (.bool q) ∧ Below w.heap.size w w' := by
  obtain ⟨nm, en, kd, ms, wa, wn, wc⟩ := y
  simp only [rwV] at *
  have HB0 : Hid (Below w.heap.size w (w.alloc (.cells #[.string nm, .int .i64 en, .int .i64 kd, .int .i64 ms, .slice wa wn wc] 72))) := (Below.refl _ _).alloc (Nat.le_refl _) _
  go_enter Tryz.func130, Tryz.ntmps130
  go_wp2_with fail
  refine (impl_name nm q _ hn hq).mono ?_
  rintro e w1 ⟨rfl, hb⟩
  have HB : Hid (Below w.heap.size w w1) := HB0.out.trans (hb.mono HB0.out.size)
  clear hb
  go_wp2
  go_ret
  exact ⟨rfl, HB.out⟩
theorem t_pol (y : Rw) (q : Bool) (w : World) (hq : Hid (polOk y.kd y.ms = q)) : Calls Tryz.prog 136 #[rwV y] w fun e w' => e = .returned (.bool q) ∧ Below w.heap.size w w' := by
  obtain ⟨nm, en, kd, ms, wa, wn, wc⟩ := y
  simp only [rwV] at *
  have HB0 : Hid (Below w.heap.size w (w.alloc (.cells #[.string nm, .int .i64 en, .int .i64 kd, .int .i64 ms, .slice wa wn wc] 72))) := (Below.refl _ _).alloc (Nat.le_refl _) _
  go_enter Tryz.func136, Tryz.ntmps136
  go_wp2_with fail
  refine (impl_pok kd ms _).mono ?_
  rintro e w1 ⟨rfl, hb⟩
  rw [hq.out]
  have HB : Hid (Below w.heap.size w w1) := HB0.out.trans (hb.mono HB0.out.size)
  clear hb
  go_wp2
  go_ret
  exact ⟨rfl, HB.out⟩
theorem t_cnt (y : Rw) (q : Bool) (w : World) (hb : y.wn ≤ 9223372036854775807) (hq : Hid (inr (y.wn : Int) 1 4 = q)) : Calls Tryz.prog 139 #[rwV y] w fun e w' => e = .returned (.bool q) ∧ Below w.heap.size w w' := by
  obtain ⟨nm, en, kd, ms, wa, wn, wc⟩ := y
  simp only [rwV] at *
  have HB0 : Hid (Below w.heap.size w (w.alloc (.cells #[.string nm, .int .i64 en, .int .i64 kd, .int .i64 ms, .slice wa wn wc] 72))) := (Below.refl _ _).alloc (Nat.le_refl _) _
  go_enter Tryz.func139, Tryz.ntmps139
  go_wp2_with fail
  refine (is_cnt (wn : Int) 4 _).mono ?_
  rintro e w1 ⟨rfl, rfl⟩
  rw [hq.out]
  go_wp2
  go_ret
  exact ⟨rfl, HB0.out⟩
set_option maxRecDepth 20000 in
theorem e_name : ∀ args (v : World), (callFunc 130 args).run Tryz.prog v = .ok (.enter 130 args) v := enters_of Tryz.func130 (by kernel_rfl) rfl
set_option maxRecDepth 20000 in
theorem e_pol : ∀ args (v : World), (callFunc 136 args).run Tryz.prog v = .ok (.enter 136 args) v := enters_of Tryz.func136 (by kernel_rfl) rfl
set_option maxRecDepth 20000 in
theorem e_cnt : ∀ args (v : World), (callFunc 139 args).run Tryz.prog v = .ok (.enter 139 args) v := enters_of Tryz.func139 (by kernel_rfl) rfl
set_option maxRecDepth 40000 in
set_option maxHeartbeats 4000000 in
theorem cl9 (t : Tb) (a : Ad) (B : Nat) (q : Bool) (X : World) (hu : Und X B t a) (hp : ∀ j, j < 9 → R t j) (hq : q = true ↔ R t 9) :
    Calls Tryz.prog 128 #[.pointer (some ⟨B, 0, none⟩)] X fun e w' => e = .returned (.bool q) ∧ Below X.heap.size X w' := by
  have HL : t.ps.length = a.pn := hu.w.pl
  have HG := hu.m.p.2
  have HQ : Hid (q = true ↔ ∀ i, i < a.pn → (Lab.nok (Tx.nums (a.Y i).nm)) = true) := by
    refine hq.trans ?_
    simp only [R]
    rw [HL]
    exact ⟨fun h i hi => by rw [(HG i hi).nm]; exact h i hi, fun h i hi => by rw [← (HG i hi).nm]; exact h i hi⟩
  have c0 : X.cell? ⟨B, 15, none⟩ = some (.slice a.pa a.pn a.pc) := hu.x.cell 15 rfl
  have HE : Hid (Calls Tryz.prog 129 #[.slice a.pa a.pn a.pc, .func (.func 130) #[] #[]] X fun e w' => e = .returned (.bool q) ∧ Below X.heap.size X w') :=
    part_every a.pa a.pc a.pn a.Y (fun i => Lab.nok (Tx.nums (a.Y i).nm)) q 130 #[] X hu.m.p.1.seg hu.w.pb e_name (fun i hi Y hY => t_name (a.Y i) _ Y (hu.s.w i hi).2 rfl) HQ.out
  clear hu hp hq HL HG HQ
  go_enter Tryz.func128, Tryz.ntmps128
  go_wp2_with fail
  refine Calls.mono HE.out ?_
  rintro e w1 ⟨rfl, hb⟩
  have HB : Hid (Below X.heap.size X w1) := hb
  clear hb c0 HE
  go_wp2
  go_ret
  exact ⟨rfl, HB.out⟩
set_option maxRecDepth 40000 in
set_option maxHeartbeats 4000000 in
theorem cl11 (t : Tb) (a : Ad) (B : Nat) (q : Bool) (X : World) (hu : Und X B t a) (hp : ∀ j, j < 11 → R t j) (hq : q = true ↔ R t 11) :
    Calls Tryz.prog 135 #[.pointer (some ⟨B, 0, none⟩)] X fun e w' => e = .returned (.bool q) ∧ Below X.heap.size X w' := by
  have HL : t.ps.length = a.pn := hu.w.pl
  have HG := hu.m.p.2
  have HQ : Hid (q = true ↔ ∀ i, i < a.pn → (polOk (a.Y i).kd (a.Y i).ms) = true) := by
    refine hq.trans ?_
    simp only [R]
    rw [HL]
    exact ⟨fun h i hi => by rw [(HG i hi).kd, (HG i hi).ms]; exact h i hi, fun h i hi => by rw [← (HG i hi).kd, ← (HG i hi).ms]; exact h i hi⟩
  have c0 : X.cell? ⟨B, 15, none⟩ = some (.slice a.pa a.pn a.pc) := hu.x.cell 15 rfl
  have HE : Hid (Calls Tryz.prog 129 #[.slice a.pa a.pn a.pc, .func (.func 136) #[] #[]] X fun e w' => e = .returned (.bool q) ∧ Below X.heap.size X w') :=
    part_every a.pa a.pc a.pn a.Y (fun i => polOk (a.Y i).kd (a.Y i).ms) q 136 #[] X hu.m.p.1.seg hu.w.pb e_pol (fun i hi Y hY => t_pol (a.Y i) _ Y rfl) HQ.out
  clear hu hp hq HL HG HQ
  go_enter Tryz.func135, Tryz.ntmps135
  go_wp2_with fail
  refine Calls.mono HE.out ?_
  rintro e w1 ⟨rfl, hb⟩
  have HB : Hid (Below X.heap.size X w1) := hb
  clear hb c0 HE
  go_wp2
  go_ret
  exact ⟨rfl, HB.out⟩
set_option maxRecDepth 40000 in
set_option maxHeartbeats 4000000 in
theorem cl12 (t : Tb) (a : Ad) (B : Nat) (q : Bool) (X : World) (hu : Und X B t a) (hp : ∀ j, j < 12 → R t j) (hq : q = true ↔ R t 12) :
    Calls Tryz.prog 138 #[.pointer (some ⟨B, 0, none⟩)] X fun e w' => e = .returned (.bool q) ∧ Below X.heap.size X w' := by
  have HL : t.ps.length = a.pn := hu.w.pl
  have HG := hu.m.p.2
  have HQ : Hid (q = true ↔ ∀ i, i < a.pn → (inr ((a.Y i).wn : Int) 1 4) = true) := by
    refine hq.trans ?_
    simp only [R]
    rw [HL]
    exact ⟨fun h i hi => by have g := h i hi; rw [(HG i hi).ln] at g; rw [inr_iff]; omega, fun h i hi => by have g := h i hi; rw [inr_iff] at g; rw [(HG i hi).ln]; omega⟩
  have c0 : X.cell? ⟨B, 15, none⟩ = some (.slice a.pa a.pn a.pc) := hu.x.cell 15 rfl
  have HE : Hid (Calls Tryz.prog 129 #[.slice a.pa a.pn a.pc, .func (.func 139) #[] #[]] X fun e w' => e = .returned (.bool q) ∧ Below X.heap.size X w') :=
    part_every a.pa a.pc a.pn a.Y (fun i => inr ((a.Y i).wn : Int) 1 4) q 139 #[] X hu.m.p.1.seg hu.w.pb e_cnt (fun i hi Y hY => t_cnt (a.Y i) _ Y (hu.w.wb i hi).1 rfl) HQ.out
  clear hu hp hq HL HG HQ
  go_enter Tryz.func138, Tryz.ntmps138
  go_wp2_with fail
  refine Calls.mono HE.out ?_
  rintro e w1 ⟨rfl, hb⟩
  have HB : Hid (Below X.heap.size X w1) := hb
  clear hb c0 HE
  go_wp2
  go_ret
  exact ⟨rfl, HB.out⟩
set_option maxRecDepth 40000 in
set_option maxHeartbeats 4000000 in
theorem part_two (a : Option Addr) (cap n : Nat) (Y : Nat → Rw) (P : Nat → Nat → Bool) (q : Bool) (fid : Nat) (caps : Array Value) (w : World) (hs : GSeg 5 w a n (fun i => rwL (Y i))) (hn : n ≤ 9223372036854775807) (hc : n ≤ cap) (hen : ∀ args (v : World), (callFunc fid args).run Tryz.prog v = .ok (.enter fid args) v)
    (hf : ∀ i, i < n → ∀ j, j < i → ∀ X, Below w.heap.size w X → Calls Tryz.prog fid (#[rwV (Y j), rwV (Y i)] ++ caps) X fun e w' => e = .returned (.bool (P j i)) ∧ Below X.heap.size X w')
    (hq : q = true ↔ ∀ i, i < n → ∀ j, j < i → P j i = true) :
    Calls Tryz.prog 133 #[.slice a n cap, .func (.func fid) #[] caps] w fun e w' => e = .returned (.bool q) ∧ Below w.heap.size w w' := by
  have HQ : Hid (q = true ↔ ∀ i, i < n → ∀ j, j < i → P j i = true) := hq
  have HS : Hid (GSeg 5 w a n (fun i => rwL (Y i))) := hs
  have HF : Hid (∀ i, i < n → ∀ j, j < i → ∀ X, Below w.heap.size w X → Calls Tryz.prog fid (#[rwV (Y j), rwV (Y i)] ++ caps) X fun e w' => e = .returned (.bool (P j i)) ∧ Below X.heap.size X w') := hf
  clear hq hs hf
  go_enter Tryz.func133, Tryz.ntmps133
  go_wp2
  go_loopw [11] (fun i wr => ∃ m : Nat, m ≤ n ∧ i = .int .i64 m ∧ Hid (Below w.heap.size w wr ∧ ∀ i, i < m → ∀ j, j < i → P j i = true)) (fun i _ => n - (intOf i).toNat)
  case atStart => exact ⟨0, by omega, rfl, Below.refl _ _, fun i hi => absurd hi (by omega)⟩
  case round =>
    obtain ⟨m, hm, rfl, HR⟩ := hrel
    by_cases hmn : m < n
    rotate_left
    · obtain rfl : m = n := by omega
      have HT : Hid (q = true) := HQ.out.2 HR.out.2
      go_wp2
      go_ret
      exact ⟨ret_bool HT.out.symm, HR.out.1⟩
    have hmn' : (m : Int) < (n : Int) := by omega
    have hmc' : (m : Int) ≤ (cap : Int) := by omega
    obtain ⟨b1, o1, rfl, hbl1, p0⟩ := HS.out.at m hmn
    have HP : Hid (∀ X, Below w.heap.size w X → ∀ i, i < n → CellsAt X b1 (o1 + i * 5) (rwL (Y i))) := fun X hX i hi => by
      obtain ⟨b2, o2, e, hbl2, p2⟩ := HS.out.at i hi
      cases e
      exact p2.of (fun j => hX.cell (p := ⟨b1, j, none⟩) hbl1)
    obtain ⟨c0, c1, c2, c3, c4⟩ := rw_cells (HP.out _ HR.out.1 m hmn)
    have HFm : Hid _ := HF.out m hmn
    have HPf : Hid (∀ j, j < m → P j m = false → q = false) := fun j hj h => not_true HQ.out (fun g => by rw [g m hmn j hj] at h; cases h)
    have HPt : Hid ((∀ j, j < m → P j m = true) → ∀ i, i < m + 1 → ∀ j, j < i → P j i = true) := fun h i hi j hj => by
      by_cases e : i = m
      · subst e; exact h j hj
      · exact HR.out.2 i (by omega) j hj
    generalize Y m = y at c0 c1 c2 c3 c4 HFm
    generalize hpm : (fun j => P j m) = pm at *
    replace HFm : Hid (∀ j, j < m → ∀ X, Below w.heap.size w X → Calls Tryz.prog fid (#[rwV (Y j), rwV y] ++ caps) X fun e w' => e = .returned (.bool (pm j)) ∧ Below X.heap.size X w') := fun j hj X hX => by rw [← hpm]; exact HFm.out j hj X hX
    replace HPf : Hid (∀ j, j < m → pm j = false → q = false) := fun j hj h => HPf.out j hj (by rw [← hpm] at h; exact h)
    replace HPt : Hid ((∀ j, j < m → pm j = true) → ∀ i, i < m + 1 → ∀ j, j < i → P j i = true) := fun h => HPt.out (fun j hj => by have := h j hj; rw [← hpm] at this; exact this)
    clear hpm
    obtain ⟨nm, en, kd, ms, wa, wn, wc⟩ := y
    simp only at c0 c1 c2 c3 c4
    have HK0 : Hid (Below w.heap.size w (wr.alloc (.cells #[.string nm, .int .i64 en, .int .i64 kd, .int .i64 ms, .slice wa wn wc] 72)) ∧ CellsAt (wr.alloc (.cells #[.string nm, .int .i64 en, .int .i64 kd, .int .i64 ms, .slice wa wn wc] 72)) wr.heap.size 0 [.string nm, .int .i64 en, .int .i64 kd, .int .i64 ms, .slice wa wn wc]) := ⟨HR.out.1.alloc HR.out.1.size _, CellsAt.new wr [.string nm, .int .i64 en, .int .i64 kd, .int .i64 ms, .slice wa wn wc] 72 _ rfl⟩
    clear p0 hbl1
    go_wp2
    clear c0 c1 c2 c3 c4 HR
    revert HK0
    generalize (wr.alloc (.cells #[.string nm, .int .i64 en, .int .i64 kd, .int .i64 ms, .slice wa wn wc] 72)) = V0
    generalize wr.heap.size = B1
    intro HK0
    go_loopw [20] (fun i wq => ∃ k : Nat, k ≤ m ∧ i = .int .i64 k ∧ Hid (Below w.heap.size w wq ∧ CellsAt wq B1 0 [.string nm, .int .i64 en, .int .i64 kd, .int .i64 ms, .slice wa wn wc] ∧ ∀ j, j < k → pm j = true)) (fun i _ => m - (intOf i).toNat)
    case atStart => exact ⟨0, by omega, rfl, HK0.out.1, HK0.out.2, fun i hi => absurd hi (by omega)⟩
    case round =>
      rename World => wq
      obtain ⟨k, hk, rfl, HR2⟩ := hrel
      by_cases hkm : k < m
      rotate_left
      · obtain rfl : k = m := by omega
        have HR3 : Hid _ := HPt.out HR2.out.2.2
        go_wp2
        go_roundw
        case rel => exact ⟨k + 1, by omega, by go_num, HR2.out.1, HR3.out⟩
        case measure => simp [intOf]; omega
      have hkm' : (k : Int) < (m : Int) := by omega
      obtain ⟨d0, d1, d2, d3, d4⟩ := rw_cells (HP.out _ HR2.out.1 k (by omega))
      have HFk : Hid _ := HFm.out k hkm
      have HPk : Hid (pm k = false → q = false) := HPf.out k hkm
      have HPs : Hid (pm k = true → ∀ j, j < k + 1 → pm j = true) := fun h j hj => by
        by_cases e : j = k
        · subst e; exact h
        · exact HR2.out.2.2 j (by omega)
      generalize Y k = z at d0 d1 d2 d3 d4 HFk
      generalize pm k = pk at HFk HPk HPs
      obtain ⟨nm', en', kd', ms', va, vn, vc⟩ := z
      simp only [rwV] at d0 d1 d2 d3 d4 HFk
      have hal : Below wq.heap.size wq (wq.alloc (.cells #[.string nm', .int .i64 en', .int .i64 kd', .int .i64 ms', .slice va vn vc] 72)) := (Below.refl _ _).alloc (Nat.le_refl _) _
      have hK2 := HR2.out.2.1.below hal
      have e0 := cell0 hK2 0 rfl
      have e1 := cell0 hK2 1 rfl
      have e2 := cell0 hK2 2 rfl
      have e3 := cell0 hK2 3 rfl
      have e4 := cell0 hK2 4 rfl
      have HAL : Hid (Below w.heap.size w (wq.alloc (.cells #[.string nm', .int .i64 en', .int .i64 kd', .int .i64 ms', .slice va vn vc] 72)) ∧ CellsAt (wq.alloc (.cells #[.string nm', .int .i64 en', .int .i64 kd', .int .i64 ms', .slice va vn vc] 72)) B1 0 [.string nm, .int .i64 en, .int .i64 kd, .int .i64 ms, .slice wa wn wc]) := ⟨HR2.out.1.trans (hal.mono HR2.out.1.size), hK2⟩
      clear hal hK2
      go_wp2_with fail
      refine (HFk.out _ HAL.out.1).mono ?_
      rintro u W1 ⟨rfl, hb2⟩
      have HB2 : Hid (Below w.heap.size w W1 ∧ CellsAt W1 B1 0 [.string nm, .int .i64 en, .int .i64 kd, .int .i64 ms, .slice wa wn wc]) := ⟨HAL.out.1.trans (hb2.mono HAL.out.1.size), HAL.out.2.below hb2⟩
      clear hb2 d0 d1 d2 d3 d4 e0 e1 e2 e3 e4 HAL
      cases pk
      · have HT : Hid (q = false) := HPk.out (by trivial)
        go_wp2
        go_ret
        exact ⟨ret_bool HT.out.symm, HB2.out.1⟩
      · have HT : Hid _ := HPs.out (by trivial)
        go_wp2
        go_roundw
        case rel => exact ⟨k + 1, by omega, by go_num, HB2.out.1, HB2.out.2, HT.out⟩
        case measure => simp [intOf]; omega
def strNe (x y : ByteArray) : Bool := !x.toList == y.toList
theorem strNe_iff {x y : ByteArray} : strNe x y = true ↔ x ≠ y := by
  unfold strNe
  rw [ByteArray.toList_eq, ByteArray.toList_eq]
  constructor
  · intro h e
    subst e
    simp at h
  · intro h
    have : ¬ x.data.toList = y.data.toList := fun e => h (ByteArray.ext (by simpa using congrArg List.toArray e))
    simpa using this
theorem t_two (y z : Rw) (q : Bool) (w : World) (hq : Hid (strNe y.nm z.nm = q)) : Calls Tryz.prog 134 #[rwV y, rwV z] w fun e w' => e = .returned (.bool q) ∧ Below w.heap.size w w' := by
  obtain ⟨nm, en, kd, ms, wa, wn, wc⟩ := y
  obtain ⟨nm', en', kd', ms', va, vn, vc⟩ := z
  simp only [rwV] at *
  have HB0 : Hid (Below w.heap.size w ((w.alloc (.cells #[.string nm, .int .i64 en, .int .i64 kd, .int .i64 ms, .slice wa wn wc] 72)).alloc (.cells #[.string nm', .int .i64 en', .int .i64 kd', .int .i64 ms', .slice va vn vc] 72))) := ((Below.refl _ _).alloc (Nat.le_refl _) _).alloc (by simp) _
  go_enter Tryz.func134, Tryz.ntmps134
  go_wp2
  go_ret
  exact ⟨ret_bool hq.out, HB0.out⟩
set_option maxRecDepth 20000 in
theorem e_two : ∀ args (v : World), (callFunc 134 args).run Tryz.prog v = .ok (.enter 134 args) v := enters_of Tryz.func134 (by kernel_rfl) rfl
set_option maxRecDepth 40000 in
set_option maxHeartbeats 4000000 in
theorem cl10 (t : Tb) (a : Ad) (B : Nat) (q : Bool) (X : World) (hu : Und X B t a) (hp : ∀ j, j < 10 → R t j) (hcp : a.pn ≤ a.pc) (hq : q = true ↔ R t 10) :
    Calls Tryz.prog 132 #[.pointer (some ⟨B, 0, none⟩)] X fun e w' => e = .returned (.bool q) ∧ Below X.heap.size X w' := by
  have HL : t.ps.length = a.pn := hu.w.pl
  have HG := hu.m.p.2
  have HQ : Hid (q = true ↔ ∀ i, i < a.pn → ∀ j, j < i → strNe (a.Y j).nm (a.Y i).nm = true) := by
    refine hq.trans ?_
    simp only [R]
    rw [HL]
    exact ⟨fun h i hi j hj => by have := h i hi j hj; rw [(HG i hi).nm, (HG j (by omega)).nm]; exact strNe_iff.2 this, fun h i hi j hj => by have := h i hi j hj; rw [(HG i hi).nm, (HG j (by omega)).nm] at this; exact strNe_iff.1 this⟩
  have c0 : X.cell? ⟨B, 15, none⟩ = some (.slice a.pa a.pn a.pc) := hu.x.cell 15 rfl
  have HE : Hid (Calls Tryz.prog 133 #[.slice a.pa a.pn a.pc, .func (.func 134) #[] #[]] X fun e w' => e = .returned (.bool q) ∧ Below X.heap.size X w') :=
    part_two a.pa a.pc a.pn a.Y (fun j i => strNe (a.Y j).nm (a.Y i).nm) q 134 #[] X hu.m.p.1.seg hu.w.pb hcp e_two (fun i hi j hj Y hY => t_two (a.Y j) (a.Y i) _ Y rfl) HQ.out
  clear hu hp hq HL HG HQ
  go_enter Tryz.func132, Tryz.ntmps132
  go_wp2_with fail
  refine Calls.mono HE.out ?_
  rintro e w1 ⟨rfl, hb⟩
  have HB : Hid (Below X.heap.size X w1) := hb
  clear hb c0 HE
  go_wp2
  go_ret
  exact ⟨rfl, HB.out⟩
end Go.Proofs.YtlomcdgfcocmmaaGreatDoor
namespace Go.Proofs.YtlomcdgfcocmmaaGreatDoor
open Go.ChangeShapes Go.WideShapes Go.ChangeAt Go.RowKit Go.Deep Go.Joins
set_option linter.unusedVariables false

set_option maxRecDepth 40000 in
set_option maxHeartbeats 4000000 in
theorem win_two (a : Option Addr) (cap n : Nat) (xs : List wiT) (P : Nat → Nat → Bool) (q : Bool) (fid : Nat) (caps : Array Value) (w : World) (hs : GSeg 3 w a n (wiX xs)) (hn : n ≤ 9223372036854775807) (hc : n ≤ cap) (hen : ∀ args (v : World), (callFunc fid args).run Tryz.prog v = .ok (.enter fid args) v)
    (hf : ∀ i, i < n → ∀ j, j < i → ∀ X, Below w.heap.size w X → Calls Tryz.prog fid (#[wiV (xs.getD j wi0), wiV (xs.getD i wi0)] ++ caps) X fun e w' => e = .returned (.bool (P j i)) ∧ Below X.heap.size X w')
    (hq : q = true ↔ ∀ i, i < n → ∀ j, j < i → P j i = true) :
    Calls Tryz.prog 147 #[.slice a n cap, .func (.func fid) #[] caps] w fun e w' => e = .returned (.bool q) ∧ Below w.heap.size w w' := by
  have HQ : Hid (q = true ↔ ∀ i, i < n → ∀ j, j < i → P j i = true) := hq
  have HS : Hid (GSeg 3 w a n (wiX xs)) := hs
  have HF : Hid (∀ i, i < n → ∀ j, j < i → ∀ X, Below w.heap.size w X → Calls Tryz.prog fid (#[wiV (xs.getD j wi0), wiV (xs.getD i wi0)] ++ caps) X fun e w' => e = .returned (.bool (P j i)) ∧ Below X.heap.size X w') := hf
  clear hq hs hf
  go_enter Tryz.func147, Tryz.ntmps147
  go_wp2
  go_loopw [11] (fun i wr => ∃ m : Nat, m ≤ n ∧ i = .int .i64 m ∧ Hid (Below w.heap.size w wr ∧ ∀ i, i < m → ∀ j, j < i → P j i = true)) (fun i _ => n - (intOf i).toNat)
  case atStart => exact ⟨0, by omega, rfl, Below.refl _ _, fun i hi => absurd hi (by omega)⟩
  case round =>
    obtain ⟨m, hm, rfl, HR⟩ := hrel
    by_cases hmn : m < n
    rotate_left
    · obtain rfl : m = n := by omega
      have HT : Hid (q = true) := HQ.out.2 HR.out.2
      go_wp2
      go_ret
      exact ⟨ret_bool HT.out.symm, HR.out.1⟩
    have hmn' : (m : Int) < (n : Int) := by omega
    have hmc' : (m : Int) ≤ (cap : Int) := by omega
    obtain ⟨b1, o1, rfl, hbl1, p0⟩ := HS.out.at m hmn
    have HP : Hid (∀ X, Below w.heap.size w X → ∀ i, i < n → CellsAt X b1 (o1 + i * 3) (wiX xs i)) := fun X hX i hi => by
      obtain ⟨b2, o2, e, hbl2, p2⟩ := HS.out.at i hi
      cases e
      exact p2.of (fun j => hX.cell (p := ⟨b1, j, none⟩) hbl1)
    have pc := HP.out _ HR.out.1 m hmn
    simp only [wiX] at pc
    obtain ⟨c0, c1, c2⟩ := wi_cells pc
    clear pc
    have HFm : Hid _ := HF.out m hmn
    have HPf : Hid (∀ j, j < m → P j m = false → q = false) := fun j hj h => not_true HQ.out (fun g => by rw [g m hmn j hj] at h; cases h)
    have HPt : Hid ((∀ j, j < m → P j m = true) → ∀ i, i < m + 1 → ∀ j, j < i → P j i = true) := fun h i hi j hj => by
      by_cases e : i = m
      · subst e; exact h j hj
      · exact HR.out.2 i (by omega) j hj
    generalize xs.getD m wi0 = y at c0 c1 c2 HFm
    generalize hpm : (fun j => P j m) = pm at *
    replace HFm : Hid (∀ j, j < m → ∀ X, Below w.heap.size w X → Calls Tryz.prog fid (#[wiV (xs.getD j wi0), wiV y] ++ caps) X fun e w' => e = .returned (.bool (pm j)) ∧ Below X.heap.size X w') := fun j hj X hX => by rw [← hpm]; exact HFm.out j hj X hX
    replace HPf : Hid (∀ j, j < m → pm j = false → q = false) := fun j hj h => HPf.out j hj (by rw [← hpm] at h; exact h)
    replace HPt : Hid ((∀ j, j < m → pm j = true) → ∀ i, i < m + 1 → ∀ j, j < i → P j i = true) := fun h => HPt.out (fun j hj => by have := h j hj; rw [← hpm] at this; exact this)
    clear hpm
    obtain ⟨y1, y2, y3⟩ := y
    simp only at c0 c1 c2
    have HK0 : Hid (Below w.heap.size w (wr.alloc (.cells #[.int .i64 y1, .int .i64 y2, .int .i64 y3] 74)) ∧ CellsAt (wr.alloc (.cells #[.int .i64 y1, .int .i64 y2, .int .i64 y3] 74)) wr.heap.size 0 [.int .i64 y1, .int .i64 y2, .int .i64 y3]) := ⟨HR.out.1.alloc HR.out.1.size _, CellsAt.new wr [.int .i64 y1, .int .i64 y2, .int .i64 y3] 74 _ rfl⟩
    clear p0 hbl1
    go_wp2
    clear c0 c1 c2 HR
    revert HK0
    generalize (wr.alloc (.cells #[.int .i64 y1, .int .i64 y2, .int .i64 y3] 74)) = V0
    generalize wr.heap.size = B1
    intro HK0
    go_loopw [20] (fun i wq => ∃ k : Nat, k ≤ m ∧ i = .int .i64 k ∧ Hid (Below w.heap.size w wq ∧ CellsAt wq B1 0 [.int .i64 y1, .int .i64 y2, .int .i64 y3] ∧ ∀ j, j < k → pm j = true)) (fun i _ => m - (intOf i).toNat)
    case atStart => exact ⟨0, by omega, rfl, HK0.out.1, HK0.out.2, fun i hi => absurd hi (by omega)⟩
    case round =>
      rename World => wq
      obtain ⟨k, hk, rfl, HR2⟩ := hrel
      by_cases hkm : k < m
      rotate_left
      · obtain rfl : k = m := by omega
        have HR3 : Hid _ := HPt.out HR2.out.2.2
        go_wp2
        go_roundw
        case rel => exact ⟨k + 1, by omega, by go_num, HR2.out.1, HR3.out⟩
        case measure => simp [intOf]; omega
      have hkm' : (k : Int) < (m : Int) := by omega
      have pd := HP.out _ HR2.out.1 k (by omega)
      simp only [wiX] at pd
      obtain ⟨d0, d1, d2⟩ := wi_cells pd
      clear pd
      have HFk : Hid _ := HFm.out k hkm
      have HPk : Hid (pm k = false → q = false) := HPf.out k hkm
      have HPs : Hid (pm k = true → ∀ j, j < k + 1 → pm j = true) := fun h j hj => by
        by_cases e : j = k
        · subst e; exact h
        · exact HR2.out.2.2 j (by omega)
      generalize xs.getD k wi0 = z at d0 d1 d2 HFk
      generalize pm k = pk at HFk HPk HPs
      obtain ⟨z1, z2, z3⟩ := z
      simp only [wiV] at d0 d1 d2 HFk
      have hal : Below wq.heap.size wq (wq.alloc (.cells #[.int .i64 z1, .int .i64 z2, .int .i64 z3] 74)) := (Below.refl _ _).alloc (Nat.le_refl _) _
      have hK2 := HR2.out.2.1.below hal
      have e0 := cell0 hK2 0 rfl
      have e1 := cell0 hK2 1 rfl
      have e2 := cell0 hK2 2 rfl
      have HAL : Hid (Below w.heap.size w (wq.alloc (.cells #[.int .i64 z1, .int .i64 z2, .int .i64 z3] 74)) ∧ CellsAt (wq.alloc (.cells #[.int .i64 z1, .int .i64 z2, .int .i64 z3] 74)) B1 0 [.int .i64 y1, .int .i64 y2, .int .i64 y3]) := ⟨HR2.out.1.trans (hal.mono HR2.out.1.size), hK2⟩
      clear hal hK2
      go_wp2_with fail
      refine (HFk.out _ HAL.out.1).mono ?_
      rintro u W1 ⟨rfl, hb2⟩
      have HB2 : Hid (Below w.heap.size w W1 ∧ CellsAt W1 B1 0 [.int .i64 y1, .int .i64 y2, .int .i64 y3]) := ⟨HAL.out.1.trans (hb2.mono HAL.out.1.size), HAL.out.2.below hb2⟩
      clear hb2 d0 d1 d2 e0 e1 e2 HAL
      cases pk
      · have HT : Hid (q = false) := HPk.out (by trivial)
        go_wp2
        go_ret
        exact ⟨ret_bool HT.out.symm, HB2.out.1⟩
      · have HT : Hid _ := HPs.out (by trivial)
        go_wp2
        go_roundw
        case rel => exact ⟨k + 1, by omega, by go_num, HB2.out.1, HB2.out.2, HT.out⟩
        case measure => simp [intOf]; omega
set_option maxRecDepth 20000 in
set_option maxHeartbeats 4000000 in
theorem t_in (x : wiT) (m : Int) (q : Bool) (B : Nat) (X : World) (hf : x.2.1 ≤ 9223372036854775807) (hc : X.cell? ⟨B, 0, none⟩ = some (.int .i64 m)) (hq : q = true ↔ (WOk x ∧ x.1 + x.2.1 ≤ m)) :
    Calls Tryz.prog 143 #[wiV x, .pointer (some ⟨B, 0, none⟩)] X fun e w' => e = .returned (.bool q) ∧ Below X.heap.size X w' := by
  obtain ⟨qo, hqo⟩ := told (WOk x)
  have HW : Hid (∀ Y, Calls Tryz.prog 144 #[win x.1 x.2.1 x.2.2] Y fun e w' => e = .returned (.bool qo) ∧ Below Y.heap.size Y w') := fun Y => impl_wok _ _ _ qo Y hf hqo
  have HE : Hid (qo = true → ∀ Y, Calls Tryz.prog 145 #[win x.1 x.2.1 x.2.2] Y fun e w' => e = .returned (.int .i64 (x.1 + x.2.1)) ∧ Below Y.heap.size Y w') := fun h Y => win_end _ _ _ Y (hqo.1 h).fit
  have HQ1 : Hid (qo = false → q = false) := fun h => not_true hq (fun g => by rw [hqo.2 g.1] at h; cases h)
  have HQ2 : Hid (qo = true → decide (x.1 + x.2.1 ≤ m) = q) := fun h => bool_is hq ⟨fun g => ⟨hqo.1 h, of_decide_eq_true g⟩, fun g => decide_eq_true g.2⟩
  clear hq hqo hf
  generalize x.1 + x.2.1 = ex at HE HQ2
  obtain ⟨x1, x2, x3⟩ := x
  simp only [wiV] at *
  have hb : Below X.heap.size X (X.alloc (wrow 74 x1 x2 x3)) := (Below.refl _ _).alloc (Nat.le_refl _) _
  have c9 : (X.alloc (wrow 74 x1 x2 x3)).cell? ⟨B, 0, none⟩ = some (.int .i64 m) := kept_cell hb hc
  have K := CellsAt.new X [.int .i64 x1, .int .i64 x2, .int .i64 x3] 74 _ rfl
  have c0 : (X.alloc (wrow 74 x1 x2 x3)).cell? ⟨X.heap.size, 0, none⟩ = some (.int .i64 x1) := cell0 K 0 rfl
  have c1 : (X.alloc (wrow 74 x1 x2 x3)).cell? ⟨X.heap.size, 1, none⟩ = some (.int .i64 x2) := cell0 K 1 rfl
  have c2 : (X.alloc (wrow 74 x1 x2 x3)).cell? ⟨X.heap.size, 2, none⟩ = some (.int .i64 x3) := cell0 K 2 rfl
  clear K hc
  generalize HW0 : X.alloc (wrow 74 x1 x2 x3) = W0 at hb c0 c1 c2 c9
  replace c0 := fun x => gr_cell c0 x
  replace c1 := fun x => gr_cell c1 x
  replace c2 := fun x => gr_cell c2 x
  replace c9 := fun x => gr_cell c9 x
  cases qo
  · have HT : Hid (q = false) := HQ1.out (by trivial)
    clear HQ1 HQ2 HE
    go_enter Tryz.func143, Tryz.ntmps143
    go_wp2
    clear HW0
    have hgr := gr_some W0
    refine region_alike (by kernel_rfl) (by kernel_rfl) ?_
    repeat (go_big_quiet_step (first | (go_at_call 144; exact gr_call (HW.out _))))
    refine wpQuiet_nil ?_
    intro _ hw'
    obtain ⟨x9, rfl⟩ := hw'
    have hb := hb.trans (x9.h.mono hb.size)
    all_goals (have HB : Hid _ := hb; clear hb; go_wp2; go_ret; exact ⟨ret_bool HT.out.symm, HB.out⟩)
  · have HT : Hid (decide (ex ≤ m) = q) := HQ2.out (by trivial)
    have HE' : Hid _ := HE.out (by trivial)
    clear HQ1 HQ2 HE
    generalize hd : decide (ex ≤ m) = d at HT
    go_enter Tryz.func143, Tryz.ntmps143
    go_wp2
    clear HW0
    have hgr := gr_some W0
    refine region_alike (by kernel_rfl) (by kernel_rfl) ?_
    repeat (go_big_quiet_step (first | (go_at_call 144; exact gr_call (HW.out _)) | (go_at_call 145; exact gr_call (HE'.out _))))
    refine wpQuiet_nil ?_
    intro _ hw'
    obtain ⟨x9, rfl⟩ := hw'
    have hb := hb.trans (x9.h.mono hb.size)
    all_goals (have HB : Hid _ := hb; clear hb; go_wp2; go_ret; exact ⟨ret_bool HT.out, HB.out⟩)
set_option maxRecDepth 20000 in
theorem e_in : ∀ args (v : World), (callFunc 143 args).run Tryz.prog v = .ok (.enter 143 args) v := enters_of Tryz.func143 (by kernel_rfl) rfl
set_option maxRecDepth 20000 in
theorem e_apart : ∀ args (v : World), (callFunc 148 args).run Tryz.prog v = .ok (.enter 148 args) v := enters_of Tryz.func148 (by kernel_rfl) rfl
/-- Every window of the whole list is one of a partition's. -/
theorem allW_mem {ps : List Pt} {x : wiT} (h : x ∈ allW ps) : ∃ i, i < ps.length ∧ ∃ j, j < (ps.getD i pt0).ws.length ∧ x = (ps.getD i pt0).ws.getD j wi0 := by
  unfold allW at h
  rw [List.mem_flatten] at h
  obtain ⟨l, hl, hx⟩ := h
  obtain ⟨p, hp, rfl⟩ := List.mem_map.1 hl
  obtain ⟨i, hi, rfl⟩ := List.mem_iff_getElem.1 hp
  obtain ⟨j, hj, rfl⟩ := List.mem_iff_getElem.1 hx
  refine ⟨i, hi, j, ?_, ?_⟩
  · simpa [List.getD, hi] using hj
  · simp [List.getD, hi, hj]
theorem mem_allW {ps : List Pt} {i j : Nat} (hi : i < ps.length) (hj : j < (ps.getD i pt0).ws.length) : ∃ k, k < (allW ps).length ∧ (allW ps).getD k wi0 = (ps.getD i pt0).ws.getD j wi0 := by
  have h : (ps.getD i pt0).ws.getD j wi0 ∈ allW ps := by
    unfold allW
    rw [List.mem_flatten]
    refine ⟨(ps.getD i pt0).ws, List.mem_map.2 ⟨ps.getD i pt0, ?_, rfl⟩, ?_⟩
    · simp [List.getD, hi]
    · generalize (ps.getD i pt0).ws = l at hj ⊢
      simp [List.getD, hj]
  obtain ⟨k, hk, e⟩ := List.mem_iff_getElem.1 h
  exact ⟨k, hk, by simp [List.getD, hk]; simpa [List.getD] using e⟩
theorem allW_fit {t : Tb} {a : Ad} (h : TW t a) : ∀ k, k < (allW t.ps).length → ((allW t.ps).getD k wi0).2.1 ≤ 9223372036854775807 := fun k hk => by
  have hm : (allW t.ps).getD k wi0 ∈ allW t.ps := by simp [List.getD, hk]
  obtain ⟨i, hi, j, hj, e⟩ := allW_mem hm
  rw [e]
  exact h.wf i (by rw [← h.pl]; exact hi) j hj
theorem allW_len {ps : List Pt} (h : ∀ i, i < ps.length → (ps.getD i pt0).ws.length ≤ 4) : ∀ m, m ≤ ps.length → (allW (ps.take m)).length ≤ 4 * m := by
  intro m
  induction m with
  | zero => intro _; simp [allW]
  | succ m ih =>
    intro hm
    rw [allW_succ ps m (by omega), List.length_append]
    have := ih (by omega)
    have := h m (by omega)
    omega
set_option maxRecDepth 40000 in
set_option maxHeartbeats 4000000 in
theorem cl13 (t : Tb) (a : Ad) (B : Nat) (q : Bool) (X : World) (hu : Und X B t a) (hp : ∀ j, j < 13 → R t j) (hq : q = true ↔ R t 13) :
    Calls Tryz.prog 140 #[.pointer (some ⟨B, 0, none⟩)] X fun e w' => e = .returned (.bool q) ∧ Below X.heap.size X w' := by
  have HL : t.ps.length = a.pn := hu.w.pl
  have h8 := hp 8 (by omega)
  have h12 := hp 12 (by omega)
  simp only [R] at h8 h12
  have hwn : ∀ i, i < a.pn → 1 ≤ (a.Y i).wn ∧ (a.Y i).wn ≤ 4 := fun i hi => by
    have g := h12 i (by omega)
    rw [(hu.m.p.2 i hi).ln] at g
    exact g
  have hN : (allW t.ps).length ≤ 24 := by
    have := allW_len (ps := t.ps) (fun i hi => (h12 i hi).2) t.ps.length (Nat.le_refl _)
    rw [List.take_length] at this
    omega
  have HAL : Hid (∀ Y, TM 0 Y t a → Calls Tryz.prog 142 #[tbV t a] Y fun e w' => (∃ A c, e = .returned (.slice A (allW t.ps).length c) ∧ (allW t.ps).length ≤ c ∧ GSeg 3 w' A (allW t.ps).length (wiX (allW t.ps))) ∧ Below Y.heap.size Y w') := fun Y hY => impl_all t a Y hY HL (by omega) hwn
  have HFT : Hid _ := allW_fit hu.w
  have HXX : Hid (X.heap[B]? = some (.cells (tbA t a) 33 (0, 0))) := hu.x
  have HQ : Hid (q = true ↔ ∀ i, i < (allW t.ps).length → (WOk ((allW t.ps).getD i wi0) ∧ ((allW t.ps).getD i wi0).1 + ((allW t.ps).getD i wi0).2.1 ≤ t.mem)) := hq
  have HU : Hid (Und X B t a) := hu
  have HEV : Hid (∀ (Y : World) A c, Und Y B t a → GSeg 3 Y A (allW t.ps).length (wiX (allW t.ps)) → Calls Tryz.prog 141 #[.slice A (allW t.ps).length c, .func (.func 143) #[] #[.pointer (some ⟨B, 0, none⟩)]] Y fun e w' => e = .returned (.bool q) ∧ Below Y.heap.size Y w') := fun Y A c hY hs => by
    have hd : ∀ i, ∃ p : Bool, p = true ↔ (WOk ((allW t.ps).getD i wi0) ∧ ((allW t.ps).getD i wi0).1 + ((allW t.ps).getD i wi0).2.1 ≤ t.mem) := fun i => told _
    exact wi_every A c (allW t.ps).length (allW t.ps) (fun i => (hd i).choose) q 143 #[.pointer (some ⟨B, 0, none⟩)] Y hs (by omega) e_in
      (fun i hi Z hZ => t_in ((allW t.ps).getD i wi0) t.mem _ B Z (HFT.out i hi) (kept_cell hZ (hY.x.cell 0 rfl)) (hd i).choose_spec)
      (HQ.out.trans ⟨fun h i hi => (hd i).choose_spec.2 (h i hi), fun h i hi => (hd i).choose_spec.1 (h i hi)⟩)
  clear hu hp hq HL h8 h12 hwn HFT HQ
  go_enter Tryz.func140, Tryz.ntmps140
  go_wp2_with (first | (refine wpList_load_row rfl 33 (.tmp 0) rfl B rfl 33 (tbA t a) (0, 0) _ HXX.out Tryz.underlying33 rfl (by kernel_rfl) ?_) | fail)
  refine Calls.mono (HAL.out _ HU.out.m) ?_
  rintro e w1 ⟨⟨A, c, rfl, hAc, hAs⟩, hb1⟩
  have HU1 : Hid (Und w1 B t a) := HU.out.below hb1
  have HB1 : Hid (Below X.heap.size X w1) := hb1
  have HAA : Hid ((allW t.ps).length ≤ c ∧ GSeg 3 w1 A (allW t.ps).length (wiX (allW t.ps))) := ⟨hAc, hAs⟩
  clear hb1 hAc hAs
  go_wp2_with fail
  refine Calls.mono (HEV.out _ A c HU1.out HAA.out.2) ?_
  rintro e w2 ⟨rfl, hb2⟩
  have HB2 : Hid (Below X.heap.size X w2) := HB1.out.trans (hb2.mono HB1.out.size)
  clear hb2
  go_wp2
  go_ret
  exact ⟨rfl, HB2.out⟩
set_option maxRecDepth 40000 in
set_option maxHeartbeats 4000000 in
theorem cl14 (t : Tb) (a : Ad) (B : Nat) (q : Bool) (X : World) (hu : Und X B t a) (hp : ∀ j, j < 14 → R t j) (hq : q = true ↔ R t 14) :
    Calls Tryz.prog 146 #[.pointer (some ⟨B, 0, none⟩)] X fun e w' => e = .returned (.bool q) ∧ Below X.heap.size X w' := by
  have HL : t.ps.length = a.pn := hu.w.pl
  have h8 := hp 8 (by omega)
  have h12 := hp 12 (by omega)
  simp only [R] at h8 h12
  have hwn : ∀ i, i < a.pn → 1 ≤ (a.Y i).wn ∧ (a.Y i).wn ≤ 4 := fun i hi => by
    have g := h12 i (by omega)
    rw [(hu.m.p.2 i hi).ln] at g
    exact g
  have hN : (allW t.ps).length ≤ 24 := by
    have := allW_len (ps := t.ps) (fun i hi => (h12 i hi).2) t.ps.length (Nat.le_refl _)
    rw [List.take_length] at this
    omega
  have HAL : Hid (∀ Y, TM 0 Y t a → Calls Tryz.prog 142 #[tbV t a] Y fun e w' => (∃ A c, e = .returned (.slice A (allW t.ps).length c) ∧ (allW t.ps).length ≤ c ∧ GSeg 3 w' A (allW t.ps).length (wiX (allW t.ps))) ∧ Below Y.heap.size Y w') := fun Y hY => impl_all t a Y hY HL (by omega) hwn
  have HFT : Hid _ := allW_fit hu.w
  have HXX : Hid (X.heap[B]? = some (.cells (tbA t a) 33 (0, 0))) := hu.x
  have HQ : Hid (q = true ↔ ∀ i, i < (allW t.ps).length → ∀ j, j < i → ApartP ((allW t.ps).getD j wi0) ((allW t.ps).getD i wi0)) := hq
  have HU : Hid (Und X B t a) := hu
  have HEV : Hid (∀ (Y : World) A c, (allW t.ps).length ≤ c → GSeg 3 Y A (allW t.ps).length (wiX (allW t.ps)) → Calls Tryz.prog 147 #[.slice A (allW t.ps).length c, .func (.func 148) #[] #[]] Y fun e w' => e = .returned (.bool q) ∧ Below Y.heap.size Y w') := fun Y A c hc hs => by
    have hd : ∀ j i, ∃ p : Bool, p = true ↔ ApartP ((allW t.ps).getD j wi0) ((allW t.ps).getD i wi0) := fun j i => told _
    exact win_two A c (allW t.ps).length (allW t.ps) (fun j i => (hd j i).choose) q 148 #[] Y hs (by omega) hc e_apart
      (fun i hi j hj Z hZ => impl_apart _ _ _ Z (HFT.out j (by omega)) (HFT.out i hi) (hd j i).choose_spec)
      (HQ.out.trans ⟨fun h i hi j hj => (hd j i).choose_spec.2 (h i hi j hj), fun h i hi j hj => (hd j i).choose_spec.1 (h i hi j hj)⟩)
  clear hu hp hq HL h8 h12 hwn HFT HQ
  go_enter Tryz.func146, Tryz.ntmps146
  go_wp2_with (first | (refine wpList_load_row rfl 33 (.tmp 0) rfl B rfl 33 (tbA t a) (0, 0) _ HXX.out Tryz.underlying33 rfl (by kernel_rfl) ?_) | fail)
  refine Calls.mono (HAL.out _ HU.out.m) ?_
  rintro e w1 ⟨⟨A, c, rfl, hAc, hAs⟩, hb1⟩
  have HU1 : Hid (Und w1 B t a) := HU.out.below hb1
  have HB1 : Hid (Below X.heap.size X w1) := hb1
  have HAA : Hid ((allW t.ps).length ≤ c ∧ GSeg 3 w1 A (allW t.ps).length (wiX (allW t.ps))) := ⟨hAc, hAs⟩
  clear hb1 hAc hAs
  go_wp2_with fail
  refine Calls.mono (HEV.out _ A c HAA.out.1 HAA.out.2) ?_
  rintro e w2 ⟨rfl, hb2⟩
  have HB2 : Hid (Below X.heap.size X w2) := HB1.out.trans (hb2.mono HB1.out.size)
  clear hb2
  go_wp2
  go_ret
  exact ⟨rfl, HB2.out⟩
end Go.Proofs.YtlomcdgfcocmmaaGreatDoor
