
/-
  Whether two slots can be merged, by the program. Conditions: the tables are sound; the lists lie in memory.
-/
import Derived.Test.YthieilkabcehgaaGreatDoorSmp
import Derived.Test.YthieilkabcehgaaGreatDoorIsc
import Derived.Test.YthieilkabcehgaaGreatDoorIsw
namespace Go.Proofs.YthieilkabcehgaaGreatDoor
open Go.ChangeShapes Go.WideShapes Go.ChangeAt Go.RowKit Go.Deep Go.Joins
set_option linter.unusedVariables false

/-- Copies of two slots, in whatever order they are read and made. -/
structure Icr (W0 : World) (T0 : Nat) (sa : Option Addr) (sn sc k : Nat) (P P2 : Addr) (z1 z2 z3 y1 y2 y3 : Int) (w' : World) (N1 N2 : Nat) (b0 b1 b2 b3 b4 b5 b6 b7 b8 b9 b10 b11 b12 b13 b14 : Bool) (x18 x19 x20 x21 x22 x23 x24 x25 x26 x27 x28 x5 x6 : Value) : Prop where
  c13 : b13 = true → b11 = true ∧ b12 = true
  c14 : b14 = true → b13 = true
  gb : Below W0.heap.size W0 w'
  ne : b11 = true → b12 = true → N1 ≠ N2
  f0 : b0 = true → x18 = .pointer (some ⟨T0, 18, none⟩)
  f1 : b1 = true → x19 = .slice sa sn sc
  f2 : b2 = true → x20 = .int .i64 (k : Int)
  f3 : b3 = true → x21 = .pointer (some P)
  f4 : b4 = true → x22 = .agg #[.int .i64 z1, .int .i64 z2, .int .i64 z3]
  f5 : b5 = true → x23 = .pointer (some ⟨T0, 18, none⟩)
  f6 : b6 = true → x24 = .slice sa sn sc
  f7 : b7 = true → x25 = .int .i64 (k : Int)
  f8 : b8 = true → x26 = .int .i64 ((k : Int) + 1)
  f9 : b9 = true → x27 = .pointer (some P2)
  f10 : b10 = true → x28 = .agg #[.int .i64 y1, .int .i64 y2, .int .i64 y3]
  f11 : b11 = true → x5 = .pointer (some ⟨N1, 0, none⟩) ∧ W0.heap.size ≤ N1 ∧ (b13 = false → w'.heap[N1]? = some (.cells #[.int .i64 0, .int .i64 0, .int .i64 0] 59 (0, 0))) ∧ (b13 = true → w'.heap[N1]? = some (.cells #[.int .i64 z1, .int .i64 z2, .int .i64 z3] 59 (0, 0)))
  f12 : b12 = true → x6 = .pointer (some ⟨N2, 0, none⟩) ∧ W0.heap.size ≤ N2 ∧ (b14 = false → w'.heap[N2]? = some (.cells #[.int .i64 0, .int .i64 0, .int .i64 0] 59 (0, 0))) ∧ (b14 = true → w'.heap[N2]? = some (.cells #[.int .i64 y1, .int .i64 y2, .int .i64 y3] 59 (0, 0)))
structure RmN (V : World) (PA PB PC Z1 Y1 RR E0 Y2 Q0 : Value) (w' : World) (b0 b1 b2 b3 b4 b5 b6 b7 b8 b9 b10 b11 b12 : Bool) (x29 x30 x31 x32 x33 x34 x35 x36 x37 x38 x39 x40 x4 : Value) : Prop where
  gb : Below V.heap.size V w'
  f0 : b0 = true → x29 = PA
  f1 : b1 = true → x30 = Z1
  f2 : b2 = true → x31 = PB
  f3 : b3 = true → x32 = Y1
  f4 : b4 = true → x33 = .bool false
  f5 : b5 = true → x34 = .bool false
  f6 : b6 = true → x35 = undef
  f7 : b7 = true → x36 = undef
  f8 : b8 = true → x37 = undef
  f9 : b9 = true → x38 = undef
  f10 : b10 = true → x39 = undef
  f11 : b11 = true → x40 = .bool false
  f12 : b12 = true → x4 = .bool false
theorem RmN.below {V : World} {PA PB PC Z1 Y1 RR E0 Y2 Q0 : Value} {w' w2 : World} {b0 b1 b2 b3 b4 b5 b6 b7 b8 b9 b10 b11 b12 : Bool} {x29 x30 x31 x32 x33 x34 x35 x36 x37 x38 x39 x40 x4 : Value} (h : RmN V PA PB PC Z1 Y1 RR E0 Y2 Q0 w' b0 b1 b2 b3 b4 b5 b6 b7 b8 b9 b10 b11 b12 x29 x30 x31 x32 x33 x34 x35 x36 x37 x38 x39 x40 x4) (hb : Below w'.heap.size w' w2) : RmN V PA PB PC Z1 Y1 RR E0 Y2 Q0 w2 b0 b1 b2 b3 b4 b5 b6 b7 b8 b9 b10 b11 b12 x29 x30 x31 x32 x33 x34 x35 x36 x37 x38 x39 x40 x4 :=
  ⟨h.gb.trans (hb.mono h.gb.size), h.f0, h.f1, h.f2, h.f3, h.f4, h.f5, h.f6, h.f7, h.f8, h.f9, h.f10, h.f11, h.f12⟩

structure RmY (V : World) (PA PB PC Z1 Y1 RR E0 Y2 Q0 : Value) (w' : World) (b0 b1 b2 b3 b4 b5 b6 b7 b8 b9 b10 b11 b12 : Bool) (x29 x30 x31 x32 x33 x34 x35 x36 x37 x38 x39 x40 x4 : Value) : Prop where
  gb : Below V.heap.size V w'
  f0 : b0 = true → x29 = PA
  f1 : b1 = true → x30 = Z1
  f2 : b2 = true → x31 = PB
  f3 : b3 = true → x32 = Y1
  f4 : b4 = true → x33 = .bool true
  f5 : b5 = true → x34 = .bool true
  f6 : b6 = true → x35 = RR
  f7 : b7 = true → x36 = E0
  f8 : b8 = true → x37 = PC
  f9 : b9 = true → x38 = Y2
  f10 : b10 = true → x39 = Q0
  f11 : b11 = true → x40 = Q0
  f12 : b12 = true → x4 = Q0
theorem RmY.below {V : World} {PA PB PC Z1 Y1 RR E0 Y2 Q0 : Value} {w' w2 : World} {b0 b1 b2 b3 b4 b5 b6 b7 b8 b9 b10 b11 b12 : Bool} {x29 x30 x31 x32 x33 x34 x35 x36 x37 x38 x39 x40 x4 : Value} (h : RmY V PA PB PC Z1 Y1 RR E0 Y2 Q0 w' b0 b1 b2 b3 b4 b5 b6 b7 b8 b9 b10 b11 b12 x29 x30 x31 x32 x33 x34 x35 x36 x37 x38 x39 x40 x4) (hb : Below w'.heap.size w' w2) : RmY V PA PB PC Z1 Y1 RR E0 Y2 Q0 w2 b0 b1 b2 b3 b4 b5 b6 b7 b8 b9 b10 b11 b12 x29 x30 x31 x32 x33 x34 x35 x36 x37 x38 x39 x40 x4 :=
  ⟨h.gb.trans (hb.mono h.gb.size), h.f0, h.f1, h.f2, h.f3, h.f4, h.f5, h.f6, h.f7, h.f8, h.f9, h.f10, h.f11, h.f12⟩
set_option maxRecDepth 40000 in
set_option maxHeartbeats 16000000 in
theorem can_merge (t : Tb) (a : Ad) (x : Int) (q : Bool) (w : World) (hm : TM 0 w t a) (hw : TW t a) (hd : Sd t) (hq : q = true ↔ CanG t x) :
    Calls Tryz.prog 59 #[tbV t a, .int .i64 x] w fun e w' => e = .returned (.bool q) ∧ Below w.heap.size w w' := by
  have HTM : Hid (Tm t) := sd_tm hd
  have HSL : Hid (t.ss.length = a.sn ∧ a.sn ≤ 16) := ⟨hw.sl, by rw [← hw.sl]; exact HTM.out.n2⟩
  have HQG : Hid (q = true ↔ CanG t x) := hq
  have HSD : Hid (Sd t) := hd
  have HMM : Hid (∀ X, Below w.heap.size w X → TM 0 X t a) := fun X hX => hm.below hX
  have HB : Hid (Below w.heap.size w (w.alloc (.cells (tbA t a) 39))) := (Below.refl _ _).alloc (Nat.le_refl _) _
  have HX : Hid (TBx (w.alloc (.cells (tbA t a) 39)) w.heap.size t a) := TBx.new w t a _ rfl
  have HSB : Hid (a.sn ≤ 9223372036854775807) := hw.sb
  obtain ⟨q1, hq1⟩ := told (0 ≤ x ∧ x < (a.sn : Int))
  have HQ1 : Hid (q1 = true ↔ (0 ≤ x ∧ x < (a.sn : Int))) := hq1
  clear hm hw hd hq hq1
  go_enter Tryz.func59, Tryz.ntmps59
  go_wp2_with (first | (refine wpList_load_row rfl 39 (.tmp 2) rfl w.heap.size rfl 39 (tbA t a) (0, 0) _ HX.out Tryz.underlying39 rfl (by kernel_rfl) ?_) | (refine wpList_load_row_w (by rfl) 39 (.tmp 2) rfl w.heap.size rfl 39 (tbA t a) (0, 0) _ HX.out Tryz.underlying39 rfl (by kernel_rfl) ?_) | fail)
  revert HB HX
  generalize (w.alloc (.cells (tbA t a) 39)) = WZ
  intro HB HX
  refine Calls.mono (has_slot t a x q1 _ HSB.out HQ1.out) ?_
  rintro e w9a ⟨rfl, hb9⟩
  replace HX : Hid (TBx w9a w.heap.size t a) := HX.out.below hb9
  replace HB : Hid (Below w.heap.size w w9a) := HB.out.trans (hb9.mono HB.out.size)
  clear hb9
  cases q1
  · have HNO : Hid (q = false) := not_true HQG.out (fun h => absurd (HQ1.out.2 (by have := h.2.1; have := HSL.out; omega)) (by simp))
    clear HQ1
    go_wp2_with (first | fail)
    go_ret
    exact ⟨by rw [HNO.out]; rfl, HB.out⟩
  have hx := HQ1.out.1 rfl
  obtain ⟨k, rfl⟩ : ∃ k : Nat, x = (k : Int) := ⟨x.toNat, by omega⟩
  obtain ⟨q2, hq2⟩ := told (0 ≤ (k : Int) + 1 ∧ (k : Int) + 1 < (a.sn : Int))
  have HQ2 : Hid (q2 = true ↔ (0 ≤ (k : Int) + 1 ∧ (k : Int) + 1 < (a.sn : Int))) := hq2
  have HWR1 : Hid (IntKind.i64.wrap ((k : Int) + 1) = (k : Int) + 1) := by have := HSL.out; show _ = _; rw [IntKind.wrap_i64]; omega
  have hwr := HWR1.out
  clear hq2 HQ1
  go_wp2_with (first | (refine wpList_load_row rfl 39 (.tmp 2) rfl w.heap.size rfl 39 (tbA t a) (0, 0) _ HX.out Tryz.underlying39 rfl (by kernel_rfl) ?_) | (refine wpList_load_row_w (by rfl) 39 (.tmp 2) rfl w.heap.size rfl 39 (tbA t a) (0, 0) _ HX.out Tryz.underlying39 rfl (by kernel_rfl) ?_) | fail)
  refine Calls.mono (has_slot t a _ q2 _ HSB.out HQ2.out) ?_
  rintro e w9b ⟨rfl, hb9⟩
  replace HX : Hid (TBx w9b w.heap.size t a) := HX.out.below hb9
  replace HB : Hid (Below w.heap.size w w9b) := HB.out.trans (hb9.mono HB.out.size)
  clear hb9
  clear hwr
  cases q2
  · have HNO : Hid (q = false) := not_true HQG.out (fun h => absurd (HQ2.out.2 (by have := h.2.1; have := HSL.out; omega)) (by simp))
    clear HQ2
    go_wp2_with (first | fail)
    go_ret
    exact ⟨by rw [HNO.out]; rfl, HB.out⟩
  have hx2 := HQ2.out.1 rfl
  have hk2 : k + 1 < a.sn := by omega
  have hkl : k + 1 < t.ss.length := by have := HSL.out; omega
  have hst := HTM.out.st k (by omega)
  have hen := HTM.out.en k (by omega)
  have hln := HTM.out.ln k (by omega)
  have hp1 := HTM.out.pad1
  have hg1 := HTM.out.grd1
  have hmj := HTM.out.maj2
  generalize w9b = WA at *
  obtain ⟨b1, o1, hsa, hbl1, p1⟩ := (HMM.out _ HB.out).s.seg.at k (by omega)
  have p2 : CellsAt WA b1 (o1 + (k + 1) * 3) (slX t.ss (k + 1)) := by
    obtain ⟨b9, o9, hsa9, _, p9⟩ := (HMM.out _ HB.out).s.seg.at (k + 1) hk2
    rw [hsa] at hsa9
    injection hsa9 with e
    injection e with e1 e2
    subst e1 e2
    exact p9
  have HQ3 : q = true ↔ ((t.ss.getD k sl0).1 = (t.ss.getD (k + 1) sl0).1 ∧ (t.ss.getD k sl0).2.1 + (t.ss.getD k sl0).2.2 = (t.ss.getD (k + 1) sl0).2.1) := by
    rw [HQG.out]
    refine ⟨fun h => by have := h.2.2; rw [Int.toNat_natCast] at this; exact this, fun h => ⟨HSD.out, ⟨by omega, by omega⟩, by rw [Int.toNat_natCast]; exact h⟩⟩
  simp only [slX] at p1 p2
  obtain ⟨y, hy⟩ : ∃ y, t.ss.getD k sl0 = y := ⟨_, rfl⟩
  obtain ⟨yy, hyy⟩ : ∃ y, t.ss.getD (k + 1) sl0 = y := ⟨_, rfl⟩
  rw [hy] at p1 hst hen hln HQ3
  rw [hyy] at p2 HQ3
  obtain ⟨z1, z2, z3⟩ := y
  obtain ⟨y1, y2, y3⟩ := yy
  simp only at hst hen hln HQ3
  have HQ : Hid (q = true ↔ (z1 = y1 ∧ z2 + z3 = y2)) := HQ3
  obtain ⟨sn, HSN⟩ : ∃ n, Hid (a.sn = n) := ⟨_, rfl⟩
  obtain ⟨sc, HSC⟩ : ∃ n, Hid (a.sc = n) := ⟨_, rfl⟩
  have HTX : Hid (∀ X, Below WA.heap.size WA X → X.cell? ⟨w.heap.size, 18, none⟩ = some (.slice (some ⟨b1, o1, none⟩) sn sc) ∧ (X.cell? ⟨b1, o1 + k * 3, none⟩ = some (.int .i64 z1) ∧ X.cell? ⟨b1, o1 + k * 3 + 1, none⟩ = some (.int .i64 z2) ∧ X.cell? ⟨b1, o1 + k * 3 + 2, none⟩ = some (.int .i64 z3)) ∧ X.cell? ⟨b1, o1 + (k + 1) * 3, none⟩ = some (.int .i64 y1) ∧ X.cell? ⟨b1, o1 + (k + 1) * 3 + 1, none⟩ = some (.int .i64 y2) ∧ X.cell? ⟨b1, o1 + (k + 1) * 3 + 2, none⟩ = some (.int .i64 y3)) := fun X hX => by
    have h1 := (HX.out.below hX).cell 18 (v := .slice a.sa a.sn a.sc) rfl
    rw [hsa, HSN.out, HSC.out] at h1
    exact ⟨h1, sl_cells (p1.below hX), sl_cells (p2.below hX)⟩
  have HEND : Hid (∀ Y, Calls Tryz.prog 74 #[.agg #[.int .i64 z1, .int .i64 z2, .int .i64 z3]] Y fun e w' => e = .returned (.int .i64 (z2 + z3)) ∧ Below Y.heap.size Y w') := fun Y => slot_end z1 z2 z3 Y (by rw [IntKind.wrap_i64]; omega)
  have hks : (k : Int) < (sn : Int) := by have := HSN.out; omega
  have hkn : k + 1 < sn := by have := HSN.out; omega
  have HK1 : Hid ((k : Int) + 1 < (sn : Int)) := by show _ < _; omega
  clear p1 p2 hbl1 hsa HX HQ2 HQ3 HQG HSD HMM HTM hx hx2 hy hyy HSN HSC hst hen hln hp1 hg1 hmj hkl hk2 HSL
  go_wp2
  refine wp_region_inv (by kernel_rfl) (by kernel_rfl) (fun A ℓ a' w' => ∃ (N1 : Nat) (N2 : Nat) (x18 x19 x20 x21 x22 x23 x24 x25 x26 x27 x28 x5 x6 : Value), a' = (((((((((((((A.put (some 18) x18).put (some 19) x19).put (some 20) x20).put (some 21) x21).put (some 22) x22).put (some 23) x23).put (some 24) x24).put (some 25) x25).put (some 26) x26).put (some 27) x27).put (some 28) x28).put (some 5) x5).put (some 6) x6) ∧ Icr WA w.heap.size (some ⟨b1, o1, none⟩) sn sc k ⟨b1, o1 + k * 3, none⟩ ⟨b1, o1 + (k + 1) * 3, none⟩ z1 z2 z3 y1 y2 y3 w' N1 N2 (ℓ 0) (ℓ 1) (ℓ 2) (ℓ 3) (ℓ 4) (ℓ 5) (ℓ 6) (ℓ 7) (ℓ 8) (ℓ 9) (ℓ 10) (ℓ 11) (ℓ 12) (ℓ 13) (ℓ 14) x18 x19 x20 x21 x22 x23 x24 x25 x26 x27 x28 x5 x6) ?_ ?_ ?_ ?_
  · exact ⟨0, 0, undef, undef, undef, undef, undef, undef, undef, undef, undef, undef, undef, undef, undef, (by simp only [Act.put, List.setIfInBounds_toArray, List.set_cons_zero, List.set_cons_succ]), ⟨(fun g => by cases g), (fun g => by cases g), (Below.refl _ _).drew, (fun g => by cases g), (fun g => by cases g), (fun g => by cases g), (fun g => by cases g), (fun g => by cases g), (fun g => by cases g), (fun g => by cases g), (fun g => by cases g), (fun g => by cases g), (fun g => by cases g), (fun g => by cases g), (fun g => by cases g), (fun g => by cases g), (fun g => by cases g)⟩⟩
  · intro ℓ a' w' hI hall
    obtain ⟨N1, N2, x18, x19, x20, x21, x22, x23, x24, x25, x26, x27, x28, x5, x6, rfl, hr⟩ := hI
    have hall' : ∀ i, i < 15 → ℓ i = true := hall
    obtain ⟨rfl, hn1, _, hr1⟩ := hr.f11 (hall' 11 (by decide))
    obtain ⟨rfl, hn2, _, hr2⟩ := hr.f12 (hall' 12 (by decide))
    have HF1 : Hid (w'.heap[N1]? = some (.cells #[.int .i64 z1, .int .i64 z2, .int .i64 z3] 59 (0, 0))) := hr1 (hall' 13 (by decide))
    have HF2 : Hid (w'.heap[N2]? = some (.cells #[.int .i64 y1, .int .i64 y2, .int .i64 y3] 59 (0, 0))) := hr2 (hall' 14 (by decide))
    have HG1 : Hid (Below WA.heap.size WA w') := hr.gb
    clear hr hall hall' hr1 hr2 hn1 hn2
    simp only [Act.put, List.setIfInBounds_toArray, List.set_cons_zero, List.set_cons_succ]
    have HBD : Hid (Below w.heap.size w w') := HB.out.trans (HG1.out.mono HB.out.size)
    generalize w' = WD at *
    have HW0 : Hid (Below WD.heap.size WD WD) := Below.refl _ _
    have HQ4 : Hid (∀ X, Below WD.heap.size WD X → (X.cell? ⟨N1, 0, none⟩ = some (.int .i64 z1) ∧ X.cell? ⟨N1, 1, none⟩ = some (.int .i64 z2) ∧ X.cell? ⟨N1, 2, none⟩ = some (.int .i64 z3)) ∧ X.cell? ⟨N2, 0, none⟩ = some (.int .i64 y1) ∧ X.cell? ⟨N2, 1, none⟩ = some (.int .i64 y2)) := fun X hX => by
      have h1 := row_below HF1.out hX
      have h2 := row_below HF2.out hX
      exact ⟨⟨row_cell h1 0 _ rfl, row_cell h1 1 _ rfl, row_cell h1 2 _ rfl⟩, row_cell h2 0 _ rfl, row_cell h2 1 _ rfl⟩
    clear HF1 HF2 HG1 HTX
    go_wp2
    by_cases he1 : z1 = y1
    rotate_left
    · have HE1 : Hid ((z1 == y1) = false) := beq_eq_false_iff_ne.2 he1
      have HFIN : Hid (Ending.returned (.bool false) = Ending.returned (.bool q)) := by
        show _ = _
        rw [not_true HQ.out (fun h => he1 h.1)]
      clear he1
      refine wp_region_inv (by kernel_rfl) (by kernel_rfl) (fun A ℓ a' w' => ∃ (x29 x30 x31 x32 x33 x34 x35 x36 x37 x38 x39 x40 x4 : Value), a' = (((((((((((((A.put (some 29) x29).put (some 30) x30).put (some 31) x31).put (some 32) x32).put (some 33) x33).put (some 34) x34).put (some 35) x35).put (some 36) x36).put (some 37) x37).put (some 38) x38).put (some 39) x39).put (some 40) x40).put (some 4) x4) ∧ RmN WD (.pointer (some ⟨N1, 0, none⟩)) (.pointer (some ⟨N2, 0, none⟩)) (.pointer (some ⟨N2, 1, none⟩)) (.int .i64 z1) (.int .i64 y1) (.agg #[.int .i64 z1, .int .i64 z2, .int .i64 z3]) (.int .i64 (z2 + z3)) (.int .i64 y2) (.bool q) w' (ℓ 0) (ℓ 1) (ℓ 2) (ℓ 3) (ℓ 4) (ℓ 5) (ℓ 6) (ℓ 7) (ℓ 8) (ℓ 9) (ℓ 10) (ℓ 11) (ℓ 12) x29 x30 x31 x32 x33 x34 x35 x36 x37 x38 x39 x40 x4) ?_ ?_ ?_ ?_
      · exact ⟨undef, undef, undef, undef, undef, undef, undef, undef, undef, undef, undef, undef, .bool false, (by simp only [Act.put, List.setIfInBounds_toArray, List.set_cons_zero, List.set_cons_succ]), ⟨HW0.out.drew, (fun g => by cases g), (fun g => by cases g), (fun g => by cases g), (fun g => by cases g), (fun g => by cases g), (fun g => by cases g), (fun g => by cases g), (fun g => by cases g), (fun g => by cases g), (fun g => by cases g), (fun g => by cases g), (fun g => by cases g), (fun g => by cases g)⟩⟩
      · intro ℓ a' w' hI hall
        obtain ⟨x29, x30, x31, x32, x33, x34, x35, x36, x37, x38, x39, x40, x4, rfl, hr⟩ := hI
        have hall' : ∀ i, i < 13 → ℓ i = true := hall
        obtain rfl := hr.f0 (hall' 0 (by decide))
        obtain rfl := hr.f1 (hall' 1 (by decide))
        obtain rfl := hr.f2 (hall' 2 (by decide))
        obtain rfl := hr.f3 (hall' 3 (by decide))
        obtain rfl := hr.f4 (hall' 4 (by decide))
        obtain rfl := hr.f5 (hall' 5 (by decide))
        obtain rfl := hr.f6 (hall' 6 (by decide))
        obtain rfl := hr.f7 (hall' 7 (by decide))
        obtain rfl := hr.f8 (hall' 8 (by decide))
        obtain rfl := hr.f9 (hall' 9 (by decide))
        obtain rfl := hr.f10 (hall' 10 (by decide))
        obtain rfl := hr.f11 (hall' 11 (by decide))
        obtain rfl := hr.f12 (hall' 12 (by decide))
        have gb : Hid (Below WD.heap.size WD w') := hr.gb
        clear hall hall' hr
        simp only [Act.put, List.setIfInBounds_toArray, List.set_cons_zero, List.set_cons_succ]
        go_wp2
        go_ret
        exact ⟨HFIN.out, HBD.out.trans (gb.out.mono HBD.out.size)⟩
      · intro ℓ a' w' i o hI ho hi hL hdep K hK
        obtain ⟨x29, x30, x31, x32, x33, x34, x35, x36, x37, x38, x39, x40, x4, rfl, hr⟩ := hI
        have hi7 : i < 13 := hi
        have hcs : i = 0 ∨ i = 1 ∨ i = 2 ∨ i = 3 ∨ i = 4 ∨ i = 5 ∨ i = 6 ∨ i = 7 ∨ i = 8 ∨ i = 9 ∨ i = 10 ∨ i = 11 ∨ i = 12 := by omega
        clear hi hi7
        rcases hcs with rfl | rfl | rfl | rfl | rfl | rfl | rfl | rfl | rfl | rfl | rfl | rfl | rfl
        · obtain rfl := Option.some.inj ho
          clear hdep ho
          revert hK
          intro hK
          rw [if_pos (by rfl)]
          try simp only [Act.put, List.setIfInBounds_toArray, List.set_cons_zero, List.set_cons_succ]
          go_simp
          exact hK.out _ _ (fun j => if j = 0 then true else ℓ j) ⟨.pointer (some ⟨N1, 0, none⟩), x30, x31, x32, x33, x34, x35, x36, x37, x38, x39, x40, x4, (by simp only [Act.put, List.setIfInBounds_toArray, List.set_cons_zero, List.set_cons_succ]), ⟨hr.gb, (fun _ => rfl), hr.f1, hr.f2, hr.f3, hr.f4, hr.f5, hr.f6, hr.f7, hr.f8, hr.f9, hr.f10, hr.f11, hr.f12⟩⟩ (if_pos rfl) (fun j hj => if_neg hj)
        · obtain rfl := Option.some.inj ho
          have g0 : ℓ 0 = true := hdep { on := 0, ground := Ground.data } (by simp) rfl
          clear hdep ho
          revert hK
          obtain rfl := hr.f0 g0
          have hcx := (HQ4.out _ hr.gb).1.1
          intro hK
          rw [if_pos (by rfl)]
          try simp only [Act.put, List.setIfInBounds_toArray, List.set_cons_zero, List.set_cons_succ]
          go_simp
          exact hK.out _ _ (fun j => if j = 1 then true else ℓ j) ⟨.pointer (some ⟨N1, 0, none⟩), .int .i64 z1, x31, x32, x33, x34, x35, x36, x37, x38, x39, x40, x4, (by simp only [Act.put, List.setIfInBounds_toArray, List.set_cons_zero, List.set_cons_succ]), ⟨hr.gb, (fun _ => rfl), (fun _ => rfl), hr.f2, hr.f3, hr.f4, hr.f5, hr.f6, hr.f7, hr.f8, hr.f9, hr.f10, hr.f11, hr.f12⟩⟩ (if_pos rfl) (fun j hj => if_neg hj)
        · obtain rfl := Option.some.inj ho
          clear hdep ho
          revert hK
          intro hK
          rw [if_pos (by rfl)]
          try simp only [Act.put, List.setIfInBounds_toArray, List.set_cons_zero, List.set_cons_succ]
          go_simp
          exact hK.out _ _ (fun j => if j = 2 then true else ℓ j) ⟨x29, x30, .pointer (some ⟨N2, 0, none⟩), x32, x33, x34, x35, x36, x37, x38, x39, x40, x4, (by simp only [Act.put, List.setIfInBounds_toArray, List.set_cons_zero, List.set_cons_succ]), ⟨hr.gb, hr.f0, hr.f1, (fun _ => rfl), hr.f3, hr.f4, hr.f5, hr.f6, hr.f7, hr.f8, hr.f9, hr.f10, hr.f11, hr.f12⟩⟩ (if_pos rfl) (fun j hj => if_neg hj)
        · obtain rfl := Option.some.inj ho
          have g2 : ℓ 2 = true := hdep { on := 2, ground := Ground.data } (by simp) rfl
          clear hdep ho
          revert hK
          obtain rfl := hr.f2 g2
          have hcx := (HQ4.out _ hr.gb).2.1
          intro hK
          rw [if_pos (by rfl)]
          try simp only [Act.put, List.setIfInBounds_toArray, List.set_cons_zero, List.set_cons_succ]
          go_simp
          exact hK.out _ _ (fun j => if j = 3 then true else ℓ j) ⟨x29, x30, .pointer (some ⟨N2, 0, none⟩), .int .i64 y1, x33, x34, x35, x36, x37, x38, x39, x40, x4, (by simp only [Act.put, List.setIfInBounds_toArray, List.set_cons_zero, List.set_cons_succ]), ⟨hr.gb, hr.f0, hr.f1, (fun _ => rfl), (fun _ => rfl), hr.f4, hr.f5, hr.f6, hr.f7, hr.f8, hr.f9, hr.f10, hr.f11, hr.f12⟩⟩ (if_pos rfl) (fun j hj => if_neg hj)
        · obtain rfl := Option.some.inj ho
          have g1 : ℓ 1 = true := hdep { on := 1, ground := Ground.data } (by simp) rfl
          have g3 : ℓ 3 = true := hdep { on := 3, ground := Ground.data } (by simp) rfl
          clear hdep ho
          revert hK
          obtain rfl := hr.f1 g1
          obtain rfl := hr.f3 g3
          intro hK
          rw [if_pos (by rfl)]
          try simp only [Act.put, List.setIfInBounds_toArray, List.set_cons_zero, List.set_cons_succ]
          go_simp
          rw [HE1.out]
          exact hK.out _ _ (fun j => if j = 4 then true else ℓ j) ⟨x29, .int .i64 z1, x31, .int .i64 y1, .bool false, x34, x35, x36, x37, x38, x39, x40, x4, (by simp only [Act.put, List.setIfInBounds_toArray, List.set_cons_zero, List.set_cons_succ]), ⟨hr.gb, hr.f0, (fun _ => rfl), hr.f2, (fun _ => rfl), (fun _ => rfl), hr.f5, hr.f6, hr.f7, hr.f8, hr.f9, hr.f10, hr.f11, hr.f12⟩⟩ (if_pos rfl) (fun j hj => if_neg hj)
        · obtain rfl := Option.some.inj ho
          have g4 : ℓ 4 = true := hdep { on := 4, ground := Ground.data } (by simp) rfl
          clear hdep ho
          revert hK
          obtain rfl := hr.f4 g4
          intro hK
          rw [if_pos (by rfl)]
          try simp only [Act.put, List.setIfInBounds_toArray, List.set_cons_zero, List.set_cons_succ]
          go_simp
          exact hK.out _ _ (fun j => if j = 5 then true else ℓ j) ⟨x29, x30, x31, x32, .bool false, .bool false, x35, x36, x37, x38, x39, x40, x4, (by simp only [Act.put, List.setIfInBounds_toArray, List.set_cons_zero, List.set_cons_succ]), ⟨hr.gb, hr.f0, hr.f1, hr.f2, hr.f3, (fun _ => rfl), (fun _ => rfl), hr.f6, hr.f7, hr.f8, hr.f9, hr.f10, hr.f11, hr.f12⟩⟩ (if_pos rfl) (fun j hj => if_neg hj)
        · obtain rfl := Option.some.inj ho
          have g5 : ℓ 5 = true := hdep { on := 5, ground := Ground.guard } (by simp) rfl
          clear hdep ho
          revert hK
          obtain rfl := hr.f5 g5
          intro hK
          try simp only [Act.put, List.setIfInBounds_toArray, List.set_cons_zero, List.set_cons_succ]
          rw [if_neg (by first | exact fun h => Bool.false_ne_true h | exact fun h => Bool.false_ne_true h.symm)]
          try simp only [List.getElem_toArray, List.getElem_cons_zero, List.getElem_cons_succ, List.set_cons_zero, List.set_cons_succ]
          exact hK.out _ _ (fun j => if j = 6 then true else ℓ j) ⟨x29, x30, x31, x32, x33, .bool false, undef, x36, x37, x38, x39, x40, x4, (by simp only [Act.put, List.setIfInBounds_toArray, List.set_cons_zero, List.set_cons_succ]), ⟨hr.gb, hr.f0, hr.f1, hr.f2, hr.f3, hr.f4, (fun _ => rfl), (fun _ => rfl), hr.f7, hr.f8, hr.f9, hr.f10, hr.f11, hr.f12⟩⟩ (if_pos rfl) (fun j hj => if_neg hj)
        · obtain rfl := Option.some.inj ho
          have g5 : ℓ 5 = true := hdep { on := 5, ground := Ground.guard } (by simp) rfl
          clear hdep ho
          revert hK
          obtain rfl := hr.f5 g5
          intro hK
          try simp only [Act.put, List.setIfInBounds_toArray, List.set_cons_zero, List.set_cons_succ]
          rw [if_neg (by first | exact fun h => Bool.false_ne_true h | exact fun h => Bool.false_ne_true h.symm)]
          try simp only [List.getElem_toArray, List.getElem_cons_zero, List.getElem_cons_succ, List.set_cons_zero, List.set_cons_succ]
          exact hK.out _ _ (fun j => if j = 7 then true else ℓ j) ⟨x29, x30, x31, x32, x33, .bool false, x35, undef, x37, x38, x39, x40, x4, (by simp only [Act.put, List.setIfInBounds_toArray, List.set_cons_zero, List.set_cons_succ]), ⟨hr.gb, hr.f0, hr.f1, hr.f2, hr.f3, hr.f4, (fun _ => rfl), hr.f6, (fun _ => rfl), hr.f8, hr.f9, hr.f10, hr.f11, hr.f12⟩⟩ (if_pos rfl) (fun j hj => if_neg hj)
        · obtain rfl := Option.some.inj ho
          have g5 : ℓ 5 = true := hdep { on := 5, ground := Ground.guard } (by simp) rfl
          clear hdep ho
          revert hK
          obtain rfl := hr.f5 g5
          intro hK
          try simp only [Act.put, List.setIfInBounds_toArray, List.set_cons_zero, List.set_cons_succ]
          rw [if_neg (by first | exact fun h => Bool.false_ne_true h | exact fun h => Bool.false_ne_true h.symm)]
          try simp only [List.getElem_toArray, List.getElem_cons_zero, List.getElem_cons_succ, List.set_cons_zero, List.set_cons_succ]
          exact hK.out _ _ (fun j => if j = 8 then true else ℓ j) ⟨x29, x30, x31, x32, x33, .bool false, x35, x36, undef, x38, x39, x40, x4, (by simp only [Act.put, List.setIfInBounds_toArray, List.set_cons_zero, List.set_cons_succ]), ⟨hr.gb, hr.f0, hr.f1, hr.f2, hr.f3, hr.f4, (fun _ => rfl), hr.f6, hr.f7, (fun _ => rfl), hr.f9, hr.f10, hr.f11, hr.f12⟩⟩ (if_pos rfl) (fun j hj => if_neg hj)
        · obtain rfl := Option.some.inj ho
          have g5 : ℓ 5 = true := hdep { on := 5, ground := Ground.guard } (by simp) rfl
          clear hdep ho
          revert hK
          obtain rfl := hr.f5 g5
          intro hK
          try simp only [Act.put, List.setIfInBounds_toArray, List.set_cons_zero, List.set_cons_succ]
          rw [if_neg (by first | exact fun h => Bool.false_ne_true h | exact fun h => Bool.false_ne_true h.symm)]
          try simp only [List.getElem_toArray, List.getElem_cons_zero, List.getElem_cons_succ, List.set_cons_zero, List.set_cons_succ]
          exact hK.out _ _ (fun j => if j = 9 then true else ℓ j) ⟨x29, x30, x31, x32, x33, .bool false, x35, x36, x37, undef, x39, x40, x4, (by simp only [Act.put, List.setIfInBounds_toArray, List.set_cons_zero, List.set_cons_succ]), ⟨hr.gb, hr.f0, hr.f1, hr.f2, hr.f3, hr.f4, (fun _ => rfl), hr.f6, hr.f7, hr.f8, (fun _ => rfl), hr.f10, hr.f11, hr.f12⟩⟩ (if_pos rfl) (fun j hj => if_neg hj)
        · obtain rfl := Option.some.inj ho
          have g5 : ℓ 5 = true := hdep { on := 5, ground := Ground.guard } (by simp) rfl
          clear hdep ho
          revert hK
          obtain rfl := hr.f5 g5
          intro hK
          try simp only [Act.put, List.setIfInBounds_toArray, List.set_cons_zero, List.set_cons_succ]
          rw [if_neg (by first | exact fun h => Bool.false_ne_true h | exact fun h => Bool.false_ne_true h.symm)]
          try simp only [List.getElem_toArray, List.getElem_cons_zero, List.getElem_cons_succ, List.set_cons_zero, List.set_cons_succ]
          exact hK.out _ _ (fun j => if j = 10 then true else ℓ j) ⟨x29, x30, x31, x32, x33, .bool false, x35, x36, x37, x38, undef, x40, x4, (by simp only [Act.put, List.setIfInBounds_toArray, List.set_cons_zero, List.set_cons_succ]), ⟨hr.gb, hr.f0, hr.f1, hr.f2, hr.f3, hr.f4, (fun _ => rfl), hr.f6, hr.f7, hr.f8, hr.f9, (fun _ => rfl), hr.f11, hr.f12⟩⟩ (if_pos rfl) (fun j hj => if_neg hj)
        · obtain rfl := Option.some.inj ho
          have g5 : ℓ 5 = true := hdep { on := 5, ground := Ground.data } (by simp) rfl
          have g10 : ℓ 10 = true := hdep { on := 10, ground := Ground.data } (by simp) rfl
          clear hdep ho
          revert hK
          obtain rfl := hr.f5 g5
          obtain rfl := hr.f10 g10
          intro hK
          rw [if_pos (by rfl)]
          try simp only [Act.put, List.setIfInBounds_toArray, List.set_cons_zero, List.set_cons_succ]
          go_simp
          exact hK.out _ _ (fun j => if j = 11 then true else ℓ j) ⟨x29, x30, x31, x32, x33, .bool false, x35, x36, x37, x38, undef, .bool false, x4, (by simp only [Act.put, List.setIfInBounds_toArray, List.set_cons_zero, List.set_cons_succ]), ⟨hr.gb, hr.f0, hr.f1, hr.f2, hr.f3, hr.f4, (fun _ => rfl), hr.f6, hr.f7, hr.f8, hr.f9, (fun _ => rfl), (fun _ => rfl), hr.f12⟩⟩ (if_pos rfl) (fun j hj => if_neg hj)
        · obtain rfl := Option.some.inj ho
          have g11 : ℓ 11 = true := hdep { on := 11, ground := Ground.data } (by simp) rfl
          clear hdep ho
          revert hK
          obtain rfl := hr.f11 g11
          intro hK
          rw [if_pos (by rfl)]
          try simp only [Act.put, List.setIfInBounds_toArray, List.set_cons_zero, List.set_cons_succ]
          go_simp
          exact hK.out _ _ (fun j => if j = 12 then true else ℓ j) ⟨x29, x30, x31, x32, x33, x34, x35, x36, x37, x38, x39, .bool false, .bool false, (by simp only [Act.put, List.setIfInBounds_toArray, List.set_cons_zero, List.set_cons_succ]), ⟨hr.gb, hr.f0, hr.f1, hr.f2, hr.f3, hr.f4, hr.f5, hr.f6, hr.f7, hr.f8, hr.f9, hr.f10, (fun _ => rfl), (fun _ => rfl)⟩⟩ (if_pos rfl) (fun j hj => if_neg hj)
      · rintro a' w' ℓ ℓ' hℓ hI
        rw [← show ℓ = ℓ' from funext hℓ]
        exact hI
    have HE1 : Hid ((z1 == y1) = true) := beq_iff_eq.2 he1
    have HE2 : Hid ((z2 + z3 == y2) = q) := bool_is HQ.out ⟨fun h => ⟨he1, beq_iff_eq.1 h⟩, fun h => beq_iff_eq.2 h.2⟩
    clear he1
    refine wp_region_inv (by kernel_rfl) (by kernel_rfl) (fun A ℓ a' w' => ∃ (x29 x30 x31 x32 x33 x34 x35 x36 x37 x38 x39 x40 x4 : Value), a' = (((((((((((((A.put (some 29) x29).put (some 30) x30).put (some 31) x31).put (some 32) x32).put (some 33) x33).put (some 34) x34).put (some 35) x35).put (some 36) x36).put (some 37) x37).put (some 38) x38).put (some 39) x39).put (some 40) x40).put (some 4) x4) ∧ RmY WD (.pointer (some ⟨N1, 0, none⟩)) (.pointer (some ⟨N2, 0, none⟩)) (.pointer (some ⟨N2, 1, none⟩)) (.int .i64 z1) (.int .i64 y1) (.agg #[.int .i64 z1, .int .i64 z2, .int .i64 z3]) (.int .i64 (z2 + z3)) (.int .i64 y2) (.bool q) w' (ℓ 0) (ℓ 1) (ℓ 2) (ℓ 3) (ℓ 4) (ℓ 5) (ℓ 6) (ℓ 7) (ℓ 8) (ℓ 9) (ℓ 10) (ℓ 11) (ℓ 12) x29 x30 x31 x32 x33 x34 x35 x36 x37 x38 x39 x40 x4) ?_ ?_ ?_ ?_
    · exact ⟨undef, undef, undef, undef, undef, undef, undef, undef, undef, undef, undef, undef, .bool false, (by simp only [Act.put, List.setIfInBounds_toArray, List.set_cons_zero, List.set_cons_succ]), ⟨HW0.out.drew, (fun g => by cases g), (fun g => by cases g), (fun g => by cases g), (fun g => by cases g), (fun g => by cases g), (fun g => by cases g), (fun g => by cases g), (fun g => by cases g), (fun g => by cases g), (fun g => by cases g), (fun g => by cases g), (fun g => by cases g), (fun g => by cases g)⟩⟩
    · intro ℓ a' w' hI hall
      obtain ⟨x29, x30, x31, x32, x33, x34, x35, x36, x37, x38, x39, x40, x4, rfl, hr⟩ := hI
      have hall' : ∀ i, i < 13 → ℓ i = true := hall
      obtain rfl := hr.f0 (hall' 0 (by decide))
      obtain rfl := hr.f1 (hall' 1 (by decide))
      obtain rfl := hr.f2 (hall' 2 (by decide))
      obtain rfl := hr.f3 (hall' 3 (by decide))
      obtain rfl := hr.f4 (hall' 4 (by decide))
      obtain rfl := hr.f5 (hall' 5 (by decide))
      obtain rfl := hr.f6 (hall' 6 (by decide))
      obtain rfl := hr.f7 (hall' 7 (by decide))
      obtain rfl := hr.f8 (hall' 8 (by decide))
      obtain rfl := hr.f9 (hall' 9 (by decide))
      obtain rfl := hr.f10 (hall' 10 (by decide))
      obtain rfl := hr.f11 (hall' 11 (by decide))
      obtain rfl := hr.f12 (hall' 12 (by decide))
      have gb : Hid (Below WD.heap.size WD w') := hr.gb
      clear hall hall' hr
      simp only [Act.put, List.setIfInBounds_toArray, List.set_cons_zero, List.set_cons_succ]
      go_wp2
      go_ret
      exact ⟨rfl, HBD.out.trans (gb.out.mono HBD.out.size)⟩
    · intro ℓ a' w' i o hI ho hi hL hdep K hK
      obtain ⟨x29, x30, x31, x32, x33, x34, x35, x36, x37, x38, x39, x40, x4, rfl, hr⟩ := hI
      have hi7 : i < 13 := hi
      have hcs : i = 0 ∨ i = 1 ∨ i = 2 ∨ i = 3 ∨ i = 4 ∨ i = 5 ∨ i = 6 ∨ i = 7 ∨ i = 8 ∨ i = 9 ∨ i = 10 ∨ i = 11 ∨ i = 12 := by omega
      clear hi hi7
      rcases hcs with rfl | rfl | rfl | rfl | rfl | rfl | rfl | rfl | rfl | rfl | rfl | rfl | rfl
      · obtain rfl := Option.some.inj ho
        clear hdep ho
        revert hK
        intro hK
        rw [if_pos (by rfl)]
        try simp only [Act.put, List.setIfInBounds_toArray, List.set_cons_zero, List.set_cons_succ]
        go_simp
        exact hK.out _ _ (fun j => if j = 0 then true else ℓ j) ⟨.pointer (some ⟨N1, 0, none⟩), x30, x31, x32, x33, x34, x35, x36, x37, x38, x39, x40, x4, (by simp only [Act.put, List.setIfInBounds_toArray, List.set_cons_zero, List.set_cons_succ]), ⟨hr.gb, (fun _ => rfl), hr.f1, hr.f2, hr.f3, hr.f4, hr.f5, hr.f6, hr.f7, hr.f8, hr.f9, hr.f10, hr.f11, hr.f12⟩⟩ (if_pos rfl) (fun j hj => if_neg hj)
      · obtain rfl := Option.some.inj ho
        have g0 : ℓ 0 = true := hdep { on := 0, ground := Ground.data } (by simp) rfl
        clear hdep ho
        revert hK
        obtain rfl := hr.f0 g0
        have hcx := (HQ4.out _ hr.gb).1.1
        intro hK
        rw [if_pos (by rfl)]
        try simp only [Act.put, List.setIfInBounds_toArray, List.set_cons_zero, List.set_cons_succ]
        go_simp
        exact hK.out _ _ (fun j => if j = 1 then true else ℓ j) ⟨.pointer (some ⟨N1, 0, none⟩), .int .i64 z1, x31, x32, x33, x34, x35, x36, x37, x38, x39, x40, x4, (by simp only [Act.put, List.setIfInBounds_toArray, List.set_cons_zero, List.set_cons_succ]), ⟨hr.gb, (fun _ => rfl), (fun _ => rfl), hr.f2, hr.f3, hr.f4, hr.f5, hr.f6, hr.f7, hr.f8, hr.f9, hr.f10, hr.f11, hr.f12⟩⟩ (if_pos rfl) (fun j hj => if_neg hj)
      · obtain rfl := Option.some.inj ho
        clear hdep ho
        revert hK
        intro hK
        rw [if_pos (by rfl)]
        try simp only [Act.put, List.setIfInBounds_toArray, List.set_cons_zero, List.set_cons_succ]
        go_simp
        exact hK.out _ _ (fun j => if j = 2 then true else ℓ j) ⟨x29, x30, .pointer (some ⟨N2, 0, none⟩), x32, x33, x34, x35, x36, x37, x38, x39, x40, x4, (by simp only [Act.put, List.setIfInBounds_toArray, List.set_cons_zero, List.set_cons_succ]), ⟨hr.gb, hr.f0, hr.f1, (fun _ => rfl), hr.f3, hr.f4, hr.f5, hr.f6, hr.f7, hr.f8, hr.f9, hr.f10, hr.f11, hr.f12⟩⟩ (if_pos rfl) (fun j hj => if_neg hj)
      · obtain rfl := Option.some.inj ho
        have g2 : ℓ 2 = true := hdep { on := 2, ground := Ground.data } (by simp) rfl
        clear hdep ho
        revert hK
        obtain rfl := hr.f2 g2
        have hcx := (HQ4.out _ hr.gb).2.1
        intro hK
        rw [if_pos (by rfl)]
        try simp only [Act.put, List.setIfInBounds_toArray, List.set_cons_zero, List.set_cons_succ]
        go_simp
        exact hK.out _ _ (fun j => if j = 3 then true else ℓ j) ⟨x29, x30, .pointer (some ⟨N2, 0, none⟩), .int .i64 y1, x33, x34, x35, x36, x37, x38, x39, x40, x4, (by simp only [Act.put, List.setIfInBounds_toArray, List.set_cons_zero, List.set_cons_succ]), ⟨hr.gb, hr.f0, hr.f1, (fun _ => rfl), (fun _ => rfl), hr.f4, hr.f5, hr.f6, hr.f7, hr.f8, hr.f9, hr.f10, hr.f11, hr.f12⟩⟩ (if_pos rfl) (fun j hj => if_neg hj)
      · obtain rfl := Option.some.inj ho
        have g1 : ℓ 1 = true := hdep { on := 1, ground := Ground.data } (by simp) rfl
        have g3 : ℓ 3 = true := hdep { on := 3, ground := Ground.data } (by simp) rfl
        clear hdep ho
        revert hK
        obtain rfl := hr.f1 g1
        obtain rfl := hr.f3 g3
        intro hK
        rw [if_pos (by rfl)]
        try simp only [Act.put, List.setIfInBounds_toArray, List.set_cons_zero, List.set_cons_succ]
        go_simp
        rw [HE1.out]
        exact hK.out _ _ (fun j => if j = 4 then true else ℓ j) ⟨x29, .int .i64 z1, x31, .int .i64 y1, .bool true, x34, x35, x36, x37, x38, x39, x40, x4, (by simp only [Act.put, List.setIfInBounds_toArray, List.set_cons_zero, List.set_cons_succ]), ⟨hr.gb, hr.f0, (fun _ => rfl), hr.f2, (fun _ => rfl), (fun _ => rfl), hr.f5, hr.f6, hr.f7, hr.f8, hr.f9, hr.f10, hr.f11, hr.f12⟩⟩ (if_pos rfl) (fun j hj => if_neg hj)
      · obtain rfl := Option.some.inj ho
        have g4 : ℓ 4 = true := hdep { on := 4, ground := Ground.data } (by simp) rfl
        clear hdep ho
        revert hK
        obtain rfl := hr.f4 g4
        intro hK
        rw [if_pos (by rfl)]
        try simp only [Act.put, List.setIfInBounds_toArray, List.set_cons_zero, List.set_cons_succ]
        go_simp
        exact hK.out _ _ (fun j => if j = 5 then true else ℓ j) ⟨x29, x30, x31, x32, .bool true, .bool true, x35, x36, x37, x38, x39, x40, x4, (by simp only [Act.put, List.setIfInBounds_toArray, List.set_cons_zero, List.set_cons_succ]), ⟨hr.gb, hr.f0, hr.f1, hr.f2, hr.f3, (fun _ => rfl), (fun _ => rfl), hr.f6, hr.f7, hr.f8, hr.f9, hr.f10, hr.f11, hr.f12⟩⟩ (if_pos rfl) (fun j hj => if_neg hj)
      · obtain rfl := Option.some.inj ho
        have g5 : ℓ 5 = true := hdep { on := 5, ground := Ground.guard } (by simp) rfl
        clear hdep ho
        revert hK
        obtain rfl := hr.f5 g5
        have q := (HQ4.out _ hr.gb).1
        have cc0 := q.1
        have cc1 := q.2.1
        have cc2 := q.2.2
        clear q
        intro hK
        try simp only [Act.put, List.setIfInBounds_toArray, List.set_cons_zero, List.set_cons_succ]
        rw [if_pos (by rfl)]
        try simp only [Act.put, List.setIfInBounds_toArray, List.set_cons_zero, List.set_cons_succ]
        go_simp
        exact hK.out _ _ (fun j => if j = 6 then true else ℓ j) ⟨x29, x30, x31, x32, x33, .bool true, .agg #[.int .i64 z1, .int .i64 z2, .int .i64 z3], x36, x37, x38, x39, x40, x4, (by simp only [Act.put, List.setIfInBounds_toArray, List.set_cons_zero, List.set_cons_succ]), ⟨hr.gb, hr.f0, hr.f1, hr.f2, hr.f3, hr.f4, (fun _ => rfl), (fun _ => rfl), hr.f7, hr.f8, hr.f9, hr.f10, hr.f11, hr.f12⟩⟩ (if_pos rfl) (fun j hj => if_neg hj)
      · obtain rfl := Option.some.inj ho
        have g6 : ℓ 6 = true := hdep { on := 6, ground := Ground.data } (by simp) rfl
        have g5 : ℓ 5 = true := hdep { on := 5, ground := Ground.guard } (by simp) rfl
        clear hdep ho
        revert hK
        obtain rfl := hr.f5 g5
        obtain rfl := hr.f6 g6
        intro hK
        try simp only [Act.put, List.setIfInBounds_toArray, List.set_cons_zero, List.set_cons_succ]
        rw [if_pos (by rfl)]
        try simp only [Act.put, List.setIfInBounds_toArray, List.set_cons_zero, List.set_cons_succ]
        go_simp
        refine Calls.mono (HEND.out _) ?_
        rintro e w9 ⟨rfl, hb9⟩
        have hr9 := hr.below hb9
        exact hK.out _ _ (fun j => if j = 7 then true else ℓ j) ⟨x29, x30, x31, x32, x33, .bool true, .agg #[.int .i64 z1, .int .i64 z2, .int .i64 z3], .int .i64 (z2 + z3), x37, x38, x39, x40, x4, (by simp only [Act.put, List.setIfInBounds_toArray, List.set_cons_zero, List.set_cons_succ]), ⟨hr9.gb, hr9.f0, hr9.f1, hr9.f2, hr9.f3, hr9.f4, (fun _ => rfl), (fun _ => rfl), (fun _ => rfl), hr9.f8, hr9.f9, hr9.f10, hr9.f11, hr9.f12⟩⟩ (if_pos rfl) (fun j hj => if_neg hj)
      · obtain rfl := Option.some.inj ho
        have g5 : ℓ 5 = true := hdep { on := 5, ground := Ground.guard } (by simp) rfl
        clear hdep ho
        revert hK
        obtain rfl := hr.f5 g5
        intro hK
        try simp only [Act.put, List.setIfInBounds_toArray, List.set_cons_zero, List.set_cons_succ]
        rw [if_pos (by rfl)]
        try simp only [Act.put, List.setIfInBounds_toArray, List.set_cons_zero, List.set_cons_succ]
        go_simp
        exact hK.out _ _ (fun j => if j = 8 then true else ℓ j) ⟨x29, x30, x31, x32, x33, .bool true, x35, x36, .pointer (some ⟨N2, 1, none⟩), x38, x39, x40, x4, (by simp only [Act.put, List.setIfInBounds_toArray, List.set_cons_zero, List.set_cons_succ]), ⟨hr.gb, hr.f0, hr.f1, hr.f2, hr.f3, hr.f4, (fun _ => rfl), hr.f6, hr.f7, (fun _ => rfl), hr.f9, hr.f10, hr.f11, hr.f12⟩⟩ (if_pos rfl) (fun j hj => if_neg hj)
      · obtain rfl := Option.some.inj ho
        have g8 : ℓ 8 = true := hdep { on := 8, ground := Ground.data } (by simp) rfl
        have g5 : ℓ 5 = true := hdep { on := 5, ground := Ground.guard } (by simp) rfl
        clear hdep ho
        revert hK
        obtain rfl := hr.f5 g5
        obtain rfl := hr.f8 g8
        have hcx := (HQ4.out _ hr.gb).2.2
        intro hK
        try simp only [Act.put, List.setIfInBounds_toArray, List.set_cons_zero, List.set_cons_succ]
        rw [if_pos (by rfl)]
        try simp only [Act.put, List.setIfInBounds_toArray, List.set_cons_zero, List.set_cons_succ]
        go_simp
        exact hK.out _ _ (fun j => if j = 9 then true else ℓ j) ⟨x29, x30, x31, x32, x33, .bool true, x35, x36, .pointer (some ⟨N2, 1, none⟩), .int .i64 y2, x39, x40, x4, (by simp only [Act.put, List.setIfInBounds_toArray, List.set_cons_zero, List.set_cons_succ]), ⟨hr.gb, hr.f0, hr.f1, hr.f2, hr.f3, hr.f4, (fun _ => rfl), hr.f6, hr.f7, (fun _ => rfl), (fun _ => rfl), hr.f10, hr.f11, hr.f12⟩⟩ (if_pos rfl) (fun j hj => if_neg hj)
      · obtain rfl := Option.some.inj ho
        have g7 : ℓ 7 = true := hdep { on := 7, ground := Ground.data } (by simp) rfl
        have g9 : ℓ 9 = true := hdep { on := 9, ground := Ground.data } (by simp) rfl
        have g5 : ℓ 5 = true := hdep { on := 5, ground := Ground.guard } (by simp) rfl
        clear hdep ho
        revert hK
        obtain rfl := hr.f5 g5
        obtain rfl := hr.f7 g7
        obtain rfl := hr.f9 g9
        intro hK
        try simp only [Act.put, List.setIfInBounds_toArray, List.set_cons_zero, List.set_cons_succ]
        rw [if_pos (by rfl)]
        try simp only [Act.put, List.setIfInBounds_toArray, List.set_cons_zero, List.set_cons_succ]
        go_simp
        rw [HE2.out]
        exact hK.out _ _ (fun j => if j = 10 then true else ℓ j) ⟨x29, x30, x31, x32, x33, .bool true, x35, .int .i64 (z2 + z3), x37, .int .i64 y2, .bool q, x40, x4, (by simp only [Act.put, List.setIfInBounds_toArray, List.set_cons_zero, List.set_cons_succ]), ⟨hr.gb, hr.f0, hr.f1, hr.f2, hr.f3, hr.f4, (fun _ => rfl), hr.f6, (fun _ => rfl), hr.f8, (fun _ => rfl), (fun _ => rfl), hr.f11, hr.f12⟩⟩ (if_pos rfl) (fun j hj => if_neg hj)
      · obtain rfl := Option.some.inj ho
        have g5 : ℓ 5 = true := hdep { on := 5, ground := Ground.data } (by simp) rfl
        have g10 : ℓ 10 = true := hdep { on := 10, ground := Ground.data } (by simp) rfl
        clear hdep ho
        revert hK
        obtain rfl := hr.f5 g5
        obtain rfl := hr.f10 g10
        intro hK
        rw [if_pos (by rfl)]
        try simp only [Act.put, List.setIfInBounds_toArray, List.set_cons_zero, List.set_cons_succ]
        go_simp
        exact hK.out _ _ (fun j => if j = 11 then true else ℓ j) ⟨x29, x30, x31, x32, x33, .bool true, x35, x36, x37, x38, .bool q, .bool q, x4, (by simp only [Act.put, List.setIfInBounds_toArray, List.set_cons_zero, List.set_cons_succ]), ⟨hr.gb, hr.f0, hr.f1, hr.f2, hr.f3, hr.f4, (fun _ => rfl), hr.f6, hr.f7, hr.f8, hr.f9, (fun _ => rfl), (fun _ => rfl), hr.f12⟩⟩ (if_pos rfl) (fun j hj => if_neg hj)
      · obtain rfl := Option.some.inj ho
        have g11 : ℓ 11 = true := hdep { on := 11, ground := Ground.data } (by simp) rfl
        clear hdep ho
        revert hK
        obtain rfl := hr.f11 g11
        intro hK
        rw [if_pos (by rfl)]
        try simp only [Act.put, List.setIfInBounds_toArray, List.set_cons_zero, List.set_cons_succ]
        go_simp
        exact hK.out _ _ (fun j => if j = 12 then true else ℓ j) ⟨x29, x30, x31, x32, x33, x34, x35, x36, x37, x38, x39, .bool q, .bool q, (by simp only [Act.put, List.setIfInBounds_toArray, List.set_cons_zero, List.set_cons_succ]), ⟨hr.gb, hr.f0, hr.f1, hr.f2, hr.f3, hr.f4, hr.f5, hr.f6, hr.f7, hr.f8, hr.f9, hr.f10, (fun _ => rfl), (fun _ => rfl)⟩⟩ (if_pos rfl) (fun j hj => if_neg hj)
    · rintro a' w' ℓ ℓ' hℓ hI
      rw [← show ℓ = ℓ' from funext hℓ]
      exact hI
  · intro ℓ a' w' q o hI ho hi hL hdep K hK
    obtain ⟨N1, N2, x18, x19, x20, x21, x22, x23, x24, x25, x26, x27, x28, x5, x6, rfl, hr⟩ := hI
    have hi7 : q < 15 := hi
    have hcs : q = 0 ∨ q = 1 ∨ q = 2 ∨ q = 3 ∨ q = 4 ∨ q = 5 ∨ q = 6 ∨ q = 7 ∨ q = 8 ∨ q = 9 ∨ q = 10 ∨ q = 11 ∨ q = 12 ∨ q = 13 ∨ q = 14 := by omega
    clear hi hi7
    rcases hcs with rfl | rfl | rfl | rfl | rfl | rfl | rfl | rfl | rfl | rfl | rfl | rfl | rfl | rfl | rfl
    · revert hK
      obtain rfl := Option.some.inj ho
      clear hdep ho
      intro hK
      rw [if_pos (by rfl)]
      try simp only [Act.put, List.setIfInBounds_toArray, List.set_cons_zero, List.set_cons_succ]
      go_simp
      exact hK.out _ _ (fun j => if j = 0 then true else ℓ j) ⟨N1, N2, .pointer (some ⟨w.heap.size, 18, none⟩), x19, x20, x21, x22, x23, x24, x25, x26, x27, x28, x5, x6, (by simp only [Act.put, List.setIfInBounds_toArray, List.set_cons_zero, List.set_cons_succ]), ⟨hr.c13, hr.c14, hr.gb, hr.ne, (fun _ => rfl), hr.f1, hr.f2, hr.f3, hr.f4, hr.f5, hr.f6, hr.f7, hr.f8, hr.f9, hr.f10, hr.f11, hr.f12⟩⟩ (if_pos rfl) (fun j hj => if_neg hj)
    · revert hK
      obtain rfl := Option.some.inj ho
      have g0 : ℓ 0 = true := hdep { on := 0, ground := Ground.data } (by simp) rfl
      clear hdep ho
      obtain rfl := hr.f0 g0
      have cc := (HTX.out _ hr.gb).1
      intro hK
      rw [if_pos (by rfl)]
      try simp only [Act.put, List.setIfInBounds_toArray, List.set_cons_zero, List.set_cons_succ]
      go_simp
      exact hK.out _ _ (fun j => if j = 1 then true else ℓ j) ⟨N1, N2, .pointer (some ⟨w.heap.size, 18, none⟩), .slice (some ⟨b1, o1, none⟩) sn sc, x20, x21, x22, x23, x24, x25, x26, x27, x28, x5, x6, (by simp only [Act.put, List.setIfInBounds_toArray, List.set_cons_zero, List.set_cons_succ]), ⟨hr.c13, hr.c14, hr.gb, hr.ne, hr.f0, (fun _ => rfl), hr.f2, hr.f3, hr.f4, hr.f5, hr.f6, hr.f7, hr.f8, hr.f9, hr.f10, hr.f11, hr.f12⟩⟩ (if_pos rfl) (fun j hj => if_neg hj)
    · revert hK
      obtain rfl := Option.some.inj ho
      clear hdep ho
      intro hK
      rw [if_pos (by rfl)]
      try simp only [Act.put, List.setIfInBounds_toArray, List.set_cons_zero, List.set_cons_succ]
      go_simp
      exact hK.out _ _ (fun j => if j = 2 then true else ℓ j) ⟨N1, N2, x18, x19, .int .i64 (k : Int), x21, x22, x23, x24, x25, x26, x27, x28, x5, x6, (by simp only [Act.put, List.setIfInBounds_toArray, List.set_cons_zero, List.set_cons_succ]), ⟨hr.c13, hr.c14, hr.gb, hr.ne, hr.f0, hr.f1, (fun _ => rfl), hr.f3, hr.f4, hr.f5, hr.f6, hr.f7, hr.f8, hr.f9, hr.f10, hr.f11, hr.f12⟩⟩ (if_pos rfl) (fun j hj => if_neg hj)
    · revert hK
      obtain rfl := Option.some.inj ho
      have g1 : ℓ 1 = true := hdep { on := 1, ground := Ground.data } (by simp) rfl
      have g2 : ℓ 2 = true := hdep { on := 2, ground := Ground.data } (by simp) rfl
      clear hdep ho
      obtain rfl := hr.f1 g1
      obtain rfl := hr.f2 g2
      intro hK
      rw [if_pos (by rfl)]
      try simp only [Act.put, List.setIfInBounds_toArray, List.set_cons_zero, List.set_cons_succ]
      go_simp
      exact hK.out _ _ (fun j => if j = 3 then true else ℓ j) ⟨N1, N2, x18, .slice (some ⟨b1, o1, none⟩) sn sc, .int .i64 (k : Int), .pointer (some ⟨b1, o1 + k * 3, none⟩), x22, x23, x24, x25, x26, x27, x28, x5, x6, (by simp only [Act.put, List.setIfInBounds_toArray, List.set_cons_zero, List.set_cons_succ]), ⟨hr.c13, hr.c14, hr.gb, hr.ne, hr.f0, hr.f1, hr.f2, (fun _ => rfl), hr.f4, hr.f5, hr.f6, hr.f7, hr.f8, hr.f9, hr.f10, hr.f11, hr.f12⟩⟩ (if_pos rfl) (fun j hj => if_neg hj)
    · revert hK
      obtain rfl := Option.some.inj ho
      have g3 : ℓ 3 = true := hdep { on := 3, ground := Ground.data } (by simp) rfl
      clear hdep ho
      obtain rfl := hr.f3 g3
      have cc := (HTX.out _ hr.gb).2.1
      have cc0 := cc.1
      have cc1 := cc.2.1
      have cc2 := cc.2.2
      intro hK
      rw [if_pos (by rfl)]
      try simp only [Act.put, List.setIfInBounds_toArray, List.set_cons_zero, List.set_cons_succ]
      go_simp
      exact hK.out _ _ (fun j => if j = 4 then true else ℓ j) ⟨N1, N2, x18, x19, x20, .pointer (some ⟨b1, o1 + k * 3, none⟩), .agg #[.int .i64 z1, .int .i64 z2, .int .i64 z3], x23, x24, x25, x26, x27, x28, x5, x6, (by simp only [Act.put, List.setIfInBounds_toArray, List.set_cons_zero, List.set_cons_succ]), ⟨hr.c13, hr.c14, hr.gb, hr.ne, hr.f0, hr.f1, hr.f2, hr.f3, (fun _ => rfl), hr.f5, hr.f6, hr.f7, hr.f8, hr.f9, hr.f10, hr.f11, hr.f12⟩⟩ (if_pos rfl) (fun j hj => if_neg hj)
    · revert hK
      obtain rfl := Option.some.inj ho
      clear hdep ho
      intro hK
      rw [if_pos (by rfl)]
      try simp only [Act.put, List.setIfInBounds_toArray, List.set_cons_zero, List.set_cons_succ]
      go_simp
      exact hK.out _ _ (fun j => if j = 5 then true else ℓ j) ⟨N1, N2, x18, x19, x20, x21, x22, .pointer (some ⟨w.heap.size, 18, none⟩), x24, x25, x26, x27, x28, x5, x6, (by simp only [Act.put, List.setIfInBounds_toArray, List.set_cons_zero, List.set_cons_succ]), ⟨hr.c13, hr.c14, hr.gb, hr.ne, hr.f0, hr.f1, hr.f2, hr.f3, hr.f4, (fun _ => rfl), hr.f6, hr.f7, hr.f8, hr.f9, hr.f10, hr.f11, hr.f12⟩⟩ (if_pos rfl) (fun j hj => if_neg hj)
    · revert hK
      obtain rfl := Option.some.inj ho
      have g5 : ℓ 5 = true := hdep { on := 5, ground := Ground.data } (by simp) rfl
      clear hdep ho
      obtain rfl := hr.f5 g5
      have cc := (HTX.out _ hr.gb).1
      intro hK
      rw [if_pos (by rfl)]
      try simp only [Act.put, List.setIfInBounds_toArray, List.set_cons_zero, List.set_cons_succ]
      go_simp
      exact hK.out _ _ (fun j => if j = 6 then true else ℓ j) ⟨N1, N2, x18, x19, x20, x21, x22, .pointer (some ⟨w.heap.size, 18, none⟩), .slice (some ⟨b1, o1, none⟩) sn sc, x25, x26, x27, x28, x5, x6, (by simp only [Act.put, List.setIfInBounds_toArray, List.set_cons_zero, List.set_cons_succ]), ⟨hr.c13, hr.c14, hr.gb, hr.ne, hr.f0, hr.f1, hr.f2, hr.f3, hr.f4, hr.f5, (fun _ => rfl), hr.f7, hr.f8, hr.f9, hr.f10, hr.f11, hr.f12⟩⟩ (if_pos rfl) (fun j hj => if_neg hj)
    · revert hK
      obtain rfl := Option.some.inj ho
      clear hdep ho
      intro hK
      rw [if_pos (by rfl)]
      try simp only [Act.put, List.setIfInBounds_toArray, List.set_cons_zero, List.set_cons_succ]
      go_simp
      exact hK.out _ _ (fun j => if j = 7 then true else ℓ j) ⟨N1, N2, x18, x19, x20, x21, x22, x23, x24, .int .i64 (k : Int), x26, x27, x28, x5, x6, (by simp only [Act.put, List.setIfInBounds_toArray, List.set_cons_zero, List.set_cons_succ]), ⟨hr.c13, hr.c14, hr.gb, hr.ne, hr.f0, hr.f1, hr.f2, hr.f3, hr.f4, hr.f5, hr.f6, (fun _ => rfl), hr.f8, hr.f9, hr.f10, hr.f11, hr.f12⟩⟩ (if_pos rfl) (fun j hj => if_neg hj)
    · revert hK
      obtain rfl := Option.some.inj ho
      have g7 : ℓ 7 = true := hdep { on := 7, ground := Ground.data } (by simp) rfl
      clear hdep ho
      obtain rfl := hr.f7 g7
      have hwr := HWR1.out
      intro hK
      rw [if_pos (by rfl)]
      try simp only [Act.put, List.setIfInBounds_toArray, List.set_cons_zero, List.set_cons_succ]
      go_simp
      try rw [hwr]
      exact hK.out _ _ (fun j => if j = 8 then true else ℓ j) ⟨N1, N2, x18, x19, x20, x21, x22, x23, x24, .int .i64 (k : Int), .int .i64 ((k : Int) + 1), x27, x28, x5, x6, (by simp only [Act.put, List.setIfInBounds_toArray, List.set_cons_zero, List.set_cons_succ]), ⟨hr.c13, hr.c14, hr.gb, hr.ne, hr.f0, hr.f1, hr.f2, hr.f3, hr.f4, hr.f5, hr.f6, hr.f7, (fun _ => rfl), hr.f9, hr.f10, hr.f11, hr.f12⟩⟩ (if_pos rfl) (fun j hj => if_neg hj)
    · revert hK
      obtain rfl := Option.some.inj ho
      have g6 : ℓ 6 = true := hdep { on := 6, ground := Ground.data } (by simp) rfl
      have g8 : ℓ 8 = true := hdep { on := 8, ground := Ground.data } (by simp) rfl
      clear hdep ho
      obtain rfl := hr.f6 g6
      obtain rfl := hr.f8 g8
      have hk1 := HK1.out
      intro hK
      rw [if_pos (by rfl)]
      try simp only [Act.put, List.setIfInBounds_toArray, List.set_cons_zero, List.set_cons_succ]
      go_simp
      exact hK.out _ _ (fun j => if j = 9 then true else ℓ j) ⟨N1, N2, x18, x19, x20, x21, x22, x23, .slice (some ⟨b1, o1, none⟩) sn sc, x25, .int .i64 ((k : Int) + 1), .pointer (some ⟨b1, o1 + (k + 1) * 3, none⟩), x28, x5, x6, (by simp only [Act.put, List.setIfInBounds_toArray, List.set_cons_zero, List.set_cons_succ]), ⟨hr.c13, hr.c14, hr.gb, hr.ne, hr.f0, hr.f1, hr.f2, hr.f3, hr.f4, hr.f5, hr.f6, hr.f7, hr.f8, (fun _ => rfl), hr.f10, hr.f11, hr.f12⟩⟩ (if_pos rfl) (fun j hj => if_neg hj)
    · revert hK
      obtain rfl := Option.some.inj ho
      have g9 : ℓ 9 = true := hdep { on := 9, ground := Ground.data } (by simp) rfl
      clear hdep ho
      obtain rfl := hr.f9 g9
      have cc := (HTX.out _ hr.gb).2.2
      have cc0 := cc.1
      have cc1 := cc.2.1
      have cc2 := cc.2.2
      intro hK
      rw [if_pos (by rfl)]
      try simp only [Act.put, List.setIfInBounds_toArray, List.set_cons_zero, List.set_cons_succ]
      go_simp
      exact hK.out _ _ (fun j => if j = 10 then true else ℓ j) ⟨N1, N2, x18, x19, x20, x21, x22, x23, x24, x25, x26, .pointer (some ⟨b1, o1 + (k + 1) * 3, none⟩), .agg #[.int .i64 y1, .int .i64 y2, .int .i64 y3], x5, x6, (by simp only [Act.put, List.setIfInBounds_toArray, List.set_cons_zero, List.set_cons_succ]), ⟨hr.c13, hr.c14, hr.gb, hr.ne, hr.f0, hr.f1, hr.f2, hr.f3, hr.f4, hr.f5, hr.f6, hr.f7, hr.f8, hr.f9, (fun _ => rfl), hr.f11, hr.f12⟩⟩ (if_pos rfl) (fun j hj => if_neg hj)
    · revert hK
      obtain rfl := Option.some.inj ho
      clear hdep ho
      have hl13 : ℓ 13 = false := by
        cases h7 : ℓ 13
        · rfl
        · have := (hr.c13 h7).1; rw [this] at hL; cases hL
      have hb9 : Below w'.heap.size w' (w'.alloc (.cells #[.int .i64 0, .int .i64 0, .int .i64 0] 59)) := (Below.refl _ _).alloc (Nat.le_refl _) _
      intro hK
      rw [if_pos (by rfl)]
      try simp only [Act.put, List.setIfInBounds_toArray, List.set_cons_zero, List.set_cons_succ]
      go_simp
      exact hK.out _ _ (fun j => if j = 11 then true else ℓ j) ⟨w'.heap.size, N2, x18, x19, x20, x21, x22, x23, x24, x25, x26, x27, x28, .pointer (some ⟨w'.heap.size, 0, none⟩), x6, (by simp only [Act.put, List.setIfInBounds_toArray, List.set_cons_zero, List.set_cons_succ]), ⟨(fun g => absurd (hl13.symm.trans g) Bool.false_ne_true), hr.c14, hr.gb.trans (hb9.mono hr.gb.size), (fun _ g e => by have h := (hr.f12 g).2.2; cases h13 : ℓ 14 <;> (first | (have q := (Array.getElem?_eq_some_iff.1 (h.1 h13)).1; omega) | (have q := (Array.getElem?_eq_some_iff.1 (h.2 h13)).1; omega))), hr.f0, hr.f1, hr.f2, hr.f3, hr.f4, hr.f5, hr.f6, hr.f7, hr.f8, hr.f9, hr.f10, (fun _ => ⟨rfl, hr.gb.size, fun _ => new_row w' _ _ _ rfl, fun g => absurd (hl13.symm.trans g) Bool.false_ne_true⟩), (fun g => ⟨(hr.f12 g).1, (hr.f12 g).2.1, fun s => row_below ((hr.f12 g).2.2.1 s) hb9, fun s => row_below ((hr.f12 g).2.2.2 s) hb9⟩)⟩⟩ (if_pos rfl) (fun j hj => if_neg hj)
    · revert hK
      obtain rfl := Option.some.inj ho
      clear hdep ho
      have hl13 : ℓ 13 = false := by
        cases h7 : ℓ 13
        · rfl
        · have := (hr.c13 h7).2; rw [this] at hL; cases hL
      have hl14 : ℓ 14 = false := by
        cases h7 : ℓ 14
        · rfl
        · have := hr.c14 h7; rw [this] at hl13; cases hl13
      have hb9 : Below w'.heap.size w' (w'.alloc (.cells #[.int .i64 0, .int .i64 0, .int .i64 0] 59)) := (Below.refl _ _).alloc (Nat.le_refl _) _
      intro hK
      rw [if_pos (by rfl)]
      try simp only [Act.put, List.setIfInBounds_toArray, List.set_cons_zero, List.set_cons_succ]
      go_simp
      exact hK.out _ _ (fun j => if j = 12 then true else ℓ j) ⟨N1, w'.heap.size, x18, x19, x20, x21, x22, x23, x24, x25, x26, x27, x28, x5, .pointer (some ⟨w'.heap.size, 0, none⟩), (by simp only [Act.put, List.setIfInBounds_toArray, List.set_cons_zero, List.set_cons_succ]), ⟨(fun g => absurd (hl13.symm.trans g) Bool.false_ne_true), hr.c14, hr.gb.trans (hb9.mono hr.gb.size), (fun g _ e => by have q := (Array.getElem?_eq_some_iff.1 ((hr.f11 g).2.2.1 hl13)).1; omega), hr.f0, hr.f1, hr.f2, hr.f3, hr.f4, hr.f5, hr.f6, hr.f7, hr.f8, hr.f9, hr.f10, (fun g => ⟨(hr.f11 g).1, (hr.f11 g).2.1, fun s => row_below ((hr.f11 g).2.2.1 s) hb9, fun s => row_below ((hr.f11 g).2.2.2 s) hb9⟩), (fun _ => ⟨rfl, hr.gb.size, fun _ => new_row w' _ _ _ rfl, fun g => absurd (hl14.symm.trans g) Bool.false_ne_true⟩)⟩⟩ (if_pos rfl) (fun j hj => if_neg hj)
    · replace ho : some ({ dst := none, op := Op.store 59 (Operand.tmp 5) (Operand.tmp 22), type := 0, pos := "l23_plan.go:59", after := #[{ on := 11, ground := Ground.data }, { on := 4, ground := Ground.data }, { on := 0, ground := Ground.phase }, { on := 1, ground := Ground.phase }, { on := 2, ground := Ground.phase }, { on := 3, ground := Ground.phase }, { on := 4, ground := Ground.phase }, { on := 5, ground := Ground.textOnly Departure.lateStores }, { on := 6, ground := Ground.textOnly Departure.lateStores }, { on := 7, ground := Ground.textOnly Departure.lateStores }, { on := 8, ground := Ground.textOnly Departure.lateStores }, { on := 9, ground := Ground.textOnly Departure.lateStores }, { on := 10, ground := Ground.textOnly Departure.lateStores }, { on := 11, ground := Ground.phase }, { on := 12, ground := Ground.phase }], guard := none } : Oper) = some o := ho
      revert hK
      obtain rfl := Option.some.inj ho
      have g11 : ℓ 11 = true := hdep { on := 11, ground := Ground.data } (by simp) rfl
      have g4 : ℓ 4 = true := hdep { on := 4, ground := Ground.data } (by simp) rfl
      have g12 : ℓ 12 = true := hdep { on := 12, ground := Ground.phase } (by simp) rfl
      clear hdep ho
      obtain ⟨rfl, hn1, hz1, _⟩ := hr.f11 g11
      obtain rfl := hr.f4 g4
      have hne := hr.ne g11 g12
      have hrow := hz1 hL
      have hl14 : ℓ 14 = false := by
        cases h7 : ℓ 14
        · rfl
        · have := hr.c14 h7; rw [this] at hL; cases hL
      intro hK
      rw [if_pos (by rfl)]
      try simp only [Act.put, List.setIfInBounds_toArray, List.set_cons_zero, List.set_cons_succ]
      refine wp_store_row (P := Tryz.prog) 59 (.tmp 5) (.tmp 22) rfl N1 #[.int .i64 z1, .int .i64 z2, .int .i64 z3] rfl rfl 59 #[.int .i64 0, .int .i64 0, .int .i64 0] hrow (by kernel_rfl) rfl (by simp [Value.oneCell']) ?_
      exact hK.out _ _ (fun j => if j = 13 then true else ℓ j) ⟨N1, N2, x18, x19, x20, x21, .agg #[.int .i64 z1, .int .i64 z2, .int .i64 z3], x23, x24, x25, x26, x27, x28, .pointer (some ⟨N1, 0, none⟩), x6, (by simp only [Act.put, List.setIfInBounds_toArray, List.set_cons_zero, List.set_cons_succ]), ⟨(fun _ => ⟨g11, g12⟩), (fun g => absurd (hl14.symm.trans g) Bool.false_ne_true), below_setRow hr.gb hn1 _, hr.ne, hr.f0, hr.f1, hr.f2, hr.f3, hr.f4, hr.f5, hr.f6, hr.f7, hr.f8, hr.f9, hr.f10, (fun _ => ⟨rfl, hn1, (fun g => by cases g), fun _ => setRow_heap _ _ _ _ _ _ hrow⟩), (fun g => ⟨(hr.f12 g).1, (hr.f12 g).2.1, fun s => (setRow_other _ _ _ _ (fun e => hne e.symm)).trans ((hr.f12 g).2.2.1 s), fun s => absurd (hl14.symm.trans s) Bool.false_ne_true⟩)⟩⟩ (if_pos rfl) (fun j hj => if_neg hj)
    · replace ho : some ({ dst := none, op := Op.store 59 (Operand.tmp 6) (Operand.tmp 28), type := 0, pos := "l23_plan.go:59", after := #[{ on := 12, ground := Ground.data }, { on := 10, ground := Ground.data }, { on := 13, ground := Ground.chain }, { on := 0, ground := Ground.phase }, { on := 1, ground := Ground.phase }, { on := 2, ground := Ground.phase }, { on := 3, ground := Ground.phase }, { on := 4, ground := Ground.phase }, { on := 5, ground := Ground.phase }, { on := 6, ground := Ground.phase }, { on := 7, ground := Ground.phase }, { on := 8, ground := Ground.phase }, { on := 9, ground := Ground.phase }, { on := 10, ground := Ground.phase }, { on := 11, ground := Ground.phase }, { on := 12, ground := Ground.phase }, { on := 13, ground := Ground.phase }], guard := none } : Oper) = some o := ho
      revert hK
      obtain rfl := Option.some.inj ho
      have g12 : ℓ 12 = true := hdep { on := 12, ground := Ground.data } (by simp) rfl
      have g10 : ℓ 10 = true := hdep { on := 10, ground := Ground.data } (by simp) rfl
      have g13 : ℓ 13 = true := hdep { on := 13, ground := Ground.chain } (by simp) rfl
      have g11 : ℓ 11 = true := hdep { on := 11, ground := Ground.phase } (by simp) rfl
      clear hdep ho
      obtain ⟨rfl, hn2, hz2, _⟩ := hr.f12 g12
      obtain rfl := hr.f10 g10
      have hne := hr.ne g11 g12
      have hrow := hz2 hL
      intro hK
      rw [if_pos (by rfl)]
      try simp only [Act.put, List.setIfInBounds_toArray, List.set_cons_zero, List.set_cons_succ]
      refine wp_store_row (P := Tryz.prog) 59 (.tmp 6) (.tmp 28) rfl N2 #[.int .i64 y1, .int .i64 y2, .int .i64 y3] rfl rfl 59 #[.int .i64 0, .int .i64 0, .int .i64 0] hrow (by kernel_rfl) rfl (by simp [Value.oneCell']) ?_
      exact hK.out _ _ (fun j => if j = 14 then true else ℓ j) ⟨N1, N2, x18, x19, x20, x21, x22, x23, x24, x25, x26, x27, .agg #[.int .i64 y1, .int .i64 y2, .int .i64 y3], x5, .pointer (some ⟨N2, 0, none⟩), (by simp only [Act.put, List.setIfInBounds_toArray, List.set_cons_zero, List.set_cons_succ]), ⟨hr.c13, (fun _ => g13), below_setRow hr.gb hn2 _, hr.ne, hr.f0, hr.f1, hr.f2, hr.f3, hr.f4, hr.f5, hr.f6, hr.f7, hr.f8, hr.f9, hr.f10, (fun g => ⟨(hr.f11 g).1, (hr.f11 g).2.1, fun s => (setRow_other _ _ _ _ hne).trans ((hr.f11 g).2.2.1 s), fun s => (setRow_other _ _ _ _ hne).trans ((hr.f11 g).2.2.2 s)⟩), (fun _ => ⟨rfl, hn2, (fun g => by cases g), fun _ => setRow_heap _ _ _ _ _ _ hrow⟩)⟩⟩ (if_pos rfl) (fun j hj => if_neg hj)
  · rintro a' w' ℓ ℓ' hℓ hI
    rw [← show ℓ = ℓ' from funext hℓ]
    exact hI
end Go.Proofs.YthieilkabcehgaaGreatDoor
