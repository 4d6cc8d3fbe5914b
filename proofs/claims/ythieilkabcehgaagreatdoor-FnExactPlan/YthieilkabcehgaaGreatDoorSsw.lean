
/-
  Split of the specification. Conditions: the lists lie in memory.
-/
import Derived.Test.YthieilkabcehgaaGreatDoorBas
import Derived.Test.YthieilkabcehgaaGreatDoorSsp
namespace Go.Proofs.YthieilkabcehgaaGreatDoor
open Go.ChangeShapes Go.WideShapes Go.ChangeAt Go.RowKit Go.Deep Go.Joins
set_option linter.unusedVariables false

/-- What Split answers. -/
def SpA (t : Tb) (x f : Int) (R : Tb) (q : Bool) : Prop := (¬ CanS t x f ∧ R = tz ∧ q = false) ∨ (CanS t x f ∧ R = { t with ss := splL t.ss x.toNat f } ∧ q = true)
theorem res_ssw {W : World} {B : Nat} {cs : Array Value} {b : Bool} {tmps : Array Value} (h : W.heap[B]? = some (.cells cs 39 (0, 0))) (hl : cs.size = 19) (ht : tmps[6]? = some (.pointer (some ⟨B, 0, none⟩))) (hq : tmps[7]? = some (.bool b)) : (results Tryz.f18 tmps).run Tryz.prog W = .ok (.tuple #[.agg cs, .bool b]) W := by
  have hld : (loadVar 39 ⟨B, 0, none⟩).run Tryz.prog W = .ok (.agg cs) W := run_loadVar_row (P := Tryz.prog) W B 39 39 cs (0, 0) _ h Tryz.underlying39 rfl (by rw [hl]; kernel_rfl)
  unfold results
  rw [Tryz.results18]
  simp [ht, hq, asAddr, hld]
set_option maxRecDepth 40000 in
set_option maxHeartbeats 4000000 in
theorem spec_split_no (t : Tb) (a : Ad) (x f : Int) (w : World) (hm : TM 0 w t a) (hw : TW t a) (hs : TS a) (hno : ¬ CanS t x f) (hx : -9223372036854775808 ≤ f ∧ f ≤ 9223372036854775807) :
    Calls Tryz.prog 18 #[tbV t a, .int .i64 x, .int .i64 f] w fun e w' => ∃ R ar q, e = .returned (.tuple #[tbV R ar, .bool q]) ∧ SpA t x f R q ∧ Below w.heap.size w w' ∧ KT w.heap.size w'.heap.size w' R ar ∧ TW R ar ∧ TS ar := by
  obtain ⟨q, hq⟩ := told (Sd t)
  have HB2 : Hid (Below w.heap.size w ((w.alloc (.cells (tbA t a) 39)).alloc (.cells #[.int .i64 0, .int .i64 0, .int .i64 0, .int .i64 0, .int .i64 0, .int .i64 0, .int .i64 0, .int .i64 0, .int .i64 0, .int .i64 0, .int .i64 0, .int .i64 0, .int .i64 0, .int .i64 0, .int .i64 0, .slice none 0 0, .slice none 0 0, .slice none 0 0, .slice none 0 0] 39))) := ((Below.refl _ _).alloc (Nat.le_refl _) _).alloc (by simp) _
  have HX2 : Hid (TBx ((w.alloc (.cells (tbA t a) 39)).alloc (.cells #[.int .i64 0, .int .i64 0, .int .i64 0, .int .i64 0, .int .i64 0, .int .i64 0, .int .i64 0, .int .i64 0, .int .i64 0, .int .i64 0, .int .i64 0, .int .i64 0, .int .i64 0, .int .i64 0, .int .i64 0, .slice none 0 0, .slice none 0 0, .slice none 0 0, .slice none 0 0] 39)) w.heap.size t a) := (TBx.new w t a _ rfl).below ((Below.refl _ _).alloc (Nat.le_refl _) _)
  have HR2 : Hid (((w.alloc (.cells (tbA t a) 39)).alloc (.cells #[.int .i64 0, .int .i64 0, .int .i64 0, .int .i64 0, .int .i64 0, .int .i64 0, .int .i64 0, .int .i64 0, .int .i64 0, .int .i64 0, .int .i64 0, .int .i64 0, .int .i64 0, .int .i64 0, .int .i64 0, .slice none 0 0, .slice none 0 0, .slice none 0 0, .slice none 0 0] 39)).heap[w.heap.size + 1]? = some (.cells #[.int .i64 0, .int .i64 0, .int .i64 0, .int .i64 0, .int .i64 0, .int .i64 0, .int .i64 0, .int .i64 0, .int .i64 0, .int .i64 0, .int .i64 0, .int .i64 0, .int .i64 0, .int .i64 0, .int .i64 0, .slice none 0 0, .slice none 0 0, .slice none 0 0, .slice none 0 0] 39 (0, 0))) := new_row (w.alloc (.cells (tbA t a) 39)) _ _ _ (by simp)
  have HSP : Hid (Calls Tryz.prog 30 #[tbV t a] ((w.alloc (.cells (tbA t a) 39)).alloc (.cells #[.int .i64 0, .int .i64 0, .int .i64 0, .int .i64 0, .int .i64 0, .int .i64 0, .int .i64 0, .int .i64 0, .int .i64 0, .int .i64 0, .int .i64 0, .int .i64 0, .int .i64 0, .int .i64 0, .int .i64 0, .slice none 0 0, .slice none 0 0, .slice none 0 0, .slice none 0 0] 39)) fun e w' => e = .returned (.bool q) ∧ Below ((w.alloc (.cells (tbA t a) 39)).alloc (.cells #[.int .i64 0, .int .i64 0, .int .i64 0, .int .i64 0, .int .i64 0, .int .i64 0, .int .i64 0, .int .i64 0, .int .i64 0, .int .i64 0, .int .i64 0, .int .i64 0, .int .i64 0, .int .i64 0, .int .i64 0, .slice none 0 0, .slice none 0 0, .slice none 0 0, .slice none 0 0] 39)).heap.size ((w.alloc (.cells (tbA t a) 39)).alloc (.cells #[.int .i64 0, .int .i64 0, .int .i64 0, .int .i64 0, .int .i64 0, .int .i64 0, .int .i64 0, .int .i64 0, .int .i64 0, .int .i64 0, .int .i64 0, .int .i64 0, .int .i64 0, .int .i64 0, .int .i64 0, .slice none 0 0, .slice none 0 0, .slice none 0 0, .slice none 0 0] 39)) w') := spec_sound t a q _ (hm.below HB2.out) hw hs hq
  have HL : Hid (t.ss.length = a.sn) := hw.sl
  have hn : a.sn ≤ 1048576 := hs.s
  have HNO : Hid (¬ CanS t x f) := hno
  have HSL : Hid (∀ X, Below w.heap.size w X → GSeg 3 X a.sa a.sn (slX t.ss)) := fun X hX => (hm.below hX).s.seg
  have HQ : Hid (q = true ↔ Sd t) := hq
  clear hq hm hw hs hno
  go_enter Tryz.func18, Tryz.ntmps18
  go_wp2_with (first | (refine wpList_load_row rfl 39 (.tmp 3) rfl w.heap.size rfl 39 (tbA t a) (0, 0) _ HX2.out Tryz.underlying39 rfl (by kernel_rfl) ?_) | fail)
  refine Calls.mono HSP.out ?_
  rintro e w1 ⟨rfl, hb1⟩
  have HB1 : Hid (Below w.heap.size w w1) := HB2.out.trans (hb1.mono HB2.out.size)
  have HX1 : Hid (TBx w1 w.heap.size t a) := HX2.out.below hb1
  have HR1 : Hid (w1.heap[w.heap.size + 1]? = some (.cells #[.int .i64 0, .int .i64 0, .int .i64 0, .int .i64 0, .int .i64 0, .int .i64 0, .int .i64 0, .int .i64 0, .int .i64 0, .int .i64 0, .int .i64 0, .int .i64 0, .int .i64 0, .int .i64 0, .int .i64 0, .slice none 0 0, .slice none 0 0, .slice none 0 0, .slice none 0 0] 39 (0, 0))) := row_below HR2.out hb1
  have k18 : w1.cell? ⟨w.heap.size, 18, none⟩ = some (.slice a.sa a.sn a.sc) := HX1.out.cell 18 rfl
  clear hb1 HB2 HX2 HR2 HSP
  cases q
  · have HRZ : Hid (w1.heap[w.heap.size + 1]? = some (.cells #[.int .i64 0, .int .i64 0, .int .i64 0, .int .i64 0, .int .i64 0, .int .i64 0, .int .i64 0, .int .i64 0, .int .i64 0, .int .i64 0, .int .i64 0, .int .i64 0, .int .i64 0, .int .i64 0, .int .i64 0, .slice none 0 0, .slice none 0 0, .slice none 0 0, .slice none 0 0] 39 (0, 0))) := HR1.out
    have HBZ : Hid (Below w.heap.size w w1) := HB1.out
    clear HQ HSL HX1 k18 HR1 HB1
    go_wp2_with (first | (refine wpList_store_row rfl 39 (.tmp 6) (.tmp 30) rfl (w.heap.size + 1) #[.int .i64 0, .int .i64 0, .int .i64 0, .int .i64 0, .int .i64 0, .int .i64 0, .int .i64 0, .int .i64 0, .int .i64 0, .int .i64 0, .int .i64 0, .int .i64 0, .int .i64 0, .int .i64 0, .int .i64 0, .slice none 0 0, .slice none 0 0, .slice none 0 0, .slice none 0 0] rfl rfl 39 #[.int .i64 0, .int .i64 0, .int .i64 0, .int .i64 0, .int .i64 0, .int .i64 0, .int .i64 0, .int .i64 0, .int .i64 0, .int .i64 0, .int .i64 0, .int .i64 0, .int .i64 0, .int .i64 0, .int .i64 0, .slice none 0 0, .slice none 0 0, .slice none 0 0, .slice none 0 0] HRZ.out (by kernel_rfl) rfl (by simp [Value.oneCell']) ?_) | fail)
    refine bodyPost_ret (v := .tuple #[tbV tz az, .bool false]) (res_ssw (setRow_heap _ _ _ _ _ _ HRZ.out) rfl rfl rfl) rfl ⟨tz, az, false, rfl, Or.inl ⟨HNO.out, rfl, rfl⟩, below_setRow HBZ.out (Nat.le_succ _) _, kt_zero _ _ _, tw_zero, ts_zero⟩
  have HSD : Hid (Sd t) := HQ.out.1 rfl
  have HTM : Hid (Tm t) := sd_tm HSD.out
  have hn1 := HTM.out.n1
  have hn2 := HTM.out.n2
  have hlen := HL.out
  have hw1 : IntKind.i64.wrap ((a.sn : Int) - 1) = (a.sn : Int) - 1 := by rw [IntKind.wrap_i64]; omega
  clear HQ
  go_wp2_with fail
  refine Calls.mono (in_any x 0 ((a.sn : Int) - 1) w1) ?_
  rintro e w2 ⟨rfl, rfl⟩
  by_cases hx0 : 0 ≤ x ∧ x ≤ (a.sn : Int) - 1
  rotate_left
  · have HRZ : Hid (w2.heap[w.heap.size + 1]? = some (.cells #[.int .i64 0, .int .i64 0, .int .i64 0, .int .i64 0, .int .i64 0, .int .i64 0, .int .i64 0, .int .i64 0, .int .i64 0, .int .i64 0, .int .i64 0, .int .i64 0, .int .i64 0, .int .i64 0, .int .i64 0, .slice none 0 0, .slice none 0 0, .slice none 0 0, .slice none 0 0] 39 (0, 0))) := HR1.out
    have HBZ : Hid (Below w.heap.size w w2) := HB1.out
    rw [inr_no hx0]
    clear HSL HX1 HR1 HB1 hx0
    go_wp2_with (first | (refine wpList_store_row rfl 39 (.tmp 6) (.tmp 30) rfl (w.heap.size + 1) #[.int .i64 0, .int .i64 0, .int .i64 0, .int .i64 0, .int .i64 0, .int .i64 0, .int .i64 0, .int .i64 0, .int .i64 0, .int .i64 0, .int .i64 0, .int .i64 0, .int .i64 0, .int .i64 0, .int .i64 0, .slice none 0 0, .slice none 0 0, .slice none 0 0, .slice none 0 0] rfl rfl 39 #[.int .i64 0, .int .i64 0, .int .i64 0, .int .i64 0, .int .i64 0, .int .i64 0, .int .i64 0, .int .i64 0, .int .i64 0, .int .i64 0, .int .i64 0, .int .i64 0, .int .i64 0, .int .i64 0, .int .i64 0, .slice none 0 0, .slice none 0 0, .slice none 0 0, .slice none 0 0] HRZ.out (by kernel_rfl) rfl (by simp [Value.oneCell']) ?_) | fail)
    refine bodyPost_ret (v := .tuple #[tbV tz az, .bool false]) (res_ssw (setRow_heap _ _ _ _ _ _ HRZ.out) rfl rfl rfl) rfl ⟨tz, az, false, rfl, Or.inl ⟨HNO.out, rfl, rfl⟩, below_setRow HBZ.out (Nat.le_succ _) _, kt_zero _ _ _, tw_zero, ts_zero⟩
  rw [inr_yes hx0]
  obtain ⟨k, rfl⟩ : ∃ k : Nat, x = (k : Int) := ⟨x.toNat, by omega⟩
  have hk : k < a.sn := by omega
  clear hx0
  by_cases hn16 : a.sn < 16
  rotate_left
  · have hge : (16 : Int) ≤ (a.sn : Int) := by omega
    have hge2 : decide ((16 : Int) ≤ (a.sn : Int)) = true := decide_eq_true hge
    have HRZ : Hid (w2.heap[w.heap.size + 1]? = some (.cells #[.int .i64 0, .int .i64 0, .int .i64 0, .int .i64 0, .int .i64 0, .int .i64 0, .int .i64 0, .int .i64 0, .int .i64 0, .int .i64 0, .int .i64 0, .int .i64 0, .int .i64 0, .int .i64 0, .int .i64 0, .slice none 0 0, .slice none 0 0, .slice none 0 0, .slice none 0 0] 39 (0, 0))) := HR1.out
    have HBZ : Hid (Below w.heap.size w w2) := HB1.out
    clear HSL HX1 HR1 HB1
    go_wp2_with (first | (refine wpList_store_row rfl 39 (.tmp 6) (.tmp 30) rfl (w.heap.size + 1) #[.int .i64 0, .int .i64 0, .int .i64 0, .int .i64 0, .int .i64 0, .int .i64 0, .int .i64 0, .int .i64 0, .int .i64 0, .int .i64 0, .int .i64 0, .int .i64 0, .int .i64 0, .int .i64 0, .int .i64 0, .slice none 0 0, .slice none 0 0, .slice none 0 0, .slice none 0 0] rfl rfl 39 #[.int .i64 0, .int .i64 0, .int .i64 0, .int .i64 0, .int .i64 0, .int .i64 0, .int .i64 0, .int .i64 0, .int .i64 0, .int .i64 0, .int .i64 0, .int .i64 0, .int .i64 0, .int .i64 0, .int .i64 0, .slice none 0 0, .slice none 0 0, .slice none 0 0, .slice none 0 0] HRZ.out (by kernel_rfl) rfl (by simp [Value.oneCell']) ?_) | fail)
    refine bodyPost_ret (v := .tuple #[tbV tz az, .bool false]) (res_ssw (setRow_heap _ _ _ _ _ _ HRZ.out) rfl rfl rfl) rfl ⟨tz, az, false, rfl, Or.inl ⟨HNO.out, rfl, rfl⟩, below_setRow HBZ.out (Nat.le_succ _) _, kt_zero _ _ _, tw_zero, ts_zero⟩
  have hge : ¬ ((16 : Int) ≤ (a.sn : Int)) := by omega
  have hge2 : decide ((16 : Int) ≤ (a.sn : Int)) = false := decide_eq_false hge
  obtain ⟨b1, o1, hsa, hbl1, p1⟩ := (HSL.out _ HB1.out).at k hk
  rw [hsa] at k18
  simp only [slX] at p1
  obtain ⟨c0, c1, c2⟩ := sl_cells p1
  have hkl : k < t.ss.length := by omega
  have hst := HTM.out.st k hkl
  have hln := HTM.out.ln k hkl
  have hen := HTM.out.en k hkl
  have hp1 := HTM.out.pad1
  have hp2 := HTM.out.pad2
  have hg1 := HTM.out.grd1
  have hg2 := HTM.out.grd2
  have hmj := HTM.out.maj2
  have HNF : Hid (¬ (t.pad + t.grd < f ∧ t.pad + t.grd < (t.ss.getD k sl0).2.2 - f)) := fun h => HNO.out ⟨HSD.out, ⟨by omega, by omega⟩, by omega, h.1, by rw [Int.toNat_natCast]; exact h.2⟩
  generalize (t.ss.getD k sl0) = y at c0 c1 c2 hst hln hen HNF
  obtain ⟨z1, z2, z3⟩ := y
  simp only at c0 c1 c2 hst hln hen HNF
  have hbS : Below w2.heap.size w2 (w2.alloc (.cells #[.int .i64 z1, .int .i64 z2, .int .i64 z3] 59)) := (Below.refl _ _).alloc (Nat.le_refl _) _
  have HBS : Hid (Below w.heap.size w (w2.alloc (.cells #[.int .i64 z1, .int .i64 z2, .int .i64 z3] 59))) := HB1.out.trans (hbS.mono HB1.out.size)
  have HRS : Hid ((w2.alloc (.cells #[.int .i64 z1, .int .i64 z2, .int .i64 z3] 59)).heap[w.heap.size + 1]? = some (.cells #[.int .i64 0, .int .i64 0, .int .i64 0, .int .i64 0, .int .i64 0, .int .i64 0, .int .i64 0, .int .i64 0, .int .i64 0, .int .i64 0, .int .i64 0, .int .i64 0, .int .i64 0, .int .i64 0, .int .i64 0, .slice none 0 0, .slice none 0 0, .slice none 0 0, .slice none 0 0] 39 (0, 0))) := row_below HR1.out hbS
  have HXS : Hid (TBx (w2.alloc (.cells #[.int .i64 z1, .int .i64 z2, .int .i64 z3] 59)) w.heap.size t a) := HX1.out.below hbS
  have q2 : (w2.alloc (.cells #[.int .i64 z1, .int .i64 z2, .int .i64 z3] 59)).cell? ⟨w2.heap.size, 2, none⟩ = some (.int .i64 z3) := new_cell w2 #[.int .i64 z1, .int .i64 z2, .int .i64 z3] 59 2 _ rfl
  have k12 : (w2.alloc (.cells #[.int .i64 z1, .int .i64 z2, .int .i64 z3] 59)).cell? ⟨w.heap.size, 12, none⟩ = some (.int .i64 t.pad) := HXS.out.cell 12 rfl
  have k13 : (w2.alloc (.cells #[.int .i64 z1, .int .i64 z2, .int .i64 z3] 59)).cell? ⟨w.heap.size, 13, none⟩ = some (.int .i64 t.grd) := HXS.out.cell 13 rfl
  have hwa : IntKind.i64.wrap (t.pad + t.grd) = t.pad + t.grd := by rw [IntKind.wrap_i64]; omega
  have hwb : IntKind.i64.wrap (t.pad + t.grd + 1) = t.pad + t.grd + 1 := by rw [IntKind.wrap_i64]; omega
  have hwc : IntKind.i64.wrap (z3 - (t.pad + t.grd + 1)) = z3 - (t.pad + t.grd + 1) := by rw [IntKind.wrap_i64]; omega
  clear p1 hbl1 hsa hbS HB1 HX1 HR1 HSL
  go_wp2_with fail
  revert HBS HRS HXS q2 k12 k13
  generalize w2.alloc (.cells #[.int .i64 z1, .int .i64 z2, .int .i64 z3] 59) = V
  intro HBS HRS HXS q2 k12 k13
  refine Calls.mono (in_any f (t.pad + t.grd + 1) (z3 - (t.pad + t.grd + 1)) V) ?_
  rintro e w3 ⟨rfl, rfl⟩
  rw [inr_no (fun h => HNF.out ⟨by omega, by omega⟩)]
  have HRZ : Hid (w3.heap[w.heap.size + 1]? = some (.cells #[.int .i64 0, .int .i64 0, .int .i64 0, .int .i64 0, .int .i64 0, .int .i64 0, .int .i64 0, .int .i64 0, .int .i64 0, .int .i64 0, .int .i64 0, .int .i64 0, .int .i64 0, .int .i64 0, .int .i64 0, .slice none 0 0, .slice none 0 0, .slice none 0 0, .slice none 0 0] 39 (0, 0))) := HRS.out
  have HBZ : Hid (Below w.heap.size w w3) := HBS.out
  clear HRS HBS
  go_wp2_with (first | (refine wpList_store_row rfl 39 (.tmp 6) (.tmp 50) rfl (w.heap.size + 1) #[.int .i64 0, .int .i64 0, .int .i64 0, .int .i64 0, .int .i64 0, .int .i64 0, .int .i64 0, .int .i64 0, .int .i64 0, .int .i64 0, .int .i64 0, .int .i64 0, .int .i64 0, .int .i64 0, .int .i64 0, .slice none 0 0, .slice none 0 0, .slice none 0 0, .slice none 0 0] rfl rfl 39 #[.int .i64 0, .int .i64 0, .int .i64 0, .int .i64 0, .int .i64 0, .int .i64 0, .int .i64 0, .int .i64 0, .int .i64 0, .int .i64 0, .int .i64 0, .int .i64 0, .int .i64 0, .int .i64 0, .int .i64 0, .slice none 0 0, .slice none 0 0, .slice none 0 0, .slice none 0 0] HRZ.out (by kernel_rfl) rfl (by simp [Value.oneCell']) ?_) | fail)
  refine bodyPost_ret (v := .tuple #[tbV tz az, .bool false]) (res_ssw (setRow_heap _ _ _ _ _ _ HRZ.out) rfl rfl rfl) rfl ⟨tz, az, false, rfl, Or.inl ⟨HNO.out, rfl, rfl⟩, below_setRow HBZ.out (Nat.le_succ _) _, kt_zero _ _ _, tw_zero, ts_zero⟩
set_option maxRecDepth 40000 in
set_option maxHeartbeats 16000000 in
theorem spec_split_yes (t : Tb) (a : Ad) (k : Nat) (f : Int) (w : World) (hm : TM 0 w t a) (hw : TW t a) (hs : TS a) (hc : CanS t k f) :
    Calls Tryz.prog 18 #[tbV t a, .int .i64 (k : Int), .int .i64 f] w fun e w' => ∃ R ar q, e = .returned (.tuple #[tbV R ar, .bool q]) ∧ SpA t k f R q ∧ Below w.heap.size w w' ∧ KT w.heap.size w'.heap.size w' R ar ∧ TW R ar ∧ TS ar := by
  obtain ⟨q, hq⟩ : ∃ q, q = true ↔ Sd t := ⟨true, ⟨fun _ => hc.1, fun _ => rfl⟩⟩
  have hqt : q = true := hq.2 hc.1
  subst hqt
  have HB2 : Hid (Below w.heap.size w ((w.alloc (.cells (tbA t a) 39)).alloc (.cells #[.int .i64 0, .int .i64 0, .int .i64 0, .int .i64 0, .int .i64 0, .int .i64 0, .int .i64 0, .int .i64 0, .int .i64 0, .int .i64 0, .int .i64 0, .int .i64 0, .int .i64 0, .int .i64 0, .int .i64 0, .slice none 0 0, .slice none 0 0, .slice none 0 0, .slice none 0 0] 39))) := ((Below.refl _ _).alloc (Nat.le_refl _) _).alloc (by simp) _
  have HX2 : Hid (TBx ((w.alloc (.cells (tbA t a) 39)).alloc (.cells #[.int .i64 0, .int .i64 0, .int .i64 0, .int .i64 0, .int .i64 0, .int .i64 0, .int .i64 0, .int .i64 0, .int .i64 0, .int .i64 0, .int .i64 0, .int .i64 0, .int .i64 0, .int .i64 0, .int .i64 0, .slice none 0 0, .slice none 0 0, .slice none 0 0, .slice none 0 0] 39)) w.heap.size t a) := (TBx.new w t a _ rfl).below ((Below.refl _ _).alloc (Nat.le_refl _) _)
  have HR2 : Hid (((w.alloc (.cells (tbA t a) 39)).alloc (.cells #[.int .i64 0, .int .i64 0, .int .i64 0, .int .i64 0, .int .i64 0, .int .i64 0, .int .i64 0, .int .i64 0, .int .i64 0, .int .i64 0, .int .i64 0, .int .i64 0, .int .i64 0, .int .i64 0, .int .i64 0, .slice none 0 0, .slice none 0 0, .slice none 0 0, .slice none 0 0] 39)).heap[w.heap.size + 1]? = some (.cells #[.int .i64 0, .int .i64 0, .int .i64 0, .int .i64 0, .int .i64 0, .int .i64 0, .int .i64 0, .int .i64 0, .int .i64 0, .int .i64 0, .int .i64 0, .int .i64 0, .int .i64 0, .int .i64 0, .int .i64 0, .slice none 0 0, .slice none 0 0, .slice none 0 0, .slice none 0 0] 39 (0, 0))) := new_row (w.alloc (.cells (tbA t a) 39)) _ _ _ (by simp)
  have HSP : Hid (Calls Tryz.prog 30 #[tbV t a] ((w.alloc (.cells (tbA t a) 39)).alloc (.cells #[.int .i64 0, .int .i64 0, .int .i64 0, .int .i64 0, .int .i64 0, .int .i64 0, .int .i64 0, .int .i64 0, .int .i64 0, .int .i64 0, .int .i64 0, .int .i64 0, .int .i64 0, .int .i64 0, .int .i64 0, .slice none 0 0, .slice none 0 0, .slice none 0 0, .slice none 0 0] 39)) fun e w' => e = .returned (.bool true) ∧ Below ((w.alloc (.cells (tbA t a) 39)).alloc (.cells #[.int .i64 0, .int .i64 0, .int .i64 0, .int .i64 0, .int .i64 0, .int .i64 0, .int .i64 0, .int .i64 0, .int .i64 0, .int .i64 0, .int .i64 0, .int .i64 0, .int .i64 0, .int .i64 0, .int .i64 0, .slice none 0 0, .slice none 0 0, .slice none 0 0, .slice none 0 0] 39)).heap.size ((w.alloc (.cells (tbA t a) 39)).alloc (.cells #[.int .i64 0, .int .i64 0, .int .i64 0, .int .i64 0, .int .i64 0, .int .i64 0, .int .i64 0, .int .i64 0, .int .i64 0, .int .i64 0, .int .i64 0, .int .i64 0, .int .i64 0, .int .i64 0, .int .i64 0, .slice none 0 0, .slice none 0 0, .slice none 0 0, .slice none 0 0] 39)) w') := spec_sound t a true _ (hm.below HB2.out) hw hs hq
  have HL : Hid (t.ss.length = a.sn) := hw.sl
  have hn : a.sn ≤ 1048576 := hs.s
  have HCS : Hid (CanS t k f) := hc
  have HTM : Hid (Tm t) := sd_tm hc.1
  have HSL : Hid (∀ X, Below w.heap.size w X → GSeg 3 X a.sa a.sn (slX t.ss)) := fun X hX => (hm.below hX).s.seg
  have HCP : Hid (∀ (X : World) (za : Option Addr) (zc : Nat) (zs : List slT), Below w.heap.size w X → GSeg 3 X za zs.length (slX zs) → zs.length ≤ 1048576 → (∀ i, i < zs.length → 0 ≤ (zs.getD i sl0).2.1 ∧ (zs.getD i sl0).2.1 ≤ 10000) → Calls Tryz.prog 32 #[tbV t a, .slice za zs.length zc] X fun e w' => ∃ a', e = .returned (tbV { t with ss := zs } a') ∧ Below X.heap.size X w' ∧ KT X.heap.size w'.heap.size w' { t with ss := zs } a' ∧ TW { t with ss := zs } a' ∧ TS a') := fun X za zc zs hX hz hn2 hb => (spec_cp t a za zc zs.length zs X (hm.below hX) hw hs hz rfl hn2 (fun i hi => by have := hb i hi; omega)).mono fun e w' ⟨a', h1, h2, h3, h4, h5, _⟩ => ⟨a', h1, h2, h3, h4, h5⟩
  have hkl : k < t.ss.length := by have := hc.2.1.2; omega
  have hk : k < a.sn := by rw [← hw.sl]; exact hkl
  have hn16 : a.sn < 16 := by rw [← hw.sl]; exact hc.2.2.1
  have hf1 : t.pad + t.grd < f := hc.2.2.2.1
  have hf2 : t.pad + t.grd < (t.ss.getD k sl0).2.2 - f := by have := hc.2.2.2.2; rw [Int.toNat_natCast] at this; exact this
  have hst := HTM.out.st k hkl
  have hln := HTM.out.ln k hkl
  have hen := HTM.out.en k hkl
  have hp1 := HTM.out.pad1
  have hp2 := HTM.out.pad2
  have hg1 := HTM.out.grd1
  have hg2 := HTM.out.grd2
  have hmj := HTM.out.maj2
  have HRG : Hid (∀ m, m ≤ t.ss.length → ∀ i, i < (splM t.ss k f m).length → 0 ≤ ((splM t.ss k f m).getD i sl0).2.1 ∧ ((splM t.ss k f m).getD i sl0).2.1 ≤ 10000) := splM_rng HTM.out hkl (by omega) (by omega)
  clear hq hm hw hs hc
  obtain ⟨iS, hi1, hi2, hi3, hi4⟩ := sli
  have HIS : Hid (Tryz.prog.info? 59 = some iS ∧ iS.zero = some (.agg #[.int .i64 0, .int .i64 0, .int .i64 0]) ∧ iS.size = 3 ∧ iS.bytes = 24) := ⟨hi1, hi2, hi3, hi4⟩
  clear hi1 hi2 hi3 hi4
  go_enter Tryz.func18, Tryz.ntmps18
  go_wp2_with (first | (refine wpList_load_row rfl 39 (.tmp 3) rfl w.heap.size rfl 39 (tbA t a) (0, 0) _ HX2.out Tryz.underlying39 rfl (by kernel_rfl) ?_) | fail)
  refine Calls.mono HSP.out ?_
  rintro e w1 ⟨rfl, hb1⟩
  have HB1 : Hid (Below w.heap.size w w1) := HB2.out.trans (hb1.mono HB2.out.size)
  have HX1 : Hid (TBx w1 w.heap.size t a) := HX2.out.below hb1
  have HR1 : Hid (w1.heap[w.heap.size + 1]? = some (.cells #[.int .i64 0, .int .i64 0, .int .i64 0, .int .i64 0, .int .i64 0, .int .i64 0, .int .i64 0, .int .i64 0, .int .i64 0, .int .i64 0, .int .i64 0, .int .i64 0, .int .i64 0, .int .i64 0, .int .i64 0, .slice none 0 0, .slice none 0 0, .slice none 0 0, .slice none 0 0] 39 (0, 0))) := row_below HR2.out hb1
  have k18 : w1.cell? ⟨w.heap.size, 18, none⟩ = some (.slice a.sa a.sn a.sc) := HX1.out.cell 18 rfl
  clear hb1 HB2 HX2 HR2 HSP
  have hw1 : IntKind.i64.wrap ((a.sn : Int) - 1) = (a.sn : Int) - 1 := by rw [IntKind.wrap_i64]; omega
  have hge : ¬ ((16 : Int) ≤ (a.sn : Int)) := by omega
  have hge2 : decide ((16 : Int) ≤ (a.sn : Int)) = false := decide_eq_false hge
  go_wp2_with fail
  refine Calls.mono (in_any (k : Int) 0 ((a.sn : Int) - 1) w1) ?_
  rintro e w2 ⟨rfl, rfl⟩
  rw [inr_yes (show 0 ≤ (k : Int) ∧ (k : Int) ≤ (a.sn : Int) - 1 from ⟨by omega, by omega⟩)]
  obtain ⟨b1, o1, hsa, hbl1, p1⟩ := (HSL.out _ HB1.out).at k hk
  rw [hsa] at k18
  simp only [slX] at p1
  obtain ⟨c0, c1, c2⟩ := sl_cells p1
  obtain ⟨y, HY⟩ : ∃ y, Hid (t.ss.getD k sl0 = y) := ⟨_, rfl⟩
  rw [HY.out] at c0 c1 c2 hst hln hen hf2
  obtain ⟨z1, z2, z3⟩ := y
  simp only at c0 c1 c2 hst hln hen hf2
  have hbS : Below w2.heap.size w2 (w2.alloc (.cells #[.int .i64 z1, .int .i64 z2, .int .i64 z3] 59)) := (Below.refl _ _).alloc (Nat.le_refl _) _
  have HBS : Hid (Below w.heap.size w (w2.alloc (.cells #[.int .i64 z1, .int .i64 z2, .int .i64 z3] 59))) := HB1.out.trans (hbS.mono HB1.out.size)
  have HRS : Hid ((w2.alloc (.cells #[.int .i64 z1, .int .i64 z2, .int .i64 z3] 59)).heap[w.heap.size + 1]? = some (.cells #[.int .i64 0, .int .i64 0, .int .i64 0, .int .i64 0, .int .i64 0, .int .i64 0, .int .i64 0, .int .i64 0, .int .i64 0, .int .i64 0, .int .i64 0, .int .i64 0, .int .i64 0, .int .i64 0, .int .i64 0, .slice none 0 0, .slice none 0 0, .slice none 0 0, .slice none 0 0] 39 (0, 0))) := row_below HR1.out hbS
  have HXS : Hid (TBx (w2.alloc (.cells #[.int .i64 z1, .int .i64 z2, .int .i64 z3] 59)) w.heap.size t a) := HX1.out.below hbS
  have HSS : Hid ((w2.alloc (.cells #[.int .i64 z1, .int .i64 z2, .int .i64 z3] 59)).heap[w2.heap.size]? = some (.cells #[.int .i64 z1, .int .i64 z2, .int .i64 z3] 59 (0, 0))) := new_row w2 _ _ _ rfl
  have q2 : (w2.alloc (.cells #[.int .i64 z1, .int .i64 z2, .int .i64 z3] 59)).cell? ⟨w2.heap.size, 2, none⟩ = some (.int .i64 z3) := new_cell w2 #[.int .i64 z1, .int .i64 z2, .int .i64 z3] 59 2 _ rfl
  have k12 : (w2.alloc (.cells #[.int .i64 z1, .int .i64 z2, .int .i64 z3] 59)).cell? ⟨w.heap.size, 12, none⟩ = some (.int .i64 t.pad) := HXS.out.cell 12 rfl
  have k13 : (w2.alloc (.cells #[.int .i64 z1, .int .i64 z2, .int .i64 z3] 59)).cell? ⟨w.heap.size, 13, none⟩ = some (.int .i64 t.grd) := HXS.out.cell 13 rfl
  have hwa : IntKind.i64.wrap (t.pad + t.grd) = t.pad + t.grd := by rw [IntKind.wrap_i64]; omega
  have hwb : IntKind.i64.wrap (t.pad + t.grd + 1) = t.pad + t.grd + 1 := by rw [IntKind.wrap_i64]; omega
  have hwc : IntKind.i64.wrap (z3 - (t.pad + t.grd + 1)) = z3 - (t.pad + t.grd + 1) := by rw [IntKind.wrap_i64]; omega
  have HRL0 : Hid (w.heap.size + 1 < w2.heap.size) := (Array.getElem?_eq_some_iff.1 HR1.out).1
  clear p1 hbl1 hsa hbS HB1 HX1 HR1
  go_wp2_with fail
  refine Calls.mono (in_any f (t.pad + t.grd + 1) (z3 - (t.pad + t.grd + 1)) _) ?_
  rintro e w3 ⟨rfl, hw3e⟩
  rw [inr_yes (show t.pad + t.grd + 1 ≤ f ∧ f ≤ z3 - (t.pad + t.grd + 1) from ⟨by omega, by omega⟩)]
  rw [← hw3e] at HBS HRS HXS HSS
  clear q2 k12 k13 hwa hwb hwc c0 c1 c2
  obtain ⟨RB, HRB⟩ : ∃ RB, Hid (w2.heap.size = RB) := ⟨_, rfl⟩
  have HS3 : Hid (w3.heap.size = RB + 1) := by
    show _ = _
    rw [hw3e, ← HRB.out]
    simp
  rw [HRB.out] at HSS HRL0 ⊢
  clear hw3e k18 HRB
  have HOW0 : Hid ((w3.alloc (.cells #[] 59)).ownsRow w3.heap.size 59 3 (.slice (some ⟨w3.heap.size, 0, none⟩) 0 0) 0 []) := own_lit0 w3 _ 3
  have hbL : Below w3.heap.size w3 (w3.alloc (.cells #[] 59)) := (Below.refl _ _).alloc (Nat.le_refl _) _
  have HBL : Hid (Below w.heap.size w (w3.alloc (.cells #[] 59))) := HBS.out.trans (hbL.mono HBS.out.size)
  have HXL : Hid (TBx (w3.alloc (.cells #[] 59)) w.heap.size t a) := HXS.out.below hbL
  have HRLz : Hid ((w3.alloc (.cells #[] 59)).heap[w.heap.size + 1]? = some (.cells #[.int .i64 0, .int .i64 0, .int .i64 0, .int .i64 0, .int .i64 0, .int .i64 0, .int .i64 0, .int .i64 0, .int .i64 0, .int .i64 0, .int .i64 0, .int .i64 0, .int .i64 0, .int .i64 0, .int .i64 0, .slice none 0 0, .slice none 0 0, .slice none 0 0, .slice none 0 0] 39 (0, 0))) := row_below HRS.out hbL
  have HSL2 : Hid ((w3.alloc (.cells #[] 59)).heap[RB]? = some (.cells #[.int .i64 z1, .int .i64 z2, .int .i64 z3] 59 (0, 0))) := row_below HSS.out hbL
  have HLL : Hid (w3.heap.size < (w3.alloc (.cells #[] 59)).heap.size) := by show _ < _; simp
  clear hbL HBS HXS HRS HSS
  go_wp2
  revert HOW0 HBL HXL HRLz HSL2 HLL
  generalize w3.alloc (.cells #[] 59) = W4
  obtain ⟨LB, HLBE⟩ : ∃ LB, Hid (w3.heap.size = LB) := ⟨_, rfl⟩
  rw [HLBE.out]
  intro HOW0 HBL HXL HRLz HSL2 HLL
  have HRL : Hid (w.heap.size + 1 < RB ∧ RB < LB) := by have h1 := HRL0.out; have h2 := HS3.out; have h3 := HLBE.out; exact ⟨h1, by omega⟩
  clear HS3 HLBE HRL0
  go_loopw [10, 11] (fun vs vi wr => ∃ (m len cap : Nat) (A : Option Addr), m ≤ a.sn ∧ vs = .slice A len cap ∧ vi = .int .i64 m ∧ len ≤ cap ∧ len ≤ 40 ∧ Hid ((splM t.ss k f m).length = len) ∧ Hid (Below w.heap.size w wr) ∧ Hid (TBx wr w.heap.size t a) ∧ Hid (wr.heap[w.heap.size + 1]? = some (.cells #[.int .i64 0, .int .i64 0, .int .i64 0, .int .i64 0, .int .i64 0, .int .i64 0, .int .i64 0, .int .i64 0, .int .i64 0, .int .i64 0, .int .i64 0, .int .i64 0, .int .i64 0, .int .i64 0, .int .i64 0, .slice none 0 0, .slice none 0 0, .slice none 0 0, .slice none 0 0] 39 (0, 0))) ∧ Hid (wr.heap[RB]? = some (.cells #[.int .i64 z1, .int .i64 z2, .int .i64 z3] 59 (0, 0))) ∧ Hid (wr.ownsRow LB 59 3 (.slice A len cap) len (gcat (slX (splM t.ss k f m)) len)) ∧ Hid (LB < wr.heap.size)) (fun _ vi _ => a.sn - (intOf vi).toNat)
  case atStart => exact ⟨0, 0, 0, some ⟨LB, 0, none⟩, by omega, rfl, rfl, by omega, by omega, rfl, HBL.out, HXL.out, HRLz.out, HSL2.out, HOW0.out, HLL.out⟩
  case round =>
    clear HBL HXL HRLz HSL2 HOW0 HLL
    obtain ⟨m, len, cap, A, hm, rfl, rfl, hlc, hl40, HLN, HB, HX, HR, HSB, HOW, HLB⟩ := hrel
    have k18 : wr.cell? ⟨w.heap.size, 18, none⟩ = some (.slice a.sa a.sn a.sc) := HX.out.cell 18 rfl
    by_cases hlt : m < a.sn
    rotate_left
    · obtain rfl : m = a.sn := by omega
      have hni : ¬ ((a.sn : Int) < (a.sn : Int)) := by omega
      obtain ⟨AN, cap2, eA, hc2, hls⟩ := own_ls (k := 3) (fun j _ => slX_len _ j) HOW.out
      cases eA
      have HZL : Hid ((splL t.ss k f).length = len) := by
        show _ = _
        rw [← splM_all hkl, HL.out]
        exact HLN.out
      have HZS : Hid (GSeg 3 wr A len (slX (splL t.ss k f))) := by
        have h := hls.1
        rw [← HL.out, splM_all hkl] at h
        exact h
      have HZR : Hid (∀ i, i < (splL t.ss k f).length → 0 ≤ ((splL t.ss k f).getD i sl0).2.1 ∧ ((splL t.ss k f).getD i sl0).2.1 ≤ 10000) := by
        have h := HRG.out t.ss.length (Nat.le_refl _)
        rw [splM_all hkl] at h
        exact h
      have HCL := HCP.out wr A cap (splL t.ss k f) HB.out (by rw [HZL.out]; exact HZS.out) (by rw [HZL.out]; omega) HZR.out
      rw [HZL.out] at HCL
      have HCLH : Hid _ := HCL
      clear HCL HZS HZR hls HOW HSB HCP HSL
      go_wp2_with (first | (refine wpList_load_row rfl 39 (.tmp 3) rfl w.heap.size rfl 39 (tbA t a) (0, 0) _ HX.out Tryz.underlying39 rfl (by kernel_rfl) ?_) | fail)
      refine Calls.mono HCLH.out ?_
      rintro e w5 ⟨ar, rfl, hb5, hkt, htw, hts⟩
      have HR5 : Hid (w5.heap[w.heap.size + 1]? = some (.cells #[.int .i64 0, .int .i64 0, .int .i64 0, .int .i64 0, .int .i64 0, .int .i64 0, .int .i64 0, .int .i64 0, .int .i64 0, .int .i64 0, .int .i64 0, .int .i64 0, .int .i64 0, .int .i64 0, .int .i64 0, .slice none 0 0, .slice none 0 0, .slice none 0 0, .slice none 0 0] 39 (0, 0))) := row_below HR.out hb5
      have HB5 : Hid (Below w.heap.size w w5) := HB.out.trans (hb5.mono HB.out.size)
      have hwr : w.heap.size + 1 < wr.heap.size := (Array.getElem?_eq_some_iff.1 HR.out).1
      have HK5 : Hid (KT wr.heap.size w5.heap.size w5 { t with ss := splL t.ss k f } ar) := hkt
      have HTT : Hid (TW { t with ss := splL t.ss k f } ar ∧ TS ar) := ⟨htw, hts⟩
      have HRF : Hid ((w5.setRow (w.heap.size + 1) (tbA t ar)).heap[w.heap.size + 1]? = some (.cells (tbA t ar) 39 (0, 0))) := setRow_heap _ _ _ _ _ _ HR5.out
      have hsf : (w5.setRow (w.heap.size + 1) (tbA t ar)).heap.size = w5.heap.size := by simp [World.setRow]
      have hkf := HK5.out.setRow (B := w.heap.size + 1) (cs := tbA t ar) (Or.inl hwr)
      have HKF : Hid (KT w.heap.size (w5.setRow (w.heap.size + 1) (tbA t ar)).heap.size (w5.setRow (w.heap.size + 1) (tbA t ar)) { t with ss := splL t.ss k f } ar) := by
        rw [hsf]
        exact ⟨hkf.p.wide (by omega) (Nat.le_refl _), hkf.g, fun j hj => (hkf.v j hj).wide (by omega) (Nat.le_refl _), hkf.d.wide (by omega) (Nat.le_refl _), hkf.c.wide (by omega) (Nat.le_refl _), hkf.s.wide (by omega) (Nat.le_refl _)⟩
      clear hb5 hkt htw hts hkf HX HB HR HK5
      go_wp2_with (first | (refine wpList_store_row rfl 39 (.tmp 6) (.tmp 92) rfl (w.heap.size + 1) (tbA t ar) rfl rfl 39 #[.int .i64 0, .int .i64 0, .int .i64 0, .int .i64 0, .int .i64 0, .int .i64 0, .int .i64 0, .int .i64 0, .int .i64 0, .int .i64 0, .int .i64 0, .int .i64 0, .int .i64 0, .int .i64 0, .int .i64 0, .slice none 0 0, .slice none 0 0, .slice none 0 0, .slice none 0 0] HR5.out (by kernel_rfl) rfl (by simp [Value.oneCell']) ?_) | fail)
      exact bodyPost_ret (v := .tuple #[tbV { t with ss := splL t.ss k f } ar, .bool true]) (res_ssw HRF.out rfl rfl rfl) rfl ⟨{ t with ss := splL t.ss k f }, ar, true, rfl, Or.inr ⟨HCS.out, (by rw [Int.toNat_natCast]), rfl⟩, below_setRow HB5.out (Nat.le_succ _) _, HKF.out, HTT.out.1, HTT.out.2⟩
    have hlt' : (m : Int) < (a.sn : Int) := by omega
    by_cases hmk : m = k
    · subst hmk
      have e0 : wr.cell? ⟨RB, 0, none⟩ = some (.int .i64 z1) := by have h := HSB.out; simp [World.cell?, h]
      have e1 : wr.cell? ⟨RB, 1, none⟩ = some (.int .i64 z2) := by have h := HSB.out; simp [World.cell?, h]
      have e2 : wr.cell? ⟨RB, 2, none⟩ = some (.int .i64 z3) := by have h := HSB.out; simp [World.cell?, h]
      have hw3 : IntKind.i64.wrap (z2 + f) = z2 + f := by rw [IntKind.wrap_i64]; omega
      have hw4 : IntKind.i64.wrap (z3 - f) = z3 - f := by rw [IntKind.wrap_i64]; omega
      have HOWL : Hid ((wr.alloc (.cells #[.int .i64 z1, .int .i64 z2, .int .i64 f, .int .i64 z1, .int .i64 (z2 + f), .int .i64 (z3 - f)] 59)).ownsRow LB 59 3 (.slice A len cap) len (gcat (slX (splM t.ss m f m)) len)) := own_far HOW.out (fun q hq => ((Below.refl wr.heap.size wr).alloc (Nat.le_refl _) _).block q (own_ge HOW.out q hq).2)
      have HNW : Hid (∀ j u, ([.int .i64 z1, .int .i64 z2, .int .i64 f, .int .i64 z1, .int .i64 (z2 + f), .int .i64 (z3 - f)] : List Value)[j]? = some u → (wr.alloc (.cells #[.int .i64 z1, .int .i64 z2, .int .i64 f, .int .i64 z1, .int .i64 (z2 + f), .int .i64 (z3 - f)] 59)).cell? ((⟨wr.heap.size, 0, none⟩ : Addr).add j) = some u) := fun j u hj => (by rw [add_plain]; exact CellsAt.new wr [.int .i64 z1, .int .i64 z2, .int .i64 f, .int .i64 z1, .int .i64 (z2 + f), .int .i64 (z3 - f)] 59 wr.heap.size rfl j u hj)
      have HGC : Hid (gcat (slX (splM t.ss m f (m + 1))) (len + 2) = gcat (slX (splM t.ss m f m)) len ++ [.int .i64 z1, .int .i64 z2, .int .i64 f, .int .i64 z1, .int .i64 (z2 + f), .int .i64 (z3 - f)]) := (by
        have e := slX_app (splM t.ss m f m) [(z1, z2, f), (z1, z2 + f, z3 - f)]
        rw [HLN.out] at e
        show gcat (slX (splM t.ss m f m ++ (if m = m then _ else _))) _ = _
        rw [if_pos rfl, HY.out]
        rw [List.length_append, HLN.out] at e
        exact e)
      have HLN2 : Hid ((splM t.ss m f (m + 1)).length = len + 2) := (by
        show (splM t.ss m f m ++ (if m = m then _ else _)).length = _
        rw [if_pos rfl, HY.out]
        rw [List.length_append, HLN.out]
        rfl)
      go_wp2_with (first
       | (at_builtin
          refine wpList_append_any rfl (.tmp 62) (.tmp 80) 37 rfl LB 59 iS (.agg #[.int .i64 0, .int .i64 0, .int .i64 0]) 3 24 Tryz.underlying37 HIS.out.1 HIS.out.2.1 HIS.out.2.2.1 HIS.out.2.2.2 rfl (by decide) ((.slice A len cap)) len (gcat (slX (splM t.ss m f m)) len) rfl HOWL.out (some ⟨wr.heap.size, 0, none⟩) 2 2 [.int .i64 z1, .int .i64 z2, .int .i64 f, .int .i64 z1, .int .i64 (z2 + f), .int .i64 (z3 - f)] rfl rfl (fun _ => ⟨_, rfl, HNW.out⟩) (fun u hu => by simp only [List.mem_cons, List.not_mem_nil, or_false] at hu; rcases hu with rfl | rfl | rfl | rfl | rfl | rfl <;> rfl) (by unfold maxLen; omega) (by omega) (by have := HLB.out; simp; omega) ?_
          intro vv w9 ho hg hk2
          have hb9 : Below LB (wr.alloc (.cells #[.int .i64 z1, .int .i64 z2, .int .i64 f, .int .i64 z1, .int .i64 (z2 + f), .int .i64 (z3 - f)] 59)) w9 := (Below.refl _ _).grown hg (by have := HLB.out; simp; omega) (fun q hq => (own_ge HOW.out q hq).1)
          have hbA : Below LB wr w9 := ((Below.refl LB wr).alloc (by have := HLB.out; omega) _).trans hb9
          have HB9 : Hid (Below w.heap.size w w9) := HB.out.trans (hbA.mono (by have := HRL.out; omega))
          have HX9 : Hid (TBx w9 w.heap.size t a) := tbx_low HX.out hbA (by have := HRL.out; omega)
          have HR9 : Hid (w9.heap[w.heap.size + 1]? = some (.cells #[.int .i64 0, .int .i64 0, .int .i64 0, .int .i64 0, .int .i64 0, .int .i64 0, .int .i64 0, .int .i64 0, .int .i64 0, .int .i64 0, .int .i64 0, .int .i64 0, .int .i64 0, .int .i64 0, .int .i64 0, .slice none 0 0, .slice none 0 0, .slice none 0 0, .slice none 0 0] 39 (0, 0))) := (hbA.block _ (by have := HRL.out; omega)).trans HR.out
          have HS9 : Hid (w9.heap[RB]? = some (.cells #[.int .i64 z1, .int .i64 z2, .int .i64 z3] 59 (0, 0))) := (hbA.block _ (by have := HRL.out; omega)).trans HSB.out
          have HO9 : Hid (w9.ownsRow LB 59 3 vv (len + 2) (gcat (slX (splM t.ss m f (m + 1))) (len + 2))) := (by have e := HGC.out; show World.ownsRow _ _ _ _ _ _ _; rw [e]; exact ho)
          obtain ⟨AN, cap2, hvv, hc2, hls⟩ := own_ls (k := 3) (fun j _ => slX_len _ j) HO9.out
          subst hvv
          have HP9 : Hid (LB < w9.heap.size) := (by have := hbA.size; have := HLB.out; show _ < _; omega)
          have HC9 : Hid (len + 2 ≤ cap2) := hc2
          clear ho hg hk2 hb9 hbA hls hc2)
       | fail)
      go_roundw
      case rel => exact ⟨m + 1, len + 2, cap2, AN, by omega, rfl, by first | rfl | go_num, HC9.out, by have := HLN.out; have := splM_len t.ss m f m; rw [if_neg (Nat.lt_irrefl m)] at this; omega, HLN2.out, HB9.out, HX9.out, HR9.out, HS9.out, HO9.out, HP9.out⟩
      case measure => simp [intOf]; omega
    · have hmkb : ((m : Int) == (k : Int)) = false := by simp; omega
      have hmki : ¬ ((m : Int) = (k : Int)) := by omega
      obtain ⟨b1, o1, hsa, hbl1, p1⟩ := (HSL.out _ HB.out).at m hlt
      rw [hsa] at k18
      simp only [slX] at p1
      obtain ⟨c0, c1, c2⟩ := sl_cells p1
      obtain ⟨y, HYM⟩ : ∃ y, Hid (t.ss.getD m sl0 = y) := ⟨_, rfl⟩
      rw [HYM.out] at c0 c1 c2
      obtain ⟨y1, y2, y3⟩ := y
      simp only at c0 c1 c2
      have HOWL : Hid ((wr.alloc (.cells #[.int .i64 y1, .int .i64 y2, .int .i64 y3] 59)).ownsRow LB 59 3 (.slice A len cap) len (gcat (slX (splM t.ss k f m)) len)) := own_far HOW.out (fun q hq => ((Below.refl wr.heap.size wr).alloc (Nat.le_refl _) _).block q (own_ge HOW.out q hq).2)
      have HNW : Hid (∀ j u, ([.int .i64 y1, .int .i64 y2, .int .i64 y3] : List Value)[j]? = some u → (wr.alloc (.cells #[.int .i64 y1, .int .i64 y2, .int .i64 y3] 59)).cell? ((⟨wr.heap.size, 0, none⟩ : Addr).add j) = some u) := fun j u hj => (by rw [add_plain]; exact CellsAt.new wr [.int .i64 y1, .int .i64 y2, .int .i64 y3] 59 wr.heap.size rfl j u hj)
      have HGC : Hid (gcat (slX (splM t.ss k f (m + 1))) (len + 1) = gcat (slX (splM t.ss k f m)) len ++ [.int .i64 y1, .int .i64 y2, .int .i64 y3]) := (by
        have e := slX_app (splM t.ss k f m) [(y1, y2, y3)]
        rw [HLN.out] at e
        show gcat (slX (splM t.ss k f m ++ (if m = k then _ else _))) _ = _
        rw [if_neg hmk, HYM.out]
        rw [List.length_append, HLN.out] at e
        exact e)
      have HLN2 : Hid ((splM t.ss k f (m + 1)).length = len + 1) := (by
        show (splM t.ss k f m ++ (if m = k then _ else _)).length = _
        rw [if_neg hmk, HYM.out]
        rw [List.length_append, HLN.out]
        rfl)
      clear p1 hbl1 hsa
      go_wp2_with (first
       | (at_builtin
          refine wpList_append_any rfl (.tmp 82) (.tmp 88) 37 rfl LB 59 iS (.agg #[.int .i64 0, .int .i64 0, .int .i64 0]) 3 24 Tryz.underlying37 HIS.out.1 HIS.out.2.1 HIS.out.2.2.1 HIS.out.2.2.2 rfl (by decide) ((.slice A len cap)) len (gcat (slX (splM t.ss k f m)) len) rfl HOWL.out (some ⟨wr.heap.size, 0, none⟩) 1 1 [.int .i64 y1, .int .i64 y2, .int .i64 y3] rfl rfl (fun _ => ⟨_, rfl, HNW.out⟩) (fun u hu => by simp only [List.mem_cons, List.not_mem_nil, or_false] at hu; rcases hu with rfl | rfl | rfl <;> rfl) (by unfold maxLen; omega) (by omega) (by have := HLB.out; simp; omega) ?_
          intro vv w9 ho hg hk2
          have hb9 : Below LB (wr.alloc (.cells #[.int .i64 y1, .int .i64 y2, .int .i64 y3] 59)) w9 := (Below.refl _ _).grown hg (by have := HLB.out; simp; omega) (fun q hq => (own_ge HOW.out q hq).1)
          have hbA : Below LB wr w9 := ((Below.refl LB wr).alloc (by have := HLB.out; omega) _).trans hb9
          have HB9 : Hid (Below w.heap.size w w9) := HB.out.trans (hbA.mono (by have := HRL.out; omega))
          have HX9 : Hid (TBx w9 w.heap.size t a) := tbx_low HX.out hbA (by have := HRL.out; omega)
          have HR9 : Hid (w9.heap[w.heap.size + 1]? = some (.cells #[.int .i64 0, .int .i64 0, .int .i64 0, .int .i64 0, .int .i64 0, .int .i64 0, .int .i64 0, .int .i64 0, .int .i64 0, .int .i64 0, .int .i64 0, .int .i64 0, .int .i64 0, .int .i64 0, .int .i64 0, .slice none 0 0, .slice none 0 0, .slice none 0 0, .slice none 0 0] 39 (0, 0))) := (hbA.block _ (by have := HRL.out; omega)).trans HR.out
          have HS9 : Hid (w9.heap[RB]? = some (.cells #[.int .i64 z1, .int .i64 z2, .int .i64 z3] 59 (0, 0))) := (hbA.block _ (by have := HRL.out; omega)).trans HSB.out
          have HO9 : Hid (w9.ownsRow LB 59 3 vv (len + 1) (gcat (slX (splM t.ss k f (m + 1))) (len + 1))) := (by have e := HGC.out; show World.ownsRow _ _ _ _ _ _ _; rw [e]; exact ho)
          obtain ⟨AN, cap2, hvv, hc2, hls⟩ := own_ls (k := 3) (fun j _ => slX_len _ j) HO9.out
          subst hvv
          have HP9 : Hid (LB < w9.heap.size) := (by have := hbA.size; have := HLB.out; show _ < _; omega)
          have HC9 : Hid (len + 1 ≤ cap2) := hc2
          clear ho hg hk2 hb9 hbA hls hc2)
       | fail)
      go_roundw
      case rel => exact ⟨m + 1, len + 1, cap2, AN, by omega, rfl, by first | rfl | go_num, HC9.out, by have := HLN.out; have := splM_len t.ss k f m; split at this <;> omega, HLN2.out, HB9.out, HX9.out, HR9.out, HS9.out, HO9.out, HP9.out⟩
      case measure => simp [intOf]; omega
end Go.Proofs.YthieilkabcehgaaGreatDoor
