
/-
  Even of the specification. Conditions: the lists lie in memory; the numbers fit.
-/
import Derived.Test.YthieilkabcehgaaGreatDoorBas
import Derived.Test.YthieilkabcehgaaGreatDoorSsw
import Derived.Test.YthieilkabcehgaaGreatDoorEvp
namespace Go.Proofs.YthieilkabcehgaaGreatDoor
open Go.ChangeShapes Go.WideShapes Go.ChangeAt Go.RowKit Go.Deep Go.Joins
set_option linter.unusedVariables false

theorem res_sev {W : World} {B : Nat} {cs : Array Value} {b : Bool} {tmps : Array Value} (h : W.heap[B]? = some (.cells cs 39 (0, 0))) (hl : cs.size = 19) (ht : tmps[6]? = some (.pointer (some ⟨B, 0, none⟩))) (hq : tmps[7]? = some (.bool b)) : (results Tryz.f24 tmps).run Tryz.prog W = .ok (.tuple #[.agg cs, .bool b]) W := by
  have hld : (loadVar 39 ⟨B, 0, none⟩).run Tryz.prog W = .ok (.agg cs) W := run_loadVar_row (P := Tryz.prog) W B 39 39 cs (0, 0) _ h Tryz.underlying39 rfl (by rw [hl]; kernel_rfl)
  unfold results
  rw [Tryz.results24]
  simp [ht, hq, asAddr, hld]
theorem spec_split_any (t : Tb) (a : Ad) (x f : Int) (w : World) (hm : TM 0 w t a) (hw : TW t a) (hs : TS a) (hf : -9223372036854775808 ≤ f ∧ f ≤ 9223372036854775807) :
    Calls Tryz.prog 18 #[tbV t a, .int .i64 x, .int .i64 f] w fun e w' => ∃ R ar q, e = .returned (.tuple #[tbV R ar, .bool q]) ∧ SpA t x f R q ∧ Below w.heap.size w w' ∧ KT w.heap.size w'.heap.size w' R ar ∧ TW R ar ∧ TS ar := by
  by_cases hc : CanS t x f
  · obtain ⟨k, rfl⟩ : ∃ k : Nat, x = (k : Int) := ⟨x.toNat, by have := hc.2.1.1; omega⟩
    exact spec_split_yes t a k f w hm hw hs hc
  · exact spec_split_no t a x f w hm hw hs hc hf
set_option maxRecDepth 40000 in
set_option maxHeartbeats 16000000 in
theorem spec_even (t : Tb) (a : Ad) (x f : Int) (w : World) (hm : TM 0 w t a) (hw : TW t a) (hs : TS a) (hf : -9223372036854775808 ≤ f ∧ f ≤ 9223372036854775807) :
    Calls Tryz.prog 24 #[tbV t a, .int .i64 x, .int .i64 f] w fun e w' => ∃ R ar q, e = .returned (.tuple #[tbV R ar, .bool q]) ∧ EvA t x f R q ∧ Below w.heap.size w w' ∧ KT w.heap.size w'.heap.size w' R ar ∧ TW R ar ∧ TS ar := by
  obtain ⟨q, hq⟩ := told (Sd t)
  have HB2 : Hid (Below w.heap.size w ((w.alloc (.cells (tbA t a) 39)).alloc (.cells #[.int .i64 0, .int .i64 0, .int .i64 0, .int .i64 0, .int .i64 0, .int .i64 0, .int .i64 0, .int .i64 0, .int .i64 0, .int .i64 0, .int .i64 0, .int .i64 0, .int .i64 0, .int .i64 0, .int .i64 0, .slice none 0 0, .slice none 0 0, .slice none 0 0, .slice none 0 0] 39))) := ((Below.refl _ _).alloc (Nat.le_refl _) _).alloc (by simp) _
  have HX2 : Hid (TBx ((w.alloc (.cells (tbA t a) 39)).alloc (.cells #[.int .i64 0, .int .i64 0, .int .i64 0, .int .i64 0, .int .i64 0, .int .i64 0, .int .i64 0, .int .i64 0, .int .i64 0, .int .i64 0, .int .i64 0, .int .i64 0, .int .i64 0, .int .i64 0, .int .i64 0, .slice none 0 0, .slice none 0 0, .slice none 0 0, .slice none 0 0] 39)) w.heap.size t a) := (TBx.new w t a _ rfl).below ((Below.refl _ _).alloc (Nat.le_refl _) _)
  have HR2 : Hid (((w.alloc (.cells (tbA t a) 39)).alloc (.cells #[.int .i64 0, .int .i64 0, .int .i64 0, .int .i64 0, .int .i64 0, .int .i64 0, .int .i64 0, .int .i64 0, .int .i64 0, .int .i64 0, .int .i64 0, .int .i64 0, .int .i64 0, .int .i64 0, .int .i64 0, .slice none 0 0, .slice none 0 0, .slice none 0 0, .slice none 0 0] 39)).heap[w.heap.size + 1]? = some (.cells #[.int .i64 0, .int .i64 0, .int .i64 0, .int .i64 0, .int .i64 0, .int .i64 0, .int .i64 0, .int .i64 0, .int .i64 0, .int .i64 0, .int .i64 0, .int .i64 0, .int .i64 0, .int .i64 0, .int .i64 0, .slice none 0 0, .slice none 0 0, .slice none 0 0, .slice none 0 0] 39 (0, 0))) := new_row (w.alloc (.cells (tbA t a) 39)) _ _ _ (by simp)
  have HSP : Hid (Calls Tryz.prog 30 #[tbV t a] ((w.alloc (.cells (tbA t a) 39)).alloc (.cells #[.int .i64 0, .int .i64 0, .int .i64 0, .int .i64 0, .int .i64 0, .int .i64 0, .int .i64 0, .int .i64 0, .int .i64 0, .int .i64 0, .int .i64 0, .int .i64 0, .int .i64 0, .int .i64 0, .int .i64 0, .slice none 0 0, .slice none 0 0, .slice none 0 0, .slice none 0 0] 39)) fun e w' => e = .returned (.bool q) ∧ Below ((w.alloc (.cells (tbA t a) 39)).alloc (.cells #[.int .i64 0, .int .i64 0, .int .i64 0, .int .i64 0, .int .i64 0, .int .i64 0, .int .i64 0, .int .i64 0, .int .i64 0, .int .i64 0, .int .i64 0, .int .i64 0, .int .i64 0, .int .i64 0, .int .i64 0, .slice none 0 0, .slice none 0 0, .slice none 0 0, .slice none 0 0] 39)).heap.size ((w.alloc (.cells (tbA t a) 39)).alloc (.cells #[.int .i64 0, .int .i64 0, .int .i64 0, .int .i64 0, .int .i64 0, .int .i64 0, .int .i64 0, .int .i64 0, .int .i64 0, .int .i64 0, .int .i64 0, .int .i64 0, .int .i64 0, .int .i64 0, .int .i64 0, .slice none 0 0, .slice none 0 0, .slice none 0 0, .slice none 0 0] 39)) w') := spec_sound t a q _ (hm.below HB2.out) hw hs hq
  have HL : Hid (t.ps.length = a.pn) := hw.pl
  have HCP : Hid (∀ X, Below w.heap.size w X → Calls Tryz.prog 32 #[tbV t a, .slice a.sa a.sn a.sc] X fun e w' => ∃ a', e = .returned (tbV t a') ∧ Below X.heap.size X w' ∧ KT X.heap.size w'.heap.size w' t a' ∧ TW t a' ∧ TS a') := fun X hX => (spec_cp t a a.sa a.sc a.sn t.ss X (hm.below hX) hw hs (hm.below hX).s.seg hw.sl hs.s hw.sf).mono fun e w' ⟨a', h1, h2, h3, h4, h5, _⟩ => ⟨a', h1, h2, h3, h4, h5⟩
  have HQ : Hid (q = true ↔ Sd t) := hq
  have HF : Hid (-9223372036854775808 ≤ f ∧ f ≤ 9223372036854775807) := hf
  clear hq hm hw hs hf
  go_enter Tryz.func24, Tryz.ntmps24
  go_wp2_with (first | (refine wpList_load_row rfl 39 (.tmp 3) rfl w.heap.size rfl 39 (tbA t a) (0, 0) _ HX2.out Tryz.underlying39 rfl (by kernel_rfl) ?_) | fail)
  refine Calls.mono HSP.out ?_
  rintro e w1 ⟨rfl, hb1⟩
  have HB1 : Hid (Below w.heap.size w w1) := HB2.out.trans (hb1.mono HB2.out.size)
  have HX1 : Hid (TBx w1 w.heap.size t a) := HX2.out.below hb1
  have HR1 : Hid (w1.heap[w.heap.size + 1]? = some (.cells #[.int .i64 0, .int .i64 0, .int .i64 0, .int .i64 0, .int .i64 0, .int .i64 0, .int .i64 0, .int .i64 0, .int .i64 0, .int .i64 0, .int .i64 0, .int .i64 0, .int .i64 0, .int .i64 0, .int .i64 0, .slice none 0 0, .slice none 0 0, .slice none 0 0, .slice none 0 0] 39 (0, 0))) := row_below HR2.out hb1
  have k15 : w1.cell? ⟨w.heap.size, 15, none⟩ = some (.slice a.pa a.pn a.pc) := HX1.out.cell 15 rfl
  clear hb1 HB2 HX2 HR2 HSP
  cases q
  · have HNO : Hid (¬ (Sd t ∧ 0 ≤ x ∧ x < (t.ps.length : Int))) := fun h => absurd (HQ.out.2 h.1) (by simp)
    have HRZ : Hid (w1.heap[w.heap.size + 1]? = some (.cells #[.int .i64 0, .int .i64 0, .int .i64 0, .int .i64 0, .int .i64 0, .int .i64 0, .int .i64 0, .int .i64 0, .int .i64 0, .int .i64 0, .int .i64 0, .int .i64 0, .int .i64 0, .int .i64 0, .int .i64 0, .slice none 0 0, .slice none 0 0, .slice none 0 0, .slice none 0 0] 39 (0, 0))) := HR1.out
    have HBZ : Hid (Below w.heap.size w w1) := HB1.out
    clear HQ HX1 k15 HR1 HB1 HCP
    go_wp2_with (first | (refine wpList_store_row rfl 39 (.tmp 6) (.tmp 24) rfl (w.heap.size + 1) (#[.int .i64 0, .int .i64 0, .int .i64 0, .int .i64 0, .int .i64 0, .int .i64 0, .int .i64 0, .int .i64 0, .int .i64 0, .int .i64 0, .int .i64 0, .int .i64 0, .int .i64 0, .int .i64 0, .int .i64 0, .slice none 0 0, .slice none 0 0, .slice none 0 0, .slice none 0 0]) rfl rfl 39 (#[.int .i64 0, .int .i64 0, .int .i64 0, .int .i64 0, .int .i64 0, .int .i64 0, .int .i64 0, .int .i64 0, .int .i64 0, .int .i64 0, .int .i64 0, .int .i64 0, .int .i64 0, .int .i64 0, .int .i64 0, .slice none 0 0, .slice none 0 0, .slice none 0 0, .slice none 0 0]) HRZ.out (by kernel_rfl) rfl (by simp [Value.oneCell']) ?_) | fail)
    refine bodyPost_ret (v := .tuple #[tbV tz az, .bool false]) (res_sev (setRow_heap _ _ _ _ _ _ HRZ.out) rfl rfl rfl) rfl ⟨tz, az, false, rfl, Or.inl ⟨HNO.out, rfl, rfl⟩, below_setRow HBZ.out (Nat.le_succ _) _, kt_zero _ _ _, tw_zero, ts_zero⟩
  have HSD : Hid (Sd t) := HQ.out.1 rfl
  have h8 : 1 ≤ t.ps.length ∧ t.ps.length ≤ 6 := HSD.out 8 (by omega)
  have hlen := HL.out
  have hw1 : IntKind.i64.wrap ((a.pn : Int) - 1) = (a.pn : Int) - 1 := by rw [IntKind.wrap_i64]; omega
  clear HQ
  go_wp2_with fail
  refine Calls.mono (in_any x 0 ((a.pn : Int) - 1) w1) ?_
  rintro e w2 ⟨rfl, rfl⟩
  by_cases hx0 : 0 ≤ x ∧ x ≤ (a.pn : Int) - 1
  rotate_left
  · have HNO : Hid (¬ (Sd t ∧ 0 ≤ x ∧ x < (t.ps.length : Int))) := fun h => hx0 ⟨h.2.1, by have := h.2.2; omega⟩
    have HRZ : Hid (w2.heap[w.heap.size + 1]? = some (.cells #[.int .i64 0, .int .i64 0, .int .i64 0, .int .i64 0, .int .i64 0, .int .i64 0, .int .i64 0, .int .i64 0, .int .i64 0, .int .i64 0, .int .i64 0, .int .i64 0, .int .i64 0, .int .i64 0, .int .i64 0, .slice none 0 0, .slice none 0 0, .slice none 0 0, .slice none 0 0] 39 (0, 0))) := HR1.out
    have HBZ : Hid (Below w.heap.size w w2) := HB1.out
    rw [inr_no hx0]
    clear HX1 HR1 HB1 hx0 HCP k15
    go_wp2_with (first | (refine wpList_store_row rfl 39 (.tmp 6) (.tmp 24) rfl (w.heap.size + 1) (#[.int .i64 0, .int .i64 0, .int .i64 0, .int .i64 0, .int .i64 0, .int .i64 0, .int .i64 0, .int .i64 0, .int .i64 0, .int .i64 0, .int .i64 0, .int .i64 0, .int .i64 0, .int .i64 0, .int .i64 0, .slice none 0 0, .slice none 0 0, .slice none 0 0, .slice none 0 0]) rfl rfl 39 (#[.int .i64 0, .int .i64 0, .int .i64 0, .int .i64 0, .int .i64 0, .int .i64 0, .int .i64 0, .int .i64 0, .int .i64 0, .int .i64 0, .int .i64 0, .int .i64 0, .int .i64 0, .int .i64 0, .int .i64 0, .slice none 0 0, .slice none 0 0, .slice none 0 0, .slice none 0 0]) HRZ.out (by kernel_rfl) rfl (by simp [Value.oneCell']) ?_) | fail)
    refine bodyPost_ret (v := .tuple #[tbV tz az, .bool false]) (res_sev (setRow_heap _ _ _ _ _ _ HRZ.out) rfl rfl rfl) rfl ⟨tz, az, false, rfl, Or.inl ⟨HNO.out, rfl, rfl⟩, below_setRow HBZ.out (Nat.le_succ _) _, kt_zero _ _ _, tw_zero, ts_zero⟩
  rw [inr_yes hx0]
  have HYES : Hid (Sd t ∧ 0 ≤ x ∧ x < (t.ps.length : Int)) := ⟨HSD.out, hx0.1, by omega⟩
  have k18 : w2.cell? ⟨w.heap.size, 18, none⟩ = some (.slice a.sa a.sn a.sc) := HX1.out.cell 18 rfl
  have HP1 : Hid (w.heap.size + 1 < w2.heap.size) := (Array.getElem?_eq_some_iff.1 HR1.out).1
  clear hx0 k15 hw1 hlen h8 HL
  go_wp2_with (first | (refine wpList_load_row rfl 39 (.tmp 3) rfl w.heap.size rfl 39 (tbA t a) (0, 0) _ HX1.out Tryz.underlying39 rfl (by kernel_rfl) ?_) | fail)
  refine Calls.mono (HCP.out _ HB1.out) ?_
  rintro e w3 ⟨a3, rfl, hb3, hkt, htw, hts⟩
  have HN : Hid ((w3.alloc (.cells #[.int .i64 0, .int .i64 0, .int .i64 0, .int .i64 0, .int .i64 0, .int .i64 0, .int .i64 0, .int .i64 0, .int .i64 0, .int .i64 0, .int .i64 0, .int .i64 0, .int .i64 0, .int .i64 0, .int .i64 0, .slice none 0 0, .slice none 0 0, .slice none 0 0, .slice none 0 0] 39)).heap[w3.heap.size]? = some (.cells #[.int .i64 0, .int .i64 0, .int .i64 0, .int .i64 0, .int .i64 0, .int .i64 0, .int .i64 0, .int .i64 0, .int .i64 0, .int .i64 0, .int .i64 0, .int .i64 0, .int .i64 0, .int .i64 0, .int .i64 0, .slice none 0 0, .slice none 0 0, .slice none 0 0, .slice none 0 0] 39 (0, 0))) := new_row w3 _ _ _ rfl
  have hbV : Below w3.heap.size w3 ((w3.alloc (.cells #[.int .i64 0, .int .i64 0, .int .i64 0, .int .i64 0, .int .i64 0, .int .i64 0, .int .i64 0, .int .i64 0, .int .i64 0, .int .i64 0, .int .i64 0, .int .i64 0, .int .i64 0, .int .i64 0, .int .i64 0, .slice none 0 0, .slice none 0 0, .slice none 0 0, .slice none 0 0] 39)).setRow w3.heap.size (tbA t a3)) := below_setRow ((Below.refl _ _).alloc (Nat.le_refl _) _) (Nat.le_refl _) _
  have HB4 : Hid (Below w.heap.size w ((w3.alloc (.cells #[.int .i64 0, .int .i64 0, .int .i64 0, .int .i64 0, .int .i64 0, .int .i64 0, .int .i64 0, .int .i64 0, .int .i64 0, .int .i64 0, .int .i64 0, .int .i64 0, .int .i64 0, .int .i64 0, .int .i64 0, .slice none 0 0, .slice none 0 0, .slice none 0 0, .slice none 0 0] 39)).setRow w3.heap.size (tbA t a3))) := (HB1.out.trans (hb3.mono HB1.out.size)).trans (hbV.mono (HB1.out.trans (hb3.mono HB1.out.size)).size)
  have HR4 : Hid (((w3.alloc (.cells #[.int .i64 0, .int .i64 0, .int .i64 0, .int .i64 0, .int .i64 0, .int .i64 0, .int .i64 0, .int .i64 0, .int .i64 0, .int .i64 0, .int .i64 0, .int .i64 0, .int .i64 0, .int .i64 0, .int .i64 0, .slice none 0 0, .slice none 0 0, .slice none 0 0, .slice none 0 0] 39)).setRow w3.heap.size (tbA t a3)).heap[w.heap.size + 1]? = some (.cells #[.int .i64 0, .int .i64 0, .int .i64 0, .int .i64 0, .int .i64 0, .int .i64 0, .int .i64 0, .int .i64 0, .int .i64 0, .int .i64 0, .int .i64 0, .int .i64 0, .int .i64 0, .int .i64 0, .int .i64 0, .slice none 0 0, .slice none 0 0, .slice none 0 0, .slice none 0 0] 39 (0, 0))) := row_below (row_below HR1.out hb3) hbV
  have HO4 : Hid (TBx ((w3.alloc (.cells #[.int .i64 0, .int .i64 0, .int .i64 0, .int .i64 0, .int .i64 0, .int .i64 0, .int .i64 0, .int .i64 0, .int .i64 0, .int .i64 0, .int .i64 0, .int .i64 0, .int .i64 0, .int .i64 0, .int .i64 0, .slice none 0 0, .slice none 0 0, .slice none 0 0, .slice none 0 0] 39)).setRow w3.heap.size (tbA t a3)) w3.heap.size t a3) := setRow_heap _ _ _ _ _ _ HN.out
  have HK4 : Hid (KT w2.heap.size w3.heap.size ((w3.alloc (.cells #[.int .i64 0, .int .i64 0, .int .i64 0, .int .i64 0, .int .i64 0, .int .i64 0, .int .i64 0, .int .i64 0, .int .i64 0, .int .i64 0, .int .i64 0, .int .i64 0, .int .i64 0, .int .i64 0, .int .i64 0, .slice none 0 0, .slice none 0 0, .slice none 0 0, .slice none 0 0] 39)).setRow w3.heap.size (tbA t a3)) t a3) := hkt.low hbV (Nat.le_refl _)
  have HT4 : Hid (TW t a3 ∧ TS a3) := ⟨htw, hts⟩
  have HZ4 : Hid (w.heap.size + 1 < w3.heap.size ∧ w3.heap.size ≤ ((w3.alloc (.cells #[.int .i64 0, .int .i64 0, .int .i64 0, .int .i64 0, .int .i64 0, .int .i64 0, .int .i64 0, .int .i64 0, .int .i64 0, .int .i64 0, .int .i64 0, .int .i64 0, .int .i64 0, .int .i64 0, .int .i64 0, .slice none 0 0, .slice none 0 0, .slice none 0 0, .slice none 0 0] 39)).setRow w3.heap.size (tbA t a3)).heap.size) := by
    have h1 := hb3.size
    have h2 := HP1.out
    have h3 := hbV.size
    show _ ∧ _
    exact ⟨by omega, h3⟩
  clear hb3 hkt htw hts hbV HB1 HX1 HR1 HCP k18
  go_wp2_with (first | (refine wpList_store_row rfl 39 (.tmp 8) (.tmp 28) rfl w3.heap.size (tbA t a3) rfl rfl 39 (#[.int .i64 0, .int .i64 0, .int .i64 0, .int .i64 0, .int .i64 0, .int .i64 0, .int .i64 0, .int .i64 0, .int .i64 0, .int .i64 0, .int .i64 0, .int .i64 0, .int .i64 0, .int .i64 0, .int .i64 0, .slice none 0 0, .slice none 0 0, .slice none 0 0, .slice none 0 0]) HN.out (by kernel_rfl) rfl (by simp [Value.oneCell']) ?_) | fail)
  clear HN
  revert HB4 HR4 HO4 HK4 HZ4
  generalize ((w3.alloc (.cells #[.int .i64 0, .int .i64 0, .int .i64 0, .int .i64 0, .int .i64 0, .int .i64 0, .int .i64 0, .int .i64 0, .int .i64 0, .int .i64 0, .int .i64 0, .int .i64 0, .int .i64 0, .int .i64 0, .int .i64 0, .slice none 0 0, .slice none 0 0, .slice none 0 0, .slice none 0 0] 39)).setRow w3.heap.size (tbA t a3)) = W4
  generalize w3.heap.size = O
  have HP2 : Hid (w.heap.size + 1 < w2.heap.size) := HP1.out
  intro HB4 HR4 HO4 HK4 HZ4
  clear HP1
  go_loopw [9] (fun vi wr => ∃ (i : Nat) (S : List slT) (ar : Ad) (lo hi : Nat), i ≤ 16 ∧ vi = .int .i64 (i : Int) ∧ Hid (S = evF t x f i) ∧ Hid (Below w.heap.size w wr) ∧ Hid (wr.heap[w.heap.size + 1]? = some (.cells #[.int .i64 0, .int .i64 0, .int .i64 0, .int .i64 0, .int .i64 0, .int .i64 0, .int .i64 0, .int .i64 0, .int .i64 0, .int .i64 0, .int .i64 0, .int .i64 0, .int .i64 0, .int .i64 0, .int .i64 0, .slice none 0 0, .slice none 0 0, .slice none 0 0, .slice none 0 0] 39 (0, 0))) ∧ Hid (TBx wr O { t with ss := S } ar) ∧ Hid (KT lo hi wr { t with ss := S } ar) ∧ Hid (TW { t with ss := S } ar ∧ TS ar) ∧ Hid ((hi ≤ O ∨ O < lo) ∧ w.heap.size + 1 < lo ∧ hi ≤ wr.heap.size)) (fun vi _ => 16 - (intOf vi).toNat)
  case atStart => exact ⟨0, t.ss, a3, w2.heap.size, O, by omega, rfl, rfl, HB4.out, HR4.out, HO4.out, HK4.out, HT4.out, Or.inl (Nat.le_refl _), HP2.out, HZ4.out.2⟩
  case round =>
    clear HB4 HR4 HO4 HK4 HT4 HP2
    obtain ⟨i, S, ar, lo, hi, hi16, rfl, HS, HB, HR, HO, HK, HT, HRG⟩ := hrel
    have HOZ : Hid (w.heap.size + 1 < O) := HZ4.out.1
    clear HZ4
    have HG : Hid (SlG t S) := by
      have h := evF_ok HSD.out x f i
      rw [← HS.out] at h
      exact h
    have hsl : S.length = ar.sn := HT.out.1.sl
    have ko18 : wr.cell? ⟨O, 18, none⟩ = some (.slice ar.sa ar.sn ar.sc) := HO.out.cell 18 rfl
    by_cases hlt : i < ar.sn
    rotate_left
    · have hni : ¬ ((i : Int) < (ar.sn : Int)) := by omega
      have HEV : Hid (S = evF t x f 16) := by
        have e := HS.out
        rw [e] at hsl
        have h := evF_stop (t := t) (p := x) (f := f) (n := i) (by omega) 16 hi16
        rw [h]
        exact e
      have HRF : Hid ((wr.setRow (w.heap.size + 1) (tbA t ar)).heap[w.heap.size + 1]? = some (.cells (tbA t ar) 39 (0, 0))) := setRow_heap _ _ _ _ _ _ HR.out
      have hsf : (wr.setRow (w.heap.size + 1) (tbA t ar)).heap.size = wr.heap.size := by simp [World.setRow]
      have hrg := HRG.out
      have hkf := HK.out.setRow (B := w.heap.size + 1) (cs := tbA t ar) (Or.inl hrg.2.1)
      have HKF : Hid (KT w.heap.size (wr.setRow (w.heap.size + 1) (tbA t ar)).heap.size (wr.setRow (w.heap.size + 1) (tbA t ar)) { t with ss := S } ar) := by
        rw [hsf]
        exact ⟨hkf.p.wide (by omega) (by omega), hkf.g, fun j hj => (hkf.v j hj).wide (by omega) (by omega), hkf.d.wide (by omega) (by omega), hkf.c.wide (by omega) (by omega), hkf.s.wide (by omega) (by omega)⟩
      clear hkf hrg HK
      go_wp2_with (first | (refine wpList_load_row rfl 39 (.tmp 8) rfl O rfl 39 (tbA t ar) (0, 0) _ HO.out Tryz.underlying39 rfl (by kernel_rfl) ?_) | (refine wpList_store_row rfl 39 (.tmp 6) (.tmp 53) rfl (w.heap.size + 1) (tbA t ar) rfl rfl 39 (#[.int .i64 0, .int .i64 0, .int .i64 0, .int .i64 0, .int .i64 0, .int .i64 0, .int .i64 0, .int .i64 0, .int .i64 0, .int .i64 0, .int .i64 0, .int .i64 0, .int .i64 0, .int .i64 0, .int .i64 0, .slice none 0 0, .slice none 0 0, .slice none 0 0, .slice none 0 0]) HR.out (by kernel_rfl) rfl (by simp [Value.oneCell']) ?_) | fail)
      exact bodyPost_ret (v := .tuple #[tbV { t with ss := S } ar, .bool true]) (res_sev HRF.out rfl rfl rfl) rfl ⟨{ t with ss := S }, ar, Or.inr ⟨rfl, Or.inr ⟨HYES.out, by rw [HEV.out], rfl⟩, below_setRow HB.out (Nat.le_succ _) _, HKF.out, HT.out.1, HT.out.2⟩⟩
    have hlt' : (i : Int) < (ar.sn : Int) := by omega
    have hi15 : i < 16 := by have := HG.out.n2; omega
    obtain ⟨b1, o1, hsa, hbl1, p1⟩ := HK.out.s.1.at i hlt
    rw [hsa] at ko18
    simp only [slX] at p1
    obtain ⟨c0, c1, c2⟩ := sl_cells p1
    obtain ⟨y, HY⟩ : ∃ y, Hid (S.getD i sl0 = y) := ⟨_, rfl⟩
    rw [HY.out] at c0 c1 c2
    obtain ⟨y1, y2, y3⟩ := y
    simp only at c0 c1 c2
    clear p1 hbl1 hsa
    by_cases hp : y1 = x
    rotate_left
    · have hpb : (y1 == x) = false := by simp [hp]
      have HS' : Hid (S = evF t x f (i + 1)) := by
        have e := HS.out
        show _ = _
        rw [evF_no (fun c => hp (by have h := c.1; rw [← e, HY.out] at h; exact h))]
        exact e
      clear hp
      go_wp2_with fail
      go_roundw
      case rel => exact ⟨i + 1, S, ar, lo, hi, by omega, by first | rfl | go_num, HS'.out, HB.out, HR.out, HO.out, HK.out, HT.out, HRG.out⟩
      case measure => simp [intOf]; omega
    have hpb : (y1 == x) = true := by simp [hp]
    go_wp2_with (first | (refine wpList_load_row rfl 39 (.tmp 8) rfl O rfl 39 (tbA t ar) (0, 0) _ HO.out Tryz.underlying39 rfl (by kernel_rfl) ?_) | fail)
    refine Calls.mono (spec_split_any { t with ss := S } ar (i : Int) f wr HK.out.tm HT.out.1 HT.out.2 HF.out) ?_
    rintro e w5 ⟨R5, ar5, q5, rfl, hA, hb5, hkt5, htw5, hts5⟩
    have hzw := HRG.out
    have HOL : Hid (O < wr.heap.size) := (Array.getElem?_eq_some_iff.1 HO.out).1
    have HN : Hid ((w5.alloc (.cells #[.int .i64 0, .int .i64 0, .int .i64 0, .int .i64 0, .int .i64 0, .int .i64 0, .int .i64 0, .int .i64 0, .int .i64 0, .int .i64 0, .int .i64 0, .int .i64 0, .int .i64 0, .int .i64 0, .int .i64 0, .slice none 0 0, .slice none 0 0, .slice none 0 0, .slice none 0 0] 39)).heap[w5.heap.size]? = some (.cells #[.int .i64 0, .int .i64 0, .int .i64 0, .int .i64 0, .int .i64 0, .int .i64 0, .int .i64 0, .int .i64 0, .int .i64 0, .int .i64 0, .int .i64 0, .int .i64 0, .int .i64 0, .int .i64 0, .int .i64 0, .slice none 0 0, .slice none 0 0, .slice none 0 0, .slice none 0 0] 39 (0, 0))) := new_row w5 _ _ _ rfl
    have hbV : Below w5.heap.size w5 ((w5.alloc (.cells #[.int .i64 0, .int .i64 0, .int .i64 0, .int .i64 0, .int .i64 0, .int .i64 0, .int .i64 0, .int .i64 0, .int .i64 0, .int .i64 0, .int .i64 0, .int .i64 0, .int .i64 0, .int .i64 0, .int .i64 0, .slice none 0 0, .slice none 0 0, .slice none 0 0, .slice none 0 0] 39)).setRow w5.heap.size (tbA R5 ar5)) := below_setRow ((Below.refl _ _).alloc (Nat.le_refl _) _) (Nat.le_refl _) _
    have hb6 : Below wr.heap.size wr ((w5.alloc (.cells #[.int .i64 0, .int .i64 0, .int .i64 0, .int .i64 0, .int .i64 0, .int .i64 0, .int .i64 0, .int .i64 0, .int .i64 0, .int .i64 0, .int .i64 0, .int .i64 0, .int .i64 0, .int .i64 0, .int .i64 0, .slice none 0 0, .slice none 0 0, .slice none 0 0, .slice none 0 0] 39)).setRow w5.heap.size (tbA R5 ar5)) := hb5.trans (hbV.mono hb5.size)
    have HB6 : Hid (Below w.heap.size w ((w5.alloc (.cells #[.int .i64 0, .int .i64 0, .int .i64 0, .int .i64 0, .int .i64 0, .int .i64 0, .int .i64 0, .int .i64 0, .int .i64 0, .int .i64 0, .int .i64 0, .int .i64 0, .int .i64 0, .int .i64 0, .int .i64 0, .slice none 0 0, .slice none 0 0, .slice none 0 0, .slice none 0 0] 39)).setRow w5.heap.size (tbA R5 ar5))) := HB.out.trans (hb6.mono HB.out.size)
    have HR6 : Hid (((w5.alloc (.cells #[.int .i64 0, .int .i64 0, .int .i64 0, .int .i64 0, .int .i64 0, .int .i64 0, .int .i64 0, .int .i64 0, .int .i64 0, .int .i64 0, .int .i64 0, .int .i64 0, .int .i64 0, .int .i64 0, .int .i64 0, .slice none 0 0, .slice none 0 0, .slice none 0 0, .slice none 0 0] 39)).setRow w5.heap.size (tbA R5 ar5)).heap[w.heap.size + 1]? = some (.cells #[.int .i64 0, .int .i64 0, .int .i64 0, .int .i64 0, .int .i64 0, .int .i64 0, .int .i64 0, .int .i64 0, .int .i64 0, .int .i64 0, .int .i64 0, .int .i64 0, .int .i64 0, .int .i64 0, .int .i64 0, .slice none 0 0, .slice none 0 0, .slice none 0 0, .slice none 0 0] 39 (0, 0))) := row_below HR.out hb6
    have HO6 : Hid (TBx ((w5.alloc (.cells #[.int .i64 0, .int .i64 0, .int .i64 0, .int .i64 0, .int .i64 0, .int .i64 0, .int .i64 0, .int .i64 0, .int .i64 0, .int .i64 0, .int .i64 0, .int .i64 0, .int .i64 0, .int .i64 0, .int .i64 0, .slice none 0 0, .slice none 0 0, .slice none 0 0, .slice none 0 0] 39)).setRow w5.heap.size (tbA R5 ar5)) O { t with ss := S } ar) := HO.out.below hb6
    have HV6 : Hid (((w5.alloc (.cells #[.int .i64 0, .int .i64 0, .int .i64 0, .int .i64 0, .int .i64 0, .int .i64 0, .int .i64 0, .int .i64 0, .int .i64 0, .int .i64 0, .int .i64 0, .int .i64 0, .int .i64 0, .int .i64 0, .int .i64 0, .slice none 0 0, .slice none 0 0, .slice none 0 0, .slice none 0 0] 39)).setRow w5.heap.size (tbA R5 ar5)).heap[w5.heap.size]? = some (.cells (tbA R5 ar5) 39 (0, 0))) := setRow_heap _ _ _ _ _ _ HN.out
    have hc : CanS { t with ss := S } (i : Int) f ↔ CutP t S i f := by
      refine ⟨fun h => ⟨by omega, h.2.2.1, h.2.2.2.1, by have := h.2.2.2.2; rw [Int.toNat_natCast] at this; exact this⟩, fun h => ⟨sd_slots HSD.out HG.out, ⟨by omega, by have := h.1; show (i : Int) < (S.length : Int); omega⟩, h.2.1, h.2.2.1, by rw [Int.toNat_natCast]; exact h.2.2.2⟩⟩
    rcases hA with ⟨hno, rfl, rfl⟩ | ⟨hyes, rfl, rfl⟩
    · have HS' : Hid (S = evF t x f (i + 1)) := by
        have e := HS.out
        show _ = _
        rw [evF_no (fun c => hno (hc.2 (by rw [e]; exact c.2)))]
        exact e
      have HK6 : Hid (KT lo hi ((w5.alloc (.cells #[.int .i64 0, .int .i64 0, .int .i64 0, .int .i64 0, .int .i64 0, .int .i64 0, .int .i64 0, .int .i64 0, .int .i64 0, .int .i64 0, .int .i64 0, .int .i64 0, .int .i64 0, .int .i64 0, .int .i64 0, .slice none 0 0, .slice none 0 0, .slice none 0 0, .slice none 0 0] 39)).setRow w5.heap.size (tbA tz ar5)) { t with ss := S } ar) := HK.out.low hb6 hzw.2.2
      have HG6 : Hid ((hi ≤ O ∨ O < lo) ∧ w.heap.size + 1 < lo ∧ hi ≤ ((w5.alloc (.cells #[.int .i64 0, .int .i64 0, .int .i64 0, .int .i64 0, .int .i64 0, .int .i64 0, .int .i64 0, .int .i64 0, .int .i64 0, .int .i64 0, .int .i64 0, .int .i64 0, .int .i64 0, .int .i64 0, .int .i64 0, .slice none 0 0, .slice none 0 0, .slice none 0 0, .slice none 0 0] 39)).setRow w5.heap.size (tbA tz ar5)).heap.size) := ⟨hzw.1, hzw.2.1, Nat.le_trans hzw.2.2 hb6.size⟩
      clear hno hc hkt5 htw5 hts5 hb5 hb6 hbV hzw HK HRG HB HR HO
      go_wp2_with (first | (refine wpList_store_row rfl 39 (.tmp 10) (.tmp 49) rfl w5.heap.size (tbA tz ar5) rfl rfl 39 (#[.int .i64 0, .int .i64 0, .int .i64 0, .int .i64 0, .int .i64 0, .int .i64 0, .int .i64 0, .int .i64 0, .int .i64 0, .int .i64 0, .int .i64 0, .int .i64 0, .int .i64 0, .int .i64 0, .int .i64 0, .slice none 0 0, .slice none 0 0, .slice none 0 0, .slice none 0 0]) HN.out (by kernel_rfl) rfl (by simp [Value.oneCell']) ?_) | fail)
      clear HN
      go_roundw
      case rel => exact ⟨i + 1, S, ar, lo, hi, by omega, by first | rfl | go_num, HS'.out, HB6.out, HR6.out, HO6.out, HK6.out, HT.out, HG6.out⟩
      case measure => simp [intOf]; omega
    · have HS' : Hid (splL S i f = evF t x f (i + 1)) := by
        have e := HS.out
        have h1 : ((evF t x f i).getD i sl0).1 = x := by rw [← e, HY.out]; exact hp
        show _ = _
        rw [evF_yes h1 (by rw [← e]; exact hc.1 hyes), ← e]
      rw [Int.toNat_natCast] at *
      have HK6 : Hid (KT wr.heap.size w5.heap.size (((w5.alloc (.cells #[.int .i64 0, .int .i64 0, .int .i64 0, .int .i64 0, .int .i64 0, .int .i64 0, .int .i64 0, .int .i64 0, .int .i64 0, .int .i64 0, .int .i64 0, .int .i64 0, .int .i64 0, .int .i64 0, .int .i64 0, .slice none 0 0, .slice none 0 0, .slice none 0 0, .slice none 0 0] 39)).setRow w5.heap.size (tbA t ar5)).setRow O (tbA t ar5)) { t with ss := splL S i f } ar5) := (hkt5.low hbV (Nat.le_refl _)).setRow (Or.inl HOL.out)
      have HT6 : Hid (TW { t with ss := splL S i f } ar5 ∧ TS ar5) := ⟨htw5, hts5⟩
      have HB7 : Hid (Below w.heap.size w (((w5.alloc (.cells #[.int .i64 0, .int .i64 0, .int .i64 0, .int .i64 0, .int .i64 0, .int .i64 0, .int .i64 0, .int .i64 0, .int .i64 0, .int .i64 0, .int .i64 0, .int .i64 0, .int .i64 0, .int .i64 0, .int .i64 0, .slice none 0 0, .slice none 0 0, .slice none 0 0, .slice none 0 0] 39)).setRow w5.heap.size (tbA t ar5)).setRow O (tbA t ar5))) := below_setRow HB6.out (by have := HOZ.out; omega) _
      have HR7 : Hid ((((w5.alloc (.cells #[.int .i64 0, .int .i64 0, .int .i64 0, .int .i64 0, .int .i64 0, .int .i64 0, .int .i64 0, .int .i64 0, .int .i64 0, .int .i64 0, .int .i64 0, .int .i64 0, .int .i64 0, .int .i64 0, .int .i64 0, .slice none 0 0, .slice none 0 0, .slice none 0 0, .slice none 0 0] 39)).setRow w5.heap.size (tbA t ar5)).setRow O (tbA t ar5)).heap[w.heap.size + 1]? = some (.cells #[.int .i64 0, .int .i64 0, .int .i64 0, .int .i64 0, .int .i64 0, .int .i64 0, .int .i64 0, .int .i64 0, .int .i64 0, .int .i64 0, .int .i64 0, .int .i64 0, .int .i64 0, .int .i64 0, .int .i64 0, .slice none 0 0, .slice none 0 0, .slice none 0 0, .slice none 0 0] 39 (0, 0))) := (setRow_other _ _ _ _ (by have := HOZ.out; omega)).trans HR6.out
      have HO7 : Hid (TBx (((w5.alloc (.cells #[.int .i64 0, .int .i64 0, .int .i64 0, .int .i64 0, .int .i64 0, .int .i64 0, .int .i64 0, .int .i64 0, .int .i64 0, .int .i64 0, .int .i64 0, .int .i64 0, .int .i64 0, .int .i64 0, .int .i64 0, .slice none 0 0, .slice none 0 0, .slice none 0 0, .slice none 0 0] 39)).setRow w5.heap.size (tbA t ar5)).setRow O (tbA t ar5)) O { t with ss := splL S i f } ar5) := setRow_heap _ _ _ _ _ _ HO6.out
      have HG7 : Hid ((w5.heap.size ≤ O ∨ O < wr.heap.size) ∧ w.heap.size + 1 < wr.heap.size ∧ w5.heap.size ≤ (((w5.alloc (.cells #[.int .i64 0, .int .i64 0, .int .i64 0, .int .i64 0, .int .i64 0, .int .i64 0, .int .i64 0, .int .i64 0, .int .i64 0, .int .i64 0, .int .i64 0, .int .i64 0, .int .i64 0, .int .i64 0, .int .i64 0, .slice none 0 0, .slice none 0 0, .slice none 0 0, .slice none 0 0] 39)).setRow w5.heap.size (tbA t ar5)).setRow O (tbA t ar5)).heap.size) := by
        have h1 := HOL.out
        have h2 := HOZ.out
        have h3 := hbV.size
        refine ⟨Or.inr h1, by omega, ?_⟩
        simp only [World.setRow, Array.size_modify] at h3 ⊢
        exact h3
      clear hyes hc hkt5 htw5 hts5 hb5 hb6 hbV hzw HK HRG HB HR HO HB6 HR6
      go_wp2_with (first | (refine wpList_store_row rfl 39 (.tmp 10) (.tmp 49) rfl w5.heap.size (tbA t ar5) rfl rfl 39 (#[.int .i64 0, .int .i64 0, .int .i64 0, .int .i64 0, .int .i64 0, .int .i64 0, .int .i64 0, .int .i64 0, .int .i64 0, .int .i64 0, .int .i64 0, .int .i64 0, .int .i64 0, .int .i64 0, .int .i64 0, .slice none 0 0, .slice none 0 0, .slice none 0 0, .slice none 0 0]) HN.out (by kernel_rfl) rfl (by simp [Value.oneCell']) ?_) | (refine wpList_load_row rfl 39 (.tmp 10) rfl w5.heap.size rfl 39 (tbA t ar5) (0, 0) _ HV6.out Tryz.underlying39 rfl (by kernel_rfl) ?_) | (refine wpList_store_row rfl 39 (.tmp 8) (.tmp 52) rfl O (tbA t ar5) rfl rfl 39 (tbA t ar) HO6.out (by kernel_rfl) rfl (by simp [Value.oneCell']) ?_) | fail)
      go_roundw
      case rel => exact ⟨i + 1, splL S i f, ar5, wr.heap.size, w5.heap.size, by omega, by first | rfl | go_num, HS'.out, HB7.out, HR7.out, HO7.out, HK6.out, HT6.out, HG7.out⟩
      case measure => simp [intOf]; omega
end Go.Proofs.YthieilkabcehgaaGreatDoor
