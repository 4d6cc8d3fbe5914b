/-
  Even of the specification. Conditions: the lists lie in memory; the numbers fit.
  Slots cut again and again, by the program: whole. Conditions: the lists lie in memory; the numbers fit; the table opExtras lies as its text lays it.
-/
import Derived.Test.YtlomcdgfcocmmaaGreatDoorBas
import Derived.Test.YtlomcdgfcocmmaaGreatDoorJb2
import Derived.Test.YtlomcdgfcocmmaaGreatDoorJb3
import Derived.Test.YtlomcdgfcocmmaaGreatDoorRl3
import Derived.Test.YtlomcdgfcocmmaaGreatDoorClo6
namespace Go.Proofs.YtlomcdgfcocmmaaGreatDoor
open Go.ChangeShapes Go.WideShapes Go.ChangeAt Go.RowKit Go.Deep Go.Joins
set_option linter.unusedVariables false

theorem res_sev {W : World} {B : Nat} {cs : Array Value} {b : Bool} {tmps : Array Value} (h : W.heap[B]? = some (.cells cs 33 (0, 0))) (hl : cs.size = 19) (ht : tmps[6]? = some (.pointer (some ⟨B, 0, none⟩))) (hq : tmps[7]? = some (.bool b)) : (results Tryz.f17 tmps).run Tryz.prog W = .ok (.tuple #[.agg cs, .bool b]) W := by
  have hld : (loadVar 33 ⟨B, 0, none⟩).run Tryz.prog W = .ok (.agg cs) W := run_loadVar_row (P := Tryz.prog) W B 33 33 cs (0, 0) _ h Tryz.underlying33 rfl (by rw [hl]; kernel_rfl)
  unfold results
  rw [Tryz.results17]
  simp [ht, hq, asAddr, hld]
theorem spec_split_any (t : Tb) (a : Ad) (x f : Int) (w : World) (hm : TM 0 w t a) (hw : TW t a) (hs : TS a) (hf : -9223372036854775808 ≤ f ∧ f ≤ 9223372036854775807) :
    Calls Tryz.prog 9 #[tbV t a, .int .i64 x, .int .i64 f] w fun e w' => ∃ R ar q, e = .returned (.tuple #[tbV R ar, .bool q]) ∧ SpA t x f R q ∧ Below w.heap.size w w' ∧ KT w.heap.size w'.heap.size w' R ar ∧ TW R ar ∧ TS ar := by
  by_cases hc : CanS t x f
  · obtain ⟨k, rfl⟩ : ∃ k : Nat, x = (k : Int) := ⟨x.toNat, by have := hc.2.1.1; omega⟩
    exact spec_split_yes t a k f w hm hw hs hc
  · exact spec_split_no t a x f w hm hw hs hc hf
set_option maxRecDepth 40000 in
set_option maxHeartbeats 16000000 in
theorem spec_even (t : Tb) (a : Ad) (x f : Int) (w : World) (hm : TM 0 w t a) (hw : TW t a) (hs : TS a) (hf : -9223372036854775808 ≤ f ∧ f ≤ 9223372036854775807) :
    Calls Tryz.prog 17 #[tbV t a, .int .i64 x, .int .i64 f] w fun e w' => ∃ R ar q, e = .returned (.tuple #[tbV R ar, .bool q]) ∧ EvA t x f R q ∧ Below w.heap.size w w' ∧ KT w.heap.size w'.heap.size w' R ar ∧ TW R ar ∧ TS ar := by
  obtain ⟨q, hq⟩ := told (Sd t)
  have HB2 : Hid (Below w.heap.size w ((w.alloc (.cells (tbA t a) 33)).alloc (.cells #[.int .i64 0, .int .i64 0, .int .i64 0, .int .i64 0, .int .i64 0, .int .i64 0, .int .i64 0, .int .i64 0, .int .i64 0, .int .i64 0, .int .i64 0, .int .i64 0, .int .i64 0, .int .i64 0, .int .i64 0, .slice none 0 0, .slice none 0 0, .slice none 0 0, .slice none 0 0] 33))) := ((Below.refl _ _).alloc (Nat.le_refl _) _).alloc (by simp) _
  have HX2 : Hid (TBx ((w.alloc (.cells (tbA t a) 33)).alloc (.cells #[.int .i64 0, .int .i64 0, .int .i64 0, .int .i64 0, .int .i64 0, .int .i64 0, .int .i64 0, .int .i64 0, .int .i64 0, .int .i64 0, .int .i64 0, .int .i64 0, .int .i64 0, .int .i64 0, .int .i64 0, .slice none 0 0, .slice none 0 0, .slice none 0 0, .slice none 0 0] 33)) w.heap.size t a) := (TBx.new w t a _ rfl).below ((Below.refl _ _).alloc (Nat.le_refl _) _)
  have HR2 : Hid (((w.alloc (.cells (tbA t a) 33)).alloc (.cells #[.int .i64 0, .int .i64 0, .int .i64 0, .int .i64 0, .int .i64 0, .int .i64 0, .int .i64 0, .int .i64 0, .int .i64 0, .int .i64 0, .int .i64 0, .int .i64 0, .int .i64 0, .int .i64 0, .int .i64 0, .slice none 0 0, .slice none 0 0, .slice none 0 0, .slice none 0 0] 33)).heap[w.heap.size + 1]? = some (.cells #[.int .i64 0, .int .i64 0, .int .i64 0, .int .i64 0, .int .i64 0, .int .i64 0, .int .i64 0, .int .i64 0, .int .i64 0, .int .i64 0, .int .i64 0, .int .i64 0, .int .i64 0, .int .i64 0, .int .i64 0, .slice none 0 0, .slice none 0 0, .slice none 0 0, .slice none 0 0] 33 (0, 0))) := new_row (w.alloc (.cells (tbA t a) 33)) _ _ _ (by simp)
  have HSP : Hid (Calls Tryz.prog 32 #[tbV t a] ((w.alloc (.cells (tbA t a) 33)).alloc (.cells #[.int .i64 0, .int .i64 0, .int .i64 0, .int .i64 0, .int .i64 0, .int .i64 0, .int .i64 0, .int .i64 0, .int .i64 0, .int .i64 0, .int .i64 0, .int .i64 0, .int .i64 0, .int .i64 0, .int .i64 0, .slice none 0 0, .slice none 0 0, .slice none 0 0, .slice none 0 0] 33)) fun e w' => e = .returned (.bool q) ∧ Below ((w.alloc (.cells (tbA t a) 33)).alloc (.cells #[.int .i64 0, .int .i64 0, .int .i64 0, .int .i64 0, .int .i64 0, .int .i64 0, .int .i64 0, .int .i64 0, .int .i64 0, .int .i64 0, .int .i64 0, .int .i64 0, .int .i64 0, .int .i64 0, .int .i64 0, .slice none 0 0, .slice none 0 0, .slice none 0 0, .slice none 0 0] 33)).heap.size ((w.alloc (.cells (tbA t a) 33)).alloc (.cells #[.int .i64 0, .int .i64 0, .int .i64 0, .int .i64 0, .int .i64 0, .int .i64 0, .int .i64 0, .int .i64 0, .int .i64 0, .int .i64 0, .int .i64 0, .int .i64 0, .int .i64 0, .int .i64 0, .int .i64 0, .slice none 0 0, .slice none 0 0, .slice none 0 0, .slice none 0 0] 33)) w') := spec_sound t a q _ (hm.below HB2.out) hw hs hq
  have HL : Hid (t.ps.length = a.pn) := hw.pl
  have HCP : Hid (∀ X, Below w.heap.size w X → Calls Tryz.prog 34 #[tbV t a, .slice a.sa a.sn a.sc] X fun e w' => ∃ a', e = .returned (tbV t a') ∧ Below X.heap.size X w' ∧ KT X.heap.size w'.heap.size w' t a' ∧ TW t a' ∧ TS a') := fun X hX => (spec_cp t a a.sa a.sc a.sn t.ss X (hm.below hX) hw hs (hm.below hX).s.seg hw.sl hs.s hw.sf).mono fun e w' ⟨a', h1, h2, h3, h4, h5, _⟩ => ⟨a', h1, h2, h3, h4, h5⟩
  have HQ : Hid (q = true ↔ Sd t) := hq
  have HF : Hid (-9223372036854775808 ≤ f ∧ f ≤ 9223372036854775807) := hf
  clear hq hm hw hs hf
  go_enter Tryz.func17, Tryz.ntmps17
  go_wp2_with (first | (refine wpList_load_row rfl 33 (.tmp 3) rfl w.heap.size rfl 33 (tbA t a) (0, 0) _ HX2.out Tryz.underlying33 rfl (by kernel_rfl) ?_) | fail)
  refine Calls.mono HSP.out ?_
  rintro e w1 ⟨rfl, hb1⟩
  have HB1 : Hid (Below w.heap.size w w1) := HB2.out.trans (hb1.mono HB2.out.size)
  have HX1 : Hid (TBx w1 w.heap.size t a) := HX2.out.below hb1
  have HR1 : Hid (w1.heap[w.heap.size + 1]? = some (.cells #[.int .i64 0, .int .i64 0, .int .i64 0, .int .i64 0, .int .i64 0, .int .i64 0, .int .i64 0, .int .i64 0, .int .i64 0, .int .i64 0, .int .i64 0, .int .i64 0, .int .i64 0, .int .i64 0, .int .i64 0, .slice none 0 0, .slice none 0 0, .slice none 0 0, .slice none 0 0] 33 (0, 0))) := row_below HR2.out hb1
  have k15 : w1.cell? ⟨w.heap.size, 15, none⟩ = some (.slice a.pa a.pn a.pc) := HX1.out.cell 15 rfl
  clear hb1 HB2 HX2 HR2 HSP
  cases q
  · have HNO : Hid (¬ (Sd t ∧ 0 ≤ x ∧ x < (t.ps.length : Int))) := fun h => absurd (HQ.out.2 h.1) (by simp)
    have HRZ : Hid (w1.heap[w.heap.size + 1]? = some (.cells #[.int .i64 0, .int .i64 0, .int .i64 0, .int .i64 0, .int .i64 0, .int .i64 0, .int .i64 0, .int .i64 0, .int .i64 0, .int .i64 0, .int .i64 0, .int .i64 0, .int .i64 0, .int .i64 0, .int .i64 0, .slice none 0 0, .slice none 0 0, .slice none 0 0, .slice none 0 0] 33 (0, 0))) := HR1.out
    have HBZ : Hid (Below w.heap.size w w1) := HB1.out
    clear HQ HX1 k15 HR1 HB1 HCP
    go_wp2_with (first | (refine wpList_store_row rfl 33 (.tmp 6) (.tmp 24) rfl (w.heap.size + 1) (#[.int .i64 0, .int .i64 0, .int .i64 0, .int .i64 0, .int .i64 0, .int .i64 0, .int .i64 0, .int .i64 0, .int .i64 0, .int .i64 0, .int .i64 0, .int .i64 0, .int .i64 0, .int .i64 0, .int .i64 0, .slice none 0 0, .slice none 0 0, .slice none 0 0, .slice none 0 0]) rfl rfl 33 (#[.int .i64 0, .int .i64 0, .int .i64 0, .int .i64 0, .int .i64 0, .int .i64 0, .int .i64 0, .int .i64 0, .int .i64 0, .int .i64 0, .int .i64 0, .int .i64 0, .int .i64 0, .int .i64 0, .int .i64 0, .slice none 0 0, .slice none 0 0, .slice none 0 0, .slice none 0 0]) HRZ.out (by kernel_rfl) rfl (by simp [Value.oneCell']) ?_) | fail)
    refine bodyPost_ret (v := .tuple #[tbV tz az, .bool false]) (res_sev (setRow_heap _ _ _ _ _ _ HRZ.out) rfl rfl rfl) rfl ⟨tz, az, false, rfl, Or.inl ⟨HNO.out, rfl, rfl⟩, below_setRow HBZ.out (Nat.le_succ _) _, kt_zero _ _ _, tw_zero, ts_zero⟩
  have HSD : Hid (Sd t) := HQ.out.1 rfl
  have h8 : 1 ≤ t.ps.length ∧ t.ps.length ≤ 6 := HSD.out 8 (by omega)
  have hlen := HL.out
  have hw1 : IntKind.i64.wrap ((a.pn : Int) - 1) = (a.pn : Int) - 1 := by rw [IntKind.wrap_i64]; omega
  clear HQ
  go_wp2_with fail
  refine Calls.mono (in_any x 0 ((a.pn : Int) - 1) w1) ?_
  rintro e w2 ⟨rfl, rfl⟩
  by_cases hx0 : 0 ≤ x ∧ x ≤ (a.pn : Int) - 1
  rotate_left
  · have HNO : Hid (¬ (Sd t ∧ 0 ≤ x ∧ x < (t.ps.length : Int))) := fun h => hx0 ⟨h.2.1, by have := h.2.2; omega⟩
    have HRZ : Hid (w2.heap[w.heap.size + 1]? = some (.cells #[.int .i64 0, .int .i64 0, .int .i64 0, .int .i64 0, .int .i64 0, .int .i64 0, .int .i64 0, .int .i64 0, .int .i64 0, .int .i64 0, .int .i64 0, .int .i64 0, .int .i64 0, .int .i64 0, .int .i64 0, .slice none 0 0, .slice none 0 0, .slice none 0 0, .slice none 0 0] 33 (0, 0))) := HR1.out
    have HBZ : Hid (Below w.heap.size w w2) := HB1.out
    rw [inr_no hx0]
    clear HX1 HR1 HB1 hx0 HCP k15
    go_wp2_with (first | (refine wpList_store_row rfl 33 (.tmp 6) (.tmp 24) rfl (w.heap.size + 1) (#[.int .i64 0, .int .i64 0, .int .i64 0, .int .i64 0, .int .i64 0, .int .i64 0, .int .i64 0, .int .i64 0, .int .i64 0, .int .i64 0, .int .i64 0, .int .i64 0, .int .i64 0, .int .i64 0, .int .i64 0, .slice none 0 0, .slice none 0 0, .slice none 0 0, .slice none 0 0]) rfl rfl 33 (#[.int .i64 0, .int .i64 0, .int .i64 0, .int .i64 0, .int .i64 0, .int .i64 0, .int .i64 0, .int .i64 0, .int .i64 0, .int .i64 0, .int .i64 0, .int .i64 0, .int .i64 0, .int .i64 0, .int .i64 0, .slice none 0 0, .slice none 0 0, .slice none 0 0, .slice none 0 0]) HRZ.out (by kernel_rfl) rfl (by simp [Value.oneCell']) ?_) | fail)
    refine bodyPost_ret (v := .tuple #[tbV tz az, .bool false]) (res_sev (setRow_heap _ _ _ _ _ _ HRZ.out) rfl rfl rfl) rfl ⟨tz, az, false, rfl, Or.inl ⟨HNO.out, rfl, rfl⟩, below_setRow HBZ.out (Nat.le_succ _) _, kt_zero _ _ _, tw_zero, ts_zero⟩
  rw [inr_yes hx0]
  have HYES : Hid (Sd t ∧ 0 ≤ x ∧ x < (t.ps.length : Int)) := ⟨HSD.out, hx0.1, by omega⟩
  have k18 : w2.cell? ⟨w.heap.size, 18, none⟩ = some (.slice a.sa a.sn a.sc) := HX1.out.cell 18 rfl
  have HP1 : Hid (w.heap.size + 1 < w2.heap.size) := (Array.getElem?_eq_some_iff.1 HR1.out).1
  clear hx0 k15 hw1 hlen h8 HL
  go_wp2_with (first | (refine wpList_load_row rfl 33 (.tmp 3) rfl w.heap.size rfl 33 (tbA t a) (0, 0) _ HX1.out Tryz.underlying33 rfl (by kernel_rfl) ?_) | fail)
  refine Calls.mono (HCP.out _ HB1.out) ?_
  rintro e w3 ⟨a3, rfl, hb3, hkt, htw, hts⟩
  have HN : Hid ((w3.alloc (.cells #[.int .i64 0, .int .i64 0, .int .i64 0, .int .i64 0, .int .i64 0, .int .i64 0, .int .i64 0, .int .i64 0, .int .i64 0, .int .i64 0, .int .i64 0, .int .i64 0, .int .i64 0, .int .i64 0, .int .i64 0, .slice none 0 0, .slice none 0 0, .slice none 0 0, .slice none 0 0] 33)).heap[w3.heap.size]? = some (.cells #[.int .i64 0, .int .i64 0, .int .i64 0, .int .i64 0, .int .i64 0, .int .i64 0, .int .i64 0, .int .i64 0, .int .i64 0, .int .i64 0, .int .i64 0, .int .i64 0, .int .i64 0, .int .i64 0, .int .i64 0, .slice none 0 0, .slice none 0 0, .slice none 0 0, .slice none 0 0] 33 (0, 0))) := new_row w3 _ _ _ rfl
  have hbV : Below w3.heap.size w3 ((w3.alloc (.cells #[.int .i64 0, .int .i64 0, .int .i64 0, .int .i64 0, .int .i64 0, .int .i64 0, .int .i64 0, .int .i64 0, .int .i64 0, .int .i64 0, .int .i64 0, .int .i64 0, .int .i64 0, .int .i64 0, .int .i64 0, .slice none 0 0, .slice none 0 0, .slice none 0 0, .slice none 0 0] 33)).setRow w3.heap.size (tbA t a3)) := below_setRow ((Below.refl _ _).alloc (Nat.le_refl _) _) (Nat.le_refl _) _
  have HB4 : Hid (Below w.heap.size w ((w3.alloc (.cells #[.int .i64 0, .int .i64 0, .int .i64 0, .int .i64 0, .int .i64 0, .int .i64 0, .int .i64 0, .int .i64 0, .int .i64 0, .int .i64 0, .int .i64 0, .int .i64 0, .int .i64 0, .int .i64 0, .int .i64 0, .slice none 0 0, .slice none 0 0, .slice none 0 0, .slice none 0 0] 33)).setRow w3.heap.size (tbA t a3))) := (HB1.out.trans (hb3.mono HB1.out.size)).trans (hbV.mono (HB1.out.trans (hb3.mono HB1.out.size)).size)
  have HR4 : Hid (((w3.alloc (.cells #[.int .i64 0, .int .i64 0, .int .i64 0, .int .i64 0, .int .i64 0, .int .i64 0, .int .i64 0, .int .i64 0, .int .i64 0, .int .i64 0, .int .i64 0, .int .i64 0, .int .i64 0, .int .i64 0, .int .i64 0, .slice none 0 0, .slice none 0 0, .slice none 0 0, .slice none 0 0] 33)).setRow w3.heap.size (tbA t a3)).heap[w.heap.size + 1]? = some (.cells #[.int .i64 0, .int .i64 0, .int .i64 0, .int .i64 0, .int .i64 0, .int .i64 0, .int .i64 0, .int .i64 0, .int .i64 0, .int .i64 0, .int .i64 0, .int .i64 0, .int .i64 0, .int .i64 0, .int .i64 0, .slice none 0 0, .slice none 0 0, .slice none 0 0, .slice none 0 0] 33 (0, 0))) := row_below (row_below HR1.out hb3) hbV
  have HO4 : Hid (TBx ((w3.alloc (.cells #[.int .i64 0, .int .i64 0, .int .i64 0, .int .i64 0, .int .i64 0, .int .i64 0, .int .i64 0, .int .i64 0, .int .i64 0, .int .i64 0, .int .i64 0, .int .i64 0, .int .i64 0, .int .i64 0, .int .i64 0, .slice none 0 0, .slice none 0 0, .slice none 0 0, .slice none 0 0] 33)).setRow w3.heap.size (tbA t a3)) w3.heap.size t a3) := setRow_heap _ _ _ _ _ _ HN.out
  have HK4 : Hid (KT w2.heap.size w3.heap.size ((w3.alloc (.cells #[.int .i64 0, .int .i64 0, .int .i64 0, .int .i64 0, .int .i64 0, .int .i64 0, .int .i64 0, .int .i64 0, .int .i64 0, .int .i64 0, .int .i64 0, .int .i64 0, .int .i64 0, .int .i64 0, .int .i64 0, .slice none 0 0, .slice none 0 0, .slice none 0 0, .slice none 0 0] 33)).setRow w3.heap.size (tbA t a3)) t a3) := hkt.low hbV (Nat.le_refl _)
  have HT4 : Hid (TW t a3 ∧ TS a3) := ⟨htw, hts⟩
  have HZ4 : Hid (w.heap.size + 1 < w3.heap.size ∧ w3.heap.size ≤ ((w3.alloc (.cells #[.int .i64 0, .int .i64 0, .int .i64 0, .int .i64 0, .int .i64 0, .int .i64 0, .int .i64 0, .int .i64 0, .int .i64 0, .int .i64 0, .int .i64 0, .int .i64 0, .int .i64 0, .int .i64 0, .int .i64 0, .slice none 0 0, .slice none 0 0, .slice none 0 0, .slice none 0 0] 33)).setRow w3.heap.size (tbA t a3)).heap.size) := by
    have h1 := hb3.size
    have h2 := HP1.out
    have h3 := hbV.size
    show _ ∧ _
    exact ⟨by omega, h3⟩
  clear hb3 hkt htw hts hbV HB1 HX1 HR1 HCP k18
  go_wp2_with (first | (refine wpList_store_row rfl 33 (.tmp 8) (.tmp 28) rfl w3.heap.size (tbA t a3) rfl rfl 33 (#[.int .i64 0, .int .i64 0, .int .i64 0, .int .i64 0, .int .i64 0, .int .i64 0, .int .i64 0, .int .i64 0, .int .i64 0, .int .i64 0, .int .i64 0, .int .i64 0, .int .i64 0, .int .i64 0, .int .i64 0, .slice none 0 0, .slice none 0 0, .slice none 0 0, .slice none 0 0]) HN.out (by kernel_rfl) rfl (by simp [Value.oneCell']) ?_) | fail)
  clear HN
  revert HB4 HR4 HO4 HK4 HZ4
  generalize ((w3.alloc (.cells #[.int .i64 0, .int .i64 0, .int .i64 0, .int .i64 0, .int .i64 0, .int .i64 0, .int .i64 0, .int .i64 0, .int .i64 0, .int .i64 0, .int .i64 0, .int .i64 0, .int .i64 0, .int .i64 0, .int .i64 0, .slice none 0 0, .slice none 0 0, .slice none 0 0, .slice none 0 0] 33)).setRow w3.heap.size (tbA t a3)) = W4
  generalize w3.heap.size = O
  have HP2 : Hid (w.heap.size + 1 < w2.heap.size) := HP1.out
  intro HB4 HR4 HO4 HK4 HZ4
  clear HP1
  go_loopw [9] (fun vi wr => ∃ (i : Nat) (S : List slT) (ar : Ad) (lo hi : Nat), i ≤ 16 ∧ vi = .int .i64 (i : Int) ∧ Hid (S = evF t x f i) ∧ Hid (Below w.heap.size w wr) ∧ Hid (wr.heap[w.heap.size + 1]? = some (.cells #[.int .i64 0, .int .i64 0, .int .i64 0, .int .i64 0, .int .i64 0, .int .i64 0, .int .i64 0, .int .i64 0, .int .i64 0, .int .i64 0, .int .i64 0, .int .i64 0, .int .i64 0, .int .i64 0, .int .i64 0, .slice none 0 0, .slice none 0 0, .slice none 0 0, .slice none 0 0] 33 (0, 0))) ∧ Hid (TBx wr O { t with ss := S } ar) ∧ Hid (KT lo hi wr { t with ss := S } ar) ∧ Hid (TW { t with ss := S } ar ∧ TS ar) ∧ Hid ((hi ≤ O ∨ O < lo) ∧ w.heap.size + 1 < lo ∧ hi ≤ wr.heap.size)) (fun vi _ => 16 - (intOf vi).toNat)
  case atStart => exact ⟨0, t.ss, a3, w2.heap.size, O, by omega, rfl, rfl, HB4.out, HR4.out, HO4.out, HK4.out, HT4.out, Or.inl (Nat.le_refl _), HP2.out, HZ4.out.2⟩
  case round =>
    clear HB4 HR4 HO4 HK4 HT4 HP2
    obtain ⟨i, S, ar, lo, hi, hi16, rfl, HS, HB, HR, HO, HK, HT, HRG⟩ := hrel
    have HOZ : Hid (w.heap.size + 1 < O) := HZ4.out.1
    clear HZ4
    have HG : Hid (SlG t S) := by
      have h := evF_ok HSD.out x f i
      rw [← HS.out] at h
      exact h
    have hsl : S.length = ar.sn := HT.out.1.sl
    have ko18 : wr.cell? ⟨O, 18, none⟩ = some (.slice ar.sa ar.sn ar.sc) := HO.out.cell 18 rfl
    by_cases hlt : i < ar.sn
    rotate_left
    · have hni : ¬ ((i : Int) < (ar.sn : Int)) := by omega
      have HEV : Hid (S = evF t x f 16) := by
        have e := HS.out
        rw [e] at hsl
        have h := evF_stop (t := t) (p := x) (f := f) (n := i) (by omega) 16 hi16
        rw [h]
        exact e
      have HRF : Hid ((wr.setRow (w.heap.size + 1) (tbA t ar)).heap[w.heap.size + 1]? = some (.cells (tbA t ar) 33 (0, 0))) := setRow_heap _ _ _ _ _ _ HR.out
      have hsf : (wr.setRow (w.heap.size + 1) (tbA t ar)).heap.size = wr.heap.size := by simp [World.setRow]
      have hrg := HRG.out
      have hkf := HK.out.setRow (B := w.heap.size + 1) (cs := tbA t ar) (Or.inl hrg.2.1)
      have HKF : Hid (KT w.heap.size (wr.setRow (w.heap.size + 1) (tbA t ar)).heap.size (wr.setRow (w.heap.size + 1) (tbA t ar)) { t with ss := S } ar) := by
        rw [hsf]
        exact ⟨hkf.p.wide (by omega) (by omega), hkf.g, fun j hj => (hkf.v j hj).wide (by omega) (by omega), hkf.d.wide (by omega) (by omega), hkf.c.wide (by omega) (by omega), hkf.s.wide (by omega) (by omega)⟩
      clear hkf hrg HK
      go_wp2_with (first | (refine wpList_load_row rfl 33 (.tmp 8) rfl O rfl 33 (tbA t ar) (0, 0) _ HO.out Tryz.underlying33 rfl (by kernel_rfl) ?_) | (refine wpList_store_row rfl 33 (.tmp 6) (.tmp 53) rfl (w.heap.size + 1) (tbA t ar) rfl rfl 33 (#[.int .i64 0, .int .i64 0, .int .i64 0, .int .i64 0, .int .i64 0, .int .i64 0, .int .i64 0, .int .i64 0, .int .i64 0, .int .i64 0, .int .i64 0, .int .i64 0, .int .i64 0, .int .i64 0, .int .i64 0, .slice none 0 0, .slice none 0 0, .slice none 0 0, .slice none 0 0]) HR.out (by kernel_rfl) rfl (by simp [Value.oneCell']) ?_) | fail)
      exact bodyPost_ret (v := .tuple #[tbV { t with ss := S } ar, .bool true]) (res_sev HRF.out rfl rfl rfl) rfl ⟨{ t with ss := S }, ar, Or.inr ⟨rfl, Or.inr ⟨HYES.out, by rw [HEV.out], rfl⟩, below_setRow HB.out (Nat.le_succ _) _, HKF.out, HT.out.1, HT.out.2⟩⟩
    have hlt' : (i : Int) < (ar.sn : Int) := by omega
    have hi15 : i < 16 := by have := HG.out.n2; omega
    obtain ⟨b1, o1, hsa, hbl1, p1⟩ := HK.out.s.1.at i hlt
    rw [hsa] at ko18
    simp only [slX] at p1
    obtain ⟨c0, c1, c2⟩ := sl_cells p1
    obtain ⟨y, HY⟩ : ∃ y, Hid (S.getD i sl0 = y) := ⟨_, rfl⟩
    rw [HY.out] at c0 c1 c2
    obtain ⟨y1, y2, y3⟩ := y
    simp only at c0 c1 c2
    clear p1 hbl1 hsa
    by_cases hp : y1 = x
    rotate_left
    · have hpb : (y1 == x) = false := by simp [hp]
      have HS' : Hid (S = evF t x f (i + 1)) := by
        have e := HS.out
        show _ = _
        rw [evF_no (fun c => hp (by have h := c.1; rw [← e, HY.out] at h; exact h))]
        exact e
      clear hp
      go_wp2_with fail
      go_roundw
      case rel => exact ⟨i + 1, S, ar, lo, hi, by omega, by first | rfl | go_num, HS'.out, HB.out, HR.out, HO.out, HK.out, HT.out, HRG.out⟩
      case measure => simp [intOf]; omega
    have hpb : (y1 == x) = true := by simp [hp]
    go_wp2_with (first | (refine wpList_load_row rfl 33 (.tmp 8) rfl O rfl 33 (tbA t ar) (0, 0) _ HO.out Tryz.underlying33 rfl (by kernel_rfl) ?_) | fail)
    refine Calls.mono (spec_split_any { t with ss := S } ar (i : Int) f wr HK.out.tm HT.out.1 HT.out.2 HF.out) ?_
    rintro e w5 ⟨R5, ar5, q5, rfl, hA, hb5, hkt5, htw5, hts5⟩
    have hzw := HRG.out
    have HOL : Hid (O < wr.heap.size) := (Array.getElem?_eq_some_iff.1 HO.out).1
    have HN : Hid ((w5.alloc (.cells #[.int .i64 0, .int .i64 0, .int .i64 0, .int .i64 0, .int .i64 0, .int .i64 0, .int .i64 0, .int .i64 0, .int .i64 0, .int .i64 0, .int .i64 0, .int .i64 0, .int .i64 0, .int .i64 0, .int .i64 0, .slice none 0 0, .slice none 0 0, .slice none 0 0, .slice none 0 0] 33)).heap[w5.heap.size]? = some (.cells #[.int .i64 0, .int .i64 0, .int .i64 0, .int .i64 0, .int .i64 0, .int .i64 0, .int .i64 0, .int .i64 0, .int .i64 0, .int .i64 0, .int .i64 0, .int .i64 0, .int .i64 0, .int .i64 0, .int .i64 0, .slice none 0 0, .slice none 0 0, .slice none 0 0, .slice none 0 0] 33 (0, 0))) := new_row w5 _ _ _ rfl
    have hbV : Below w5.heap.size w5 ((w5.alloc (.cells #[.int .i64 0, .int .i64 0, .int .i64 0, .int .i64 0, .int .i64 0, .int .i64 0, .int .i64 0, .int .i64 0, .int .i64 0, .int .i64 0, .int .i64 0, .int .i64 0, .int .i64 0, .int .i64 0, .int .i64 0, .slice none 0 0, .slice none 0 0, .slice none 0 0, .slice none 0 0] 33)).setRow w5.heap.size (tbA R5 ar5)) := below_setRow ((Below.refl _ _).alloc (Nat.le_refl _) _) (Nat.le_refl _) _
    have hb6 : Below wr.heap.size wr ((w5.alloc (.cells #[.int .i64 0, .int .i64 0, .int .i64 0, .int .i64 0, .int .i64 0, .int .i64 0, .int .i64 0, .int .i64 0, .int .i64 0, .int .i64 0, .int .i64 0, .int .i64 0, .int .i64 0, .int .i64 0, .int .i64 0, .slice none 0 0, .slice none 0 0, .slice none 0 0, .slice none 0 0] 33)).setRow w5.heap.size (tbA R5 ar5)) := hb5.trans (hbV.mono hb5.size)
    have HB6 : Hid (Below w.heap.size w ((w5.alloc (.cells #[.int .i64 0, .int .i64 0, .int .i64 0, .int .i64 0, .int .i64 0, .int .i64 0, .int .i64 0, .int .i64 0, .int .i64 0, .int .i64 0, .int .i64 0, .int .i64 0, .int .i64 0, .int .i64 0, .int .i64 0, .slice none 0 0, .slice none 0 0, .slice none 0 0, .slice none 0 0] 33)).setRow w5.heap.size (tbA R5 ar5))) := HB.out.trans (hb6.mono HB.out.size)
    have HR6 : Hid (((w5.alloc (.cells #[.int .i64 0, .int .i64 0, .int .i64 0, .int .i64 0, .int .i64 0, .int .i64 0, .int .i64 0, .int .i64 0, .int .i64 0, .int .i64 0, .int .i64 0, .int .i64 0, .int .i64 0, .int .i64 0, .int .i64 0, .slice none 0 0, .slice none 0 0, .slice none 0 0, .slice none 0 0] 33)).setRow w5.heap.size (tbA R5 ar5)).heap[w.heap.size + 1]? = some (.cells #[.int .i64 0, .int .i64 0, .int .i64 0, .int .i64 0, .int .i64 0, .int .i64 0, .int .i64 0, .int .i64 0, .int .i64 0, .int .i64 0, .int .i64 0, .int .i64 0, .int .i64 0, .int .i64 0, .int .i64 0, .slice none 0 0, .slice none 0 0, .slice none 0 0, .slice none 0 0] 33 (0, 0))) := row_below HR.out hb6
    have HO6 : Hid (TBx ((w5.alloc (.cells #[.int .i64 0, .int .i64 0, .int .i64 0, .int .i64 0, .int .i64 0, .int .i64 0, .int .i64 0, .int .i64 0, .int .i64 0, .int .i64 0, .int .i64 0, .int .i64 0, .int .i64 0, .int .i64 0, .int .i64 0, .slice none 0 0, .slice none 0 0, .slice none 0 0, .slice none 0 0] 33)).setRow w5.heap.size (tbA R5 ar5)) O { t with ss := S } ar) := HO.out.below hb6
    have HV6 : Hid (((w5.alloc (.cells #[.int .i64 0, .int .i64 0, .int .i64 0, .int .i64 0, .int .i64 0, .int .i64 0, .int .i64 0, .int .i64 0, .int .i64 0, .int .i64 0, .int .i64 0, .int .i64 0, .int .i64 0, .int .i64 0, .int .i64 0, .slice none 0 0, .slice none 0 0, .slice none 0 0, .slice none 0 0] 33)).setRow w5.heap.size (tbA R5 ar5)).heap[w5.heap.size]? = some (.cells (tbA R5 ar5) 33 (0, 0))) := setRow_heap _ _ _ _ _ _ HN.out
    have hc : CanS { t with ss := S } (i : Int) f ↔ CutP t S i f := by
      refine ⟨fun h => ⟨by omega, h.2.2.1, h.2.2.2.1, by have := h.2.2.2.2; rw [Int.toNat_natCast] at this; exact this⟩, fun h => ⟨sd_slotsP HSD.out HG.out, ⟨by omega, by have := h.1; show (i : Int) < (S.length : Int); omega⟩, h.2.1, h.2.2.1, by rw [Int.toNat_natCast]; exact h.2.2.2⟩⟩
    rcases hA with ⟨hno, rfl, rfl⟩ | ⟨hyes, rfl, rfl⟩
    · have HS' : Hid (S = evF t x f (i + 1)) := by
        have e := HS.out
        show _ = _
        rw [evF_no (fun c => hno (hc.2 (by rw [e]; exact c.2)))]
        exact e
      have HK6 : Hid (KT lo hi ((w5.alloc (.cells #[.int .i64 0, .int .i64 0, .int .i64 0, .int .i64 0, .int .i64 0, .int .i64 0, .int .i64 0, .int .i64 0, .int .i64 0, .int .i64 0, .int .i64 0, .int .i64 0, .int .i64 0, .int .i64 0, .int .i64 0, .slice none 0 0, .slice none 0 0, .slice none 0 0, .slice none 0 0] 33)).setRow w5.heap.size (tbA tz ar5)) { t with ss := S } ar) := HK.out.low hb6 hzw.2.2
      have HG6 : Hid ((hi ≤ O ∨ O < lo) ∧ w.heap.size + 1 < lo ∧ hi ≤ ((w5.alloc (.cells #[.int .i64 0, .int .i64 0, .int .i64 0, .int .i64 0, .int .i64 0, .int .i64 0, .int .i64 0, .int .i64 0, .int .i64 0, .int .i64 0, .int .i64 0, .int .i64 0, .int .i64 0, .int .i64 0, .int .i64 0, .slice none 0 0, .slice none 0 0, .slice none 0 0, .slice none 0 0] 33)).setRow w5.heap.size (tbA tz ar5)).heap.size) := ⟨hzw.1, hzw.2.1, Nat.le_trans hzw.2.2 hb6.size⟩
      clear hno hc hkt5 htw5 hts5 hb5 hb6 hbV hzw HK HRG HB HR HO
      go_wp2_with (first | (refine wpList_store_row rfl 33 (.tmp 10) (.tmp 49) rfl w5.heap.size (tbA tz ar5) rfl rfl 33 (#[.int .i64 0, .int .i64 0, .int .i64 0, .int .i64 0, .int .i64 0, .int .i64 0, .int .i64 0, .int .i64 0, .int .i64 0, .int .i64 0, .int .i64 0, .int .i64 0, .int .i64 0, .int .i64 0, .int .i64 0, .slice none 0 0, .slice none 0 0, .slice none 0 0, .slice none 0 0]) HN.out (by kernel_rfl) rfl (by simp [Value.oneCell']) ?_) | fail)
      clear HN
      go_roundw
      case rel => exact ⟨i + 1, S, ar, lo, hi, by omega, by first | rfl | go_num, HS'.out, HB6.out, HR6.out, HO6.out, HK6.out, HT.out, HG6.out⟩
      case measure => simp [intOf]; omega
    · have HS' : Hid (splL S i f = evF t x f (i + 1)) := by
        have e := HS.out
        have h1 : ((evF t x f i).getD i sl0).1 = x := by rw [← e, HY.out]; exact hp
        show _ = _
        rw [evF_yes h1 (by rw [← e]; exact hc.1 hyes), ← e]
      rw [Int.toNat_natCast] at *
      have HK6 : Hid (KT wr.heap.size w5.heap.size (((w5.alloc (.cells #[.int .i64 0, .int .i64 0, .int .i64 0, .int .i64 0, .int .i64 0, .int .i64 0, .int .i64 0, .int .i64 0, .int .i64 0, .int .i64 0, .int .i64 0, .int .i64 0, .int .i64 0, .int .i64 0, .int .i64 0, .slice none 0 0, .slice none 0 0, .slice none 0 0, .slice none 0 0] 33)).setRow w5.heap.size (tbA t ar5)).setRow O (tbA t ar5)) { t with ss := splL S i f } ar5) := (hkt5.low hbV (Nat.le_refl _)).setRow (Or.inl HOL.out)
      have HT6 : Hid (TW { t with ss := splL S i f } ar5 ∧ TS ar5) := ⟨htw5, hts5⟩
      have HB7 : Hid (Below w.heap.size w (((w5.alloc (.cells #[.int .i64 0, .int .i64 0, .int .i64 0, .int .i64 0, .int .i64 0, .int .i64 0, .int .i64 0, .int .i64 0, .int .i64 0, .int .i64 0, .int .i64 0, .int .i64 0, .int .i64 0, .int .i64 0, .int .i64 0, .slice none 0 0, .slice none 0 0, .slice none 0 0, .slice none 0 0] 33)).setRow w5.heap.size (tbA t ar5)).setRow O (tbA t ar5))) := below_setRow HB6.out (by have := HOZ.out; omega) _
      have HR7 : Hid ((((w5.alloc (.cells #[.int .i64 0, .int .i64 0, .int .i64 0, .int .i64 0, .int .i64 0, .int .i64 0, .int .i64 0, .int .i64 0, .int .i64 0, .int .i64 0, .int .i64 0, .int .i64 0, .int .i64 0, .int .i64 0, .int .i64 0, .slice none 0 0, .slice none 0 0, .slice none 0 0, .slice none 0 0] 33)).setRow w5.heap.size (tbA t ar5)).setRow O (tbA t ar5)).heap[w.heap.size + 1]? = some (.cells #[.int .i64 0, .int .i64 0, .int .i64 0, .int .i64 0, .int .i64 0, .int .i64 0, .int .i64 0, .int .i64 0, .int .i64 0, .int .i64 0, .int .i64 0, .int .i64 0, .int .i64 0, .int .i64 0, .int .i64 0, .slice none 0 0, .slice none 0 0, .slice none 0 0, .slice none 0 0] 33 (0, 0))) := (setRow_other _ _ _ _ (by have := HOZ.out; omega)).trans HR6.out
      have HO7 : Hid (TBx (((w5.alloc (.cells #[.int .i64 0, .int .i64 0, .int .i64 0, .int .i64 0, .int .i64 0, .int .i64 0, .int .i64 0, .int .i64 0, .int .i64 0, .int .i64 0, .int .i64 0, .int .i64 0, .int .i64 0, .int .i64 0, .int .i64 0, .slice none 0 0, .slice none 0 0, .slice none 0 0, .slice none 0 0] 33)).setRow w5.heap.size (tbA t ar5)).setRow O (tbA t ar5)) O { t with ss := splL S i f } ar5) := setRow_heap _ _ _ _ _ _ HO6.out
      have HG7 : Hid ((w5.heap.size ≤ O ∨ O < wr.heap.size) ∧ w.heap.size + 1 < wr.heap.size ∧ w5.heap.size ≤ (((w5.alloc (.cells #[.int .i64 0, .int .i64 0, .int .i64 0, .int .i64 0, .int .i64 0, .int .i64 0, .int .i64 0, .int .i64 0, .int .i64 0, .int .i64 0, .int .i64 0, .int .i64 0, .int .i64 0, .int .i64 0, .int .i64 0, .slice none 0 0, .slice none 0 0, .slice none 0 0, .slice none 0 0] 33)).setRow w5.heap.size (tbA t ar5)).setRow O (tbA t ar5)).heap.size) := by
        have h1 := HOL.out
        have h2 := HOZ.out
        have h3 := hbV.size
        refine ⟨Or.inr h1, by omega, ?_⟩
        simp only [World.setRow, Array.size_modify] at h3 ⊢
        exact h3
      clear hyes hc hkt5 htw5 hts5 hb5 hb6 hbV hzw HK HRG HB HR HO HB6 HR6
      go_wp2_with (first | (refine wpList_store_row rfl 33 (.tmp 10) (.tmp 49) rfl w5.heap.size (tbA t ar5) rfl rfl 33 (#[.int .i64 0, .int .i64 0, .int .i64 0, .int .i64 0, .int .i64 0, .int .i64 0, .int .i64 0, .int .i64 0, .int .i64 0, .int .i64 0, .int .i64 0, .int .i64 0, .int .i64 0, .int .i64 0, .int .i64 0, .slice none 0 0, .slice none 0 0, .slice none 0 0, .slice none 0 0]) HN.out (by kernel_rfl) rfl (by simp [Value.oneCell']) ?_) | (refine wpList_load_row rfl 33 (.tmp 10) rfl w5.heap.size rfl 33 (tbA t ar5) (0, 0) _ HV6.out Tryz.underlying33 rfl (by kernel_rfl) ?_) | (refine wpList_store_row rfl 33 (.tmp 8) (.tmp 52) rfl O (tbA t ar5) rfl rfl 33 (tbA t ar) HO6.out (by kernel_rfl) rfl (by simp [Value.oneCell']) ?_) | fail)
      go_roundw
      case rel => exact ⟨i + 1, splL S i f, ar5, wr.heap.size, w5.heap.size, by omega, by first | rfl | go_num, HS'.out, HB7.out, HR7.out, HO7.out, HK6.out, HT6.out, HG7.out⟩
      case measure => simp [intOf]; omega
end Go.Proofs.YtlomcdgfcocmmaaGreatDoor
namespace Go.Proofs.YtlomcdgfcocmmaaGreatDoor
open Go.ChangeShapes Go.WideShapes Go.ChangeAt Go.RowKit Go.Deep Go.Joins
set_option linter.unusedVariables false

theorem res_iev {W : World} {B : Nat} {cs : Array Value} {b : Bool} {tmps : Array Value} (h : W.heap[B]? = some (.cells cs 33 (0, 0))) (hl : cs.size = 19) (ht : tmps[6]? = some (.pointer (some ⟨B, 0, none⟩))) (hq : tmps[7]? = some (.bool b)) : (results Tryz.f18 tmps).run Tryz.prog W = .ok (.tuple #[.agg cs, .bool b]) W := by
  have hld : (loadVar 33 ⟨B, 0, none⟩).run Tryz.prog W = .ok (.agg cs) W := run_loadVar_row (P := Tryz.prog) W B 33 33 cs (0, 0) _ h Tryz.underlying33 rfl (by rw [hl]; kernel_rfl)
  unfold results
  rw [Tryz.results18]
  simp [ht, hq, asAddr, hld]
/-- Slots that lie apart from two blocks. -/
def SFe (B : Nat) (w : World) (A : Option Addr) (n : Nat) (S : List slT) : Prop := GSeg 3 w A n (slX S) ∧ ∀ b o, 0 < n → A = some ⟨b, o, none⟩ → b < B ∨ B + 1 < b
theorem SFe.below {B n : Nat} {w w' : World} {A : Option Addr} {S : List slT} (h : SFe B w A n S) (hb : Below w.heap.size w w') : SFe B w' A n S := ⟨h.1.below hb, h.2⟩
theorem sf_first {B n : Nat} {w w' : World} {A : Option Addr} {S : List slT} (h : GSeg 3 w A n (slX S)) (hb : Below w.heap.size w w') (hB : B = w.heap.size) : SFe B w' A n S := ⟨h.below hb, fun b o h0 e => by
  obtain ⟨b', o', e', hlt, _⟩ := h h0
  rw [e] at e'
  injection e' with e'
  injection e' with e1 _
  omega⟩
theorem sf_new {B lo n : Nat} {w : World} {A : Option Addr} {S : List slT} (cs : Array Value) (h : GSegL 3 lo w A n (slX S)) (hB : B + 1 < lo) : SFe B (w.setRow B cs) A n S := ⟨(h.setRow cs (by omega)).seg, fun b o h0 e => by
  obtain ⟨b', o', e', hlt, _⟩ := h h0
  rw [e] at e'
  injection e' with e'
  injection e' with e1 _
  omega⟩
set_option maxRecDepth 40000 in
set_option maxHeartbeats 16000000 in
theorem impl_even (t : Tb) (a : Ad) (x f : Int) (w : World) (hm : TM 0 w t a) (hw : TW t a) (hs : TS a) (he : TabE w) (hcp : a.pn ≤ a.pc) (hcs : a.sn ≤ a.sc) (hf : -9223372036854775808 ≤ f ∧ f ≤ 9223372036854775807) :
    Calls Tryz.prog 18 #[tbV t a, .int .i64 x, .int .i64 f] w fun e w' => ∃ R ar q, e = .returned (.tuple #[tbV R ar, .bool q]) ∧ EvA t x f R q ∧ Below w.heap.size w w' ∧ OTR w.heap.size w' R ar := by
  obtain ⟨q, hq⟩ := told (Sd t)
  have HB : Hid (Below w.heap.size w ((w.alloc (.cells (tbA t a) 33)).alloc (.cells #[.int .i64 0, .int .i64 0, .int .i64 0, .int .i64 0, .int .i64 0, .int .i64 0, .int .i64 0, .int .i64 0, .int .i64 0, .int .i64 0, .int .i64 0, .int .i64 0, .int .i64 0, .int .i64 0, .int .i64 0, .slice none 0 0, .slice none 0 0, .slice none 0 0, .slice none 0 0] 33))) := ((Below.refl _ _).alloc (Nat.le_refl _) _).alloc (by simp) _
  have HX : Hid (TBx ((w.alloc (.cells (tbA t a) 33)).alloc (.cells #[.int .i64 0, .int .i64 0, .int .i64 0, .int .i64 0, .int .i64 0, .int .i64 0, .int .i64 0, .int .i64 0, .int .i64 0, .int .i64 0, .int .i64 0, .int .i64 0, .int .i64 0, .int .i64 0, .int .i64 0, .slice none 0 0, .slice none 0 0, .slice none 0 0, .slice none 0 0] 33)) w.heap.size t a) := (TBx.new w t a _ rfl).below ((Below.refl _ _).alloc (Nat.le_refl _) _)
  have HR : Hid (((w.alloc (.cells (tbA t a) 33)).alloc (.cells #[.int .i64 0, .int .i64 0, .int .i64 0, .int .i64 0, .int .i64 0, .int .i64 0, .int .i64 0, .int .i64 0, .int .i64 0, .int .i64 0, .int .i64 0, .int .i64 0, .int .i64 0, .int .i64 0, .int .i64 0, .slice none 0 0, .slice none 0 0, .slice none 0 0, .slice none 0 0] 33)).heap[w.heap.size + 1]? = some (.cells #[.int .i64 0, .int .i64 0, .int .i64 0, .int .i64 0, .int .i64 0, .int .i64 0, .int .i64 0, .int .i64 0, .int .i64 0, .int .i64 0, .int .i64 0, .int .i64 0, .int .i64 0, .int .i64 0, .int .i64 0, .slice none 0 0, .slice none 0 0, .slice none 0 0, .slice none 0 0] 33 (0, 0))) := new_row (w.alloc (.cells (tbA t a) 33)) _ _ _ (by simp)
  have HS : Hid (∀ X, Below w.heap.size w X → Calls Tryz.prog 13 #[tbV t a] X fun e w' => e = .returned (.bool q) ∧ Below X.heap.size X w') := fun X hX => impl_sound t a q X (hm.below hX) hw hs (he.below hX) hcp hq
  have HMW : Hid (∀ X, Below w.heap.size w X → TM 0 X t a) := fun X hX => hm.below hX
  have HSF0 : Hid (∀ X, Below w.heap.size w X → SFe w.heap.size X a.sa a.sn t.ss) := fun X hX => sf_first hm.s.seg hX rfl
  have HC : Hid (TW t a ∧ TS a ∧ a.sn ≤ a.sc) := ⟨hw, hs, hcs⟩
  have HQ : Hid (q = true ↔ Sd t) := hq
  have HF : Hid (-9223372036854775808 ≤ f ∧ f ≤ 9223372036854775807) := hf
  clear hq hm hw hs he hcp hcs hf
  go_enter Tryz.func18, Tryz.ntmps18
  go_wp2_with (first | (refine wpList_load_row rfl 33 (.tmp 3) rfl w.heap.size rfl 33 (tbA t a) (0, 0) _ HX.out Tryz.underlying33 rfl (by kernel_rfl) ?_) | (refine wpList_load_row_w (by rfl) 33 (.tmp 3) rfl w.heap.size rfl 33 (tbA t a) (0, 0) _ HX.out Tryz.underlying33 rfl (by kernel_rfl) ?_) | fail)
  revert HB HX HR
  generalize ((w.alloc (.cells (tbA t a) 33)).alloc (.cells #[.int .i64 0, .int .i64 0, .int .i64 0, .int .i64 0, .int .i64 0, .int .i64 0, .int .i64 0, .int .i64 0, .int .i64 0, .int .i64 0, .int .i64 0, .int .i64 0, .int .i64 0, .int .i64 0, .int .i64 0, .slice none 0 0, .slice none 0 0, .slice none 0 0, .slice none 0 0] 33)) = WA
  intro HB HX HR
  refine Calls.mono (HS.out _ HB.out) ?_
  rintro e w9 ⟨rfl, hb9⟩
  replace HR : Hid (w9.heap[w.heap.size + 1]? = some (.cells #[.int .i64 0, .int .i64 0, .int .i64 0, .int .i64 0, .int .i64 0, .int .i64 0, .int .i64 0, .int .i64 0, .int .i64 0, .int .i64 0, .int .i64 0, .int .i64 0, .int .i64 0, .int .i64 0, .int .i64 0, .slice none 0 0, .slice none 0 0, .slice none 0 0, .slice none 0 0] 33 (0, 0))) := row_below HR.out hb9
  replace HX : Hid (TBx w9 w.heap.size t a) := HX.out.below hb9
  replace HB : Hid (Below w.heap.size w w9) := HB.out.trans (hb9.mono HB.out.size)
  clear hb9
  cases q
  · have HNO : Hid (¬ (Sd t ∧ 0 ≤ x ∧ x < (t.ps.length : Int))) := fun h => absurd (HQ.out.2 h.1) (by simp)
    clear HS HC HMW HSF0 HF
    go_wp2_with (first | (refine wpList_load_row rfl 33 (.tmp 3) rfl w.heap.size rfl 33 (tbA t a) (0, 0) _ HX.out Tryz.underlying33 rfl (by kernel_rfl) ?_) | (refine wpList_load_row_w (by rfl) 33 (.tmp 3) rfl w.heap.size rfl 33 (tbA t a) (0, 0) _ HX.out Tryz.underlying33 rfl (by kernel_rfl) ?_) | (refine wpList_store_row rfl 33 (.tmp 6) (.tmp 18) rfl (w.heap.size + 1) (#[.int .i64 0, .int .i64 0, .int .i64 0, .int .i64 0, .int .i64 0, .int .i64 0, .int .i64 0, .int .i64 0, .int .i64 0, .int .i64 0, .int .i64 0, .int .i64 0, .int .i64 0, .int .i64 0, .int .i64 0, .slice none 0 0, .slice none 0 0, .slice none 0 0, .slice none 0 0]) rfl rfl 33 (#[.int .i64 0, .int .i64 0, .int .i64 0, .int .i64 0, .int .i64 0, .int .i64 0, .int .i64 0, .int .i64 0, .int .i64 0, .int .i64 0, .int .i64 0, .int .i64 0, .int .i64 0, .int .i64 0, .int .i64 0, .slice none 0 0, .slice none 0 0, .slice none 0 0, .slice none 0 0]) HR.out (by kernel_rfl) rfl (by simp [Value.oneCell']) ?_) | fail)
    refine bodyPost_ret (v := .tuple #[tbV tz az, .bool false]) (res_iev (setRow_heap _ _ _ _ _ _ HR.out) rfl rfl rfl) rfl ⟨tz, az, false, rfl, Or.inl ⟨HNO.out, rfl, rfl⟩, below_setRow HB.out (Nat.le_succ _) _, otr_zero (by show w.heap.size ≤ (World.setRow _ _ _).heap.size; have := HB.out.size; simpa using this)⟩
  have HSD : Hid (Sd t) := HQ.out.1 rfl
  obtain ⟨q2, hq2⟩ := told (0 ≤ x ∧ x < (a.pn : Int))
  have HQ2 : Hid (q2 = true ↔ (0 ≤ x ∧ x < (a.pn : Int))) := hq2
  clear hq2 HQ HS
  go_wp2_with (first | (refine wpList_load_row rfl 33 (.tmp 3) rfl w.heap.size rfl 33 (tbA t a) (0, 0) _ HX.out Tryz.underlying33 rfl (by kernel_rfl) ?_) | (refine wpList_load_row_w (by rfl) 33 (.tmp 3) rfl w.heap.size rfl 33 (tbA t a) (0, 0) _ HX.out Tryz.underlying33 rfl (by kernel_rfl) ?_) | fail)
  refine Calls.mono (has_part t a x q2 _ HC.out.1.pb HQ2.out) ?_
  rintro e w9b ⟨rfl, hb9⟩
  replace HR : Hid (w9b.heap[w.heap.size + 1]? = some (.cells #[.int .i64 0, .int .i64 0, .int .i64 0, .int .i64 0, .int .i64 0, .int .i64 0, .int .i64 0, .int .i64 0, .int .i64 0, .int .i64 0, .int .i64 0, .int .i64 0, .int .i64 0, .int .i64 0, .int .i64 0, .slice none 0 0, .slice none 0 0, .slice none 0 0, .slice none 0 0] 33 (0, 0))) := row_below HR.out hb9
  replace HX : Hid (TBx w9b w.heap.size t a) := HX.out.below hb9
  replace HB : Hid (Below w.heap.size w w9b) := HB.out.trans (hb9.mono HB.out.size)
  clear hb9
  cases q2
  · have HNO : Hid (¬ (Sd t ∧ 0 ≤ x ∧ x < (t.ps.length : Int))) := fun h => absurd (HQ2.out.2 (by have := h.2; rw [HC.out.1.pl] at this; exact this)) (by simp)
    clear HC HMW HSF0 HF
    go_wp2_with (first | (refine wpList_load_row rfl 33 (.tmp 3) rfl w.heap.size rfl 33 (tbA t a) (0, 0) _ HX.out Tryz.underlying33 rfl (by kernel_rfl) ?_) | (refine wpList_load_row_w (by rfl) 33 (.tmp 3) rfl w.heap.size rfl 33 (tbA t a) (0, 0) _ HX.out Tryz.underlying33 rfl (by kernel_rfl) ?_) | (refine wpList_store_row rfl 33 (.tmp 6) (.tmp 18) rfl (w.heap.size + 1) (#[.int .i64 0, .int .i64 0, .int .i64 0, .int .i64 0, .int .i64 0, .int .i64 0, .int .i64 0, .int .i64 0, .int .i64 0, .int .i64 0, .int .i64 0, .int .i64 0, .int .i64 0, .int .i64 0, .int .i64 0, .slice none 0 0, .slice none 0 0, .slice none 0 0, .slice none 0 0]) rfl rfl 33 (#[.int .i64 0, .int .i64 0, .int .i64 0, .int .i64 0, .int .i64 0, .int .i64 0, .int .i64 0, .int .i64 0, .int .i64 0, .int .i64 0, .int .i64 0, .int .i64 0, .int .i64 0, .int .i64 0, .int .i64 0, .slice none 0 0, .slice none 0 0, .slice none 0 0, .slice none 0 0]) HR.out (by kernel_rfl) rfl (by simp [Value.oneCell']) ?_) | fail)
    refine bodyPost_ret (v := .tuple #[tbV tz az, .bool false]) (res_iev (setRow_heap _ _ _ _ _ _ HR.out) rfl rfl rfl) rfl ⟨tz, az, false, rfl, Or.inl ⟨HNO.out, rfl, rfl⟩, below_setRow HB.out (Nat.le_succ _) _, otr_zero (by show w.heap.size ≤ (World.setRow _ _ _).heap.size; have := HB.out.size; simpa using this)⟩
  have HYES : Hid (Sd t ∧ 0 ≤ x ∧ x < (t.ps.length : Int)) := ⟨HSD.out, by rw [HC.out.1.pl]; exact HQ2.out.1 rfl⟩
  have HLN0 : Hid (t.ss.length = a.sn ∧ a.sn ≤ a.sc) := ⟨HC.out.1.sl, HC.out.2.2⟩
  have HSFX : Hid (SFe w.heap.size w9b a.sa a.sn t.ss) := HSF0.out _ HB.out
  clear HQ2 HSF0
  go_wp2_with fail
  go_loopw [19] (fun vi wr => ∃ (i : Nat) (S : List slT) (A : Option Addr) (n c : Nat), i ≤ 16 ∧ vi = .int .i64 (i : Int) ∧ Hid (S = evF t x f i) ∧ Hid (Below w.heap.size w wr) ∧ Hid (wr.heap[w.heap.size + 1]? = some (.cells #[.int .i64 0, .int .i64 0, .int .i64 0, .int .i64 0, .int .i64 0, .int .i64 0, .int .i64 0, .int .i64 0, .int .i64 0, .int .i64 0, .int .i64 0, .int .i64 0, .int .i64 0, .int .i64 0, .int .i64 0, .slice none 0 0, .slice none 0 0, .slice none 0 0, .slice none 0 0] 33 (0, 0))) ∧ Hid (TBx wr w.heap.size { t with ss := S } { a with sa := A, sn := n, sc := c }) ∧ Hid (SFe w.heap.size wr A n S) ∧ Hid (S.length = n ∧ n ≤ c)) (fun vi _ => 16 - (intOf vi).toNat)
  case atStart => exact ⟨0, t.ss, a.sa, a.sn, a.sc, by omega, rfl, rfl, HB.out, HR.out, HX.out, HSFX.out, HLN0.out⟩
  case round =>
    clear HB HR HX HSFX HLN0
    obtain ⟨i, S, A, n, c, hi16, rfl, HS, HB, HR, HX, HSF, HLN⟩ := hrel
    have HG : Hid (SlG t S) := by
      have h := evF_ok HSD.out x f i
      rw [← HS.out] at h
      exact h
    have HSX : Hid (Sd { t with ss := S }) := sd_slotsP HSD.out HG.out
    have HMX : Hid (TM 0 wr { t with ss := S } { a with sa := A, sn := n, sc := c }) := ⟨(HMW.out _ HB.out).p, (HMW.out _ HB.out).d, (HMW.out _ HB.out).c, HSF.out.1.low⟩
    have HN16 : Hid (n ≤ 16) := by have := HG.out.n2; have := HLN.out.1; show _ ≤ _; omega
    have HTX : Hid (TW { t with ss := S } { a with sa := A, sn := n, sc := c }) := by
      have h := HC.out.1
      have hz := HN16.out
      have ht := sd_tm HSX.out
      have hl := HLN.out.1
      refine ⟨h.pl, h.dl, h.cl, hl, h.pb, h.db, h.cb, by show n ≤ _; omega, h.wb, h.wf, fun j hj => ?_⟩
      have hj2 : j < S.length := by have hj3 : j < n := hj; omega
      have h1 := ht.st j hj2
      have h2 := ht.en j hj2
      have h3 := ht.ln j hj2
      have h4 := ht.maj2
      have h5 := ht.pad1
      have h6 := ht.grd1
      simp only at h1 h2 h3 h4 h5 h6 ⊢
      exact ⟨by omega, by omega⟩
    have HSS : Hid (TS { a with sa := A, sn := n, sc := c }) := ⟨HC.out.2.1.p, HC.out.2.1.d, HC.out.2.1.c, by have := HN16.out; show n ≤ _; omega, HC.out.2.1.w⟩
    by_cases hlt : i < 16
    rotate_left
    · have hni : ¬ ((i : Int) < (16 : Int)) := by omega
      obtain rfl : i = 16 := by omega
      go_wp2_with (first | (refine wpList_load_row rfl 33 (.tmp 3) rfl w.heap.size rfl 33 (tbA t { a with sa := A, sn := n, sc := c }) (0, 0) _ HX.out Tryz.underlying33 rfl (by kernel_rfl) ?_) | (refine wpList_load_row_w (by rfl) 33 (.tmp 3) rfl w.heap.size rfl 33 (tbA t { a with sa := A, sn := n, sc := c }) (0, 0) _ HX.out Tryz.underlying33 rfl (by kernel_rfl) ?_) | fail)
      refine Calls.mono (impl_cptab { t with ss := S } { a with sa := A, sn := n, sc := c } wr HMX.out HTX.out HSS.out) ?_
      rintro e w5 ⟨a5, rfl, hb5, ho5, _⟩
      have HR5 : Hid (w5.heap[w.heap.size + 1]? = some (.cells #[.int .i64 0, .int .i64 0, .int .i64 0, .int .i64 0, .int .i64 0, .int .i64 0, .int .i64 0, .int .i64 0, .int .i64 0, .int .i64 0, .int .i64 0, .int .i64 0, .int .i64 0, .int .i64 0, .int .i64 0, .slice none 0 0, .slice none 0 0, .slice none 0 0, .slice none 0 0] 33 (0, 0))) := row_below HR.out hb5
      have HB5 : Hid (Below w.heap.size w w5) := HB.out.trans (hb5.mono HB.out.size)
      have HRF : Hid ((w5.setRow (w.heap.size + 1) (tbA t a5)).heap[w.heap.size + 1]? = some (.cells (tbA t a5) 33 (0, 0))) := setRow_heap _ _ _ _ _ _ HR5.out
      have HBF : Hid (Below w.heap.size w (w5.setRow (w.heap.size + 1) (tbA t a5))) := below_setRow HB5.out (Nat.le_succ _) _
      have hlt2 : w.heap.size + 1 < wr.heap.size := (Array.getElem?_eq_some_iff.1 HR.out).1
      have HOF : Hid (OTR w.heap.size (w5.setRow (w.heap.size + 1) (tbA t a5)) { t with ss := S } a5) := by
        have h := ho5.setRow (cs := tbA t a5) hlt2
        exact ⟨h.m, h.o.wide (Nat.le_of_lt (Nat.lt_of_succ_lt hlt2)) (Nat.le_refl _), h.w, h.s, h.cp, h.cs⟩
      clear hb5 ho5 HMX HTX HSS HX HSF HB HB5 hlt2 HSX HG
      go_wp2_with (first | (refine wpList_store_row rfl 33 (.tmp 6) (.tmp 47) rfl (w.heap.size + 1) (tbA t a5) rfl rfl 33 (#[.int .i64 0, .int .i64 0, .int .i64 0, .int .i64 0, .int .i64 0, .int .i64 0, .int .i64 0, .int .i64 0, .int .i64 0, .int .i64 0, .int .i64 0, .int .i64 0, .int .i64 0, .int .i64 0, .int .i64 0, .slice none 0 0, .slice none 0 0, .slice none 0 0, .slice none 0 0]) HR5.out (by kernel_rfl) rfl (by simp [Value.oneCell']) ?_) | fail)
      exact bodyPost_ret (v := .tuple #[tbV { t with ss := S } a5, .bool true]) (res_iev HRF.out rfl rfl rfl) rfl ⟨{ t with ss := S }, a5, true, rfl, Or.inr ⟨HYES.out, by rw [HS.out], rfl⟩, HBF.out, HOF.out⟩
    have hlt' : (i : Int) < (16 : Int) := by omega
    obtain ⟨q1, hq1⟩ := told (0 ≤ (i : Int) ∧ (i : Int) < (n : Int))
    have HQ1 : Hid (q1 = true ↔ (0 ≤ (i : Int) ∧ (i : Int) < (n : Int))) := hq1
    clear hq1
    go_wp2_with (first | (refine wpList_load_row rfl 33 (.tmp 3) rfl w.heap.size rfl 33 (tbA t { a with sa := A, sn := n, sc := c }) (0, 0) _ HX.out Tryz.underlying33 rfl (by kernel_rfl) ?_) | (refine wpList_load_row_w (by rfl) 33 (.tmp 3) rfl w.heap.size rfl 33 (tbA t { a with sa := A, sn := n, sc := c }) (0, 0) _ HX.out Tryz.underlying33 rfl (by kernel_rfl) ?_) | fail)
    refine Calls.mono (has_slot { t with ss := S } { a with sa := A, sn := n, sc := c } (i : Int) q1 wr HTX.out.sb HQ1.out) ?_
    rintro e w9c ⟨rfl, hb9⟩
    replace HR : Hid (w9c.heap[w.heap.size + 1]? = some (.cells #[.int .i64 0, .int .i64 0, .int .i64 0, .int .i64 0, .int .i64 0, .int .i64 0, .int .i64 0, .int .i64 0, .int .i64 0, .int .i64 0, .int .i64 0, .int .i64 0, .int .i64 0, .int .i64 0, .int .i64 0, .slice none 0 0, .slice none 0 0, .slice none 0 0, .slice none 0 0] 33 (0, 0))) := row_below HR.out hb9
    replace HX : Hid (TBx w9c w.heap.size { t with ss := S } { a with sa := A, sn := n, sc := c }) := HX.out.below hb9
    replace HSF : Hid (SFe w.heap.size w9c A n S) := HSF.out.below hb9
    replace HMX : Hid (TM 0 w9c { t with ss := S } { a with sa := A, sn := n, sc := c }) := HMX.out.below hb9
    replace HB : Hid (Below w.heap.size w w9c) := HB.out.trans (hb9.mono HB.out.size)
    clear hb9
    cases q1
    · have HS' : Hid (S = evF t x f (i + 1)) := by
        have e := HS.out
        show _ = _
        rw [evF_no (fun g => by have h := g.2.1; rw [← e, HLN.out.1] at h; exact absurd (HQ1.out.2 ⟨by omega, by omega⟩) (by simp))]
        exact e
      clear HQ1 HMX HTX HSS HSX HG
      go_wp2_with fail
      go_roundw
      case rel => exact ⟨i + 1, S, A, n, c, by omega, by first | rfl | go_num, HS'.out, HB.out, HR.out, HX.out, HSF.out, HLN.out⟩
      case measure => simp [intOf]; omega
    have hin : i < n := by have := (HQ1.out.1 rfl).2; omega
    have hin' : (i : Int) < (n : Int) := by omega
    have k18 : w9c.cell? ⟨w.heap.size, 18, none⟩ = some (.slice A n c) := HX.out.cell 18 rfl
    obtain ⟨b1, o1, hsa, hbl1, p1⟩ := HSF.out.1.at i hin
    rw [hsa] at k18
    simp only [slX] at p1
    obtain ⟨c0, _, _⟩ := sl_cells p1
    obtain ⟨y, HY⟩ : ∃ y, Hid ((S.getD i sl0).1 = y) := ⟨_, rfl⟩
    rw [HY.out] at c0
    clear p1 hbl1 HQ1
    by_cases hp : y = x
    rotate_left
    · have hpb : (y == x) = false := by simp [hp]
      have HS' : Hid (S = evF t x f (i + 1)) := by
        have e := HS.out
        show _ = _
        rw [evF_no (fun g => hp (by have h := g.1; rw [← e, HY.out] at h; exact h))]
        exact e
      clear hp hsa HMX HTX HSS HSX HG
      go_wp2_with fail
      go_roundw
      case rel => exact ⟨i + 1, S, A, n, c, by omega, by first | rfl | go_num, HS'.out, HB.out, HR.out, HX.out, HSF.out, HLN.out⟩
      case measure => simp [intOf]; omega
    have hpb : (y == x) = true := by simp [hp]
    have HPX : Hid (y = x) := hp
    have HAB : Hid (A = some ⟨b1, o1, none⟩) := hsa
    have HIN : Hid (i < S.length) := by have := HLN.out.1; show _ < _; omega
    obtain ⟨q3, hq3⟩ := told (CanS { t with ss := S } (i : Int) f)
    have HQ3 : Hid (q3 = true ↔ CanS { t with ss := S } (i : Int) f) := hq3
    have hc : CanS { t with ss := S } (i : Int) f ↔ CutP t S i f := by
      refine ⟨fun h => ⟨HIN.out, h.2.2.1, h.2.2.2.1, by have := h.2.2.2.2; rw [Int.toNat_natCast] at this; exact this⟩, fun h => ⟨HSX.out, ⟨by omega, by have := h.1; show (i : Int) < (S.length : Int); omega⟩, h.2.1, h.2.2.1, by rw [Int.toNat_natCast]; exact h.2.2.2⟩⟩
    have HCC : Hid (CanS { t with ss := S } (i : Int) f ↔ CutP t S i f) := hc
    clear hp hq3 hsa hc
    go_wp2_with (first | (refine wpList_load_row rfl 33 (.tmp 3) rfl w.heap.size rfl 33 (tbA t { a with sa := A, sn := n, sc := c }) (0, 0) _ HX.out Tryz.underlying33 rfl (by kernel_rfl) ?_) | (refine wpList_load_row_w (by rfl) 33 (.tmp 3) rfl w.heap.size rfl 33 (tbA t { a with sa := A, sn := n, sc := c }) (0, 0) _ HX.out Tryz.underlying33 rfl (by kernel_rfl) ?_) | fail)
    refine Calls.mono (can_split { t with ss := S } { a with sa := A, sn := n, sc := c } i f q3 _ HMX.out HTX.out HSX.out HIN.out HF.out HQ3.out) ?_
    rintro e w9d ⟨rfl, hb9⟩
    replace HR : Hid (w9d.heap[w.heap.size + 1]? = some (.cells #[.int .i64 0, .int .i64 0, .int .i64 0, .int .i64 0, .int .i64 0, .int .i64 0, .int .i64 0, .int .i64 0, .int .i64 0, .int .i64 0, .int .i64 0, .int .i64 0, .int .i64 0, .int .i64 0, .int .i64 0, .slice none 0 0, .slice none 0 0, .slice none 0 0, .slice none 0 0] 33 (0, 0))) := row_below HR.out hb9
    replace HX : Hid (TBx w9d w.heap.size { t with ss := S } { a with sa := A, sn := n, sc := c }) := HX.out.below hb9
    replace HSF : Hid (SFe w.heap.size w9d A n S) := HSF.out.below hb9
    replace HMX : Hid (TM 0 w9d { t with ss := S } { a with sa := A, sn := n, sc := c }) := HMX.out.below hb9
    replace HB : Hid (Below w.heap.size w w9d) := HB.out.trans (hb9.mono HB.out.size)
    clear hb9 k18 c0
    cases q3
    · have HS' : Hid (S = evF t x f (i + 1)) := by
        have e := HS.out
        show _ = _
        rw [evF_no (fun g => by have h := g.2; rw [← e] at h; exact absurd (HQ3.out.2 (HCC.out.2 h)) (by simp))]
        exact e
      clear HQ3 HMX HTX HSS HSX HG HCC HPX HAB
      go_wp2_with fail
      go_roundw
      case rel => exact ⟨i + 1, S, A, n, c, by omega, by first | rfl | go_num, HS'.out, HB.out, HR.out, HX.out, HSF.out, HLN.out⟩
      case measure => simp [intOf]; omega
    have HCY : Hid (CanS { t with ss := S } (i : Int) f) := HQ3.out.1 rfl
    have HS' : Hid (splL S i f = evF t x f (i + 1)) := by
      have e := HS.out
      have h1 : ((evF t x f i).getD i sl0).1 = x := by rw [← e, HY.out]; exact HPX.out
      show _ = _
      rw [evF_yes h1 (by rw [← e]; exact HCC.out.1 HCY.out), ← e]
    have HNC : Hid (n ≤ c) := HLN.out.2
    clear HQ3 HCC HPX HAB
    go_wp2_with (first | (refine wpList_load_row rfl 33 (.tmp 3) rfl w.heap.size rfl 33 (tbA t { a with sa := A, sn := n, sc := c }) (0, 0) _ HX.out Tryz.underlying33 rfl (by kernel_rfl) ?_) | (refine wpList_load_row_w (by rfl) 33 (.tmp 3) rfl w.heap.size rfl 33 (tbA t { a with sa := A, sn := n, sc := c }) (0, 0) _ HX.out Tryz.underlying33 rfl (by kernel_rfl) ?_) | fail)
    refine Calls.mono (impl_sp { t with ss := S } { a with sa := A, sn := n, sc := c } i f _ HMX.out HTX.out HSS.out HNC.out HCY.out) ?_
    rintro e w6 ⟨a6, rfl, hb6, hm6, hw6, hs6, hc6, ha6, hg6⟩
    have hx6 := HX.out.below hb6
    have hr6 := row_below HR.out hb6
    have hlt6 : w.heap.size + 1 < w9d.heap.size := (Array.getElem?_eq_some_iff.1 HR.out).1
    obtain ⟨A6, n6, c6, HA6⟩ : ∃ A6 n6 c6, Hid (a6 = { a with sa := A6, sn := n6, sc := c6 }) := ⟨a6.sa, a6.sn, a6.sc, ha6⟩
    clear ha6
    have hl6 : (splL S i f).length = a6.sn := hw6.sl
    rw [HA6.out] at hg6 hl6 hc6 ⊢
    have HB7 : Hid (Below w.heap.size w (w6.setRow w.heap.size (tbA t { a with sa := A6, sn := n6, sc := c6 }))) := below_setRow (HB.out.trans (hb6.mono HB.out.size)) (Nat.le_refl _) _
    have HX7 : Hid (TBx (w6.setRow w.heap.size (tbA t { a with sa := A6, sn := n6, sc := c6 })) w.heap.size { t with ss := splL S i f } { a with sa := A6, sn := n6, sc := c6 }) := setRow_heap _ _ _ _ _ _ hx6
    have HR7 : Hid ((w6.setRow w.heap.size (tbA t { a with sa := A6, sn := n6, sc := c6 })).heap[w.heap.size + 1]? = some (.cells #[.int .i64 0, .int .i64 0, .int .i64 0, .int .i64 0, .int .i64 0, .int .i64 0, .int .i64 0, .int .i64 0, .int .i64 0, .int .i64 0, .int .i64 0, .int .i64 0, .int .i64 0, .int .i64 0, .int .i64 0, .slice none 0 0, .slice none 0 0, .slice none 0 0, .slice none 0 0] 33 (0, 0))) := (setRow_other _ _ _ _ (by omega)).trans hr6
    have HSF7 : Hid (SFe w.heap.size (w6.setRow w.heap.size (tbA t { a with sa := A6, sn := n6, sc := c6 })) A6 n6 (splL S i f)) := sf_new _ hg6 hlt6
    have HLN7 : Hid ((splL S i f).length = n6 ∧ n6 ≤ c6) := ⟨hl6, hc6⟩
    have HX6 : Hid (TBx w6 w.heap.size { t with ss := S } { a with sa := A, sn := n, sc := c }) := hx6
    clear hb6 hm6 hw6 hs6 hc6 hg6 hx6 hr6 hlt6 hl6 HA6 HMX HTX HSS HSX HG HX HR HB
    go_wp2_with (first | (refine wpList_store_row rfl 33 (.tmp 3) (.tmp 44) rfl w.heap.size (tbA t { a with sa := A6, sn := n6, sc := c6 }) rfl rfl 33 (tbA t { a with sa := A, sn := n, sc := c }) HX6.out (by kernel_rfl) rfl (by simp [Value.oneCell']) ?_) | fail)
    go_roundw
    case rel => exact ⟨i + 1, splL S i f, A6, n6, c6, by omega, by first | rfl | go_num, HS'.out, HB7.out, HR7.out, HX7.out, HSF7.out, HLN7.out⟩
    case measure => simp [intOf]; omega
end Go.Proofs.YtlomcdgfcocmmaaGreatDoor
