
/-
  Merge of the specification. Conditions: the lists lie in memory, with room for what they hold.
-/
import Derived.Test.YthieilkabcehgaaGreatDoorBas
import Derived.Test.YthieilkabcehgaaGreatDoorSsw
import Derived.Test.YthieilkabcehgaaGreatDoorSmp
import Derived.Test.YthieilkabcehgaaGreatDoorIpm
namespace Go.Proofs.YthieilkabcehgaaGreatDoor
open Go.ChangeShapes Go.WideShapes Go.ChangeAt Go.RowKit Go.Deep Go.Joins
set_option linter.unusedVariables false

theorem wpList_slice_of {ops : Array Oper} {rest : List Oper} {o : Oper} {a : Act} {w : World} {Q : Exit → Act → World → Prop} (hg : o.guard = none) (x : Operand) (lo hi : Option Operand) (ho : o.op = .slice 37 x lo hi none) (v : Value)
    (h : (Instr.slice 37 (a.eval x) (lo.map a.eval) (hi.map a.eval) none).run Tryz.prog w = .ok v w) (hK : wpList Tryz.prog ops Q rest (a.put o.dst v) w) : wpList Tryz.prog ops Q (o :: rest) a w :=
  wpList_plain hg fun K hK' => wp_slice_of x lo hi ho v _ rfl h (hK' _ _ hK)
theorem res_ssm {W : World} {B : Nat} {cs : Array Value} {b : Bool} {tmps : Array Value} (h : W.heap[B]? = some (.cells cs 39 (0, 0))) (hl : cs.size = 19) (ht : tmps[4]? = some (.pointer (some ⟨B, 0, none⟩))) (hq : tmps[5]? = some (.bool b)) : (results Tryz.f20 tmps).run Tryz.prog W = .ok (.tuple #[.agg cs, .bool b]) W := by
  have hld : (loadVar 39 ⟨B, 0, none⟩).run Tryz.prog W = .ok (.agg cs) W := run_loadVar_row (P := Tryz.prog) W B 39 39 cs (0, 0) _ h Tryz.underlying39 rfl (by rw [hl]; kernel_rfl)
  unfold results
  rw [Tryz.results20]
  simp [ht, hq, asAddr, hld]
/-- Copies of two slots, in whatever order they are read and made. -/
structure Mgr (W0 : World) (T0 : Nat) (sa : Option Addr) (sn sc k : Nat) (P P2 : Addr) (z1 z2 z3 y1 y2 y3 : Int) (w' : World) (N1 N2 : Nat) (b0 b1 b2 b3 b4 b5 b6 b7 b8 b9 b10 b11 b12 b13 b14 : Bool) (x22 x23 x24 x25 x26 x27 x28 x29 x30 x31 x32 x6 x7 : Value) : Prop where
  c13 : b13 = true → b11 = true ∧ b12 = true
  c14 : b14 = true → b13 = true
  gb : Below W0.heap.size W0 w'
  ne : b11 = true → b12 = true → N1 ≠ N2
  f0 : b0 = true → x22 = .pointer (some ⟨T0, 18, none⟩)
  f1 : b1 = true → x23 = .slice sa sn sc
  f2 : b2 = true → x24 = .int .i64 (k : Int)
  f3 : b3 = true → x25 = .pointer (some P)
  f4 : b4 = true → x26 = .agg #[.int .i64 z1, .int .i64 z2, .int .i64 z3]
  f5 : b5 = true → x27 = .pointer (some ⟨T0, 18, none⟩)
  f6 : b6 = true → x28 = .slice sa sn sc
  f7 : b7 = true → x29 = .int .i64 (k : Int)
  f8 : b8 = true → x30 = .int .i64 ((k : Int) + 1)
  f9 : b9 = true → x31 = .pointer (some P2)
  f10 : b10 = true → x32 = .agg #[.int .i64 y1, .int .i64 y2, .int .i64 y3]
  f11 : b11 = true → x6 = .pointer (some ⟨N1, 0, none⟩) ∧ W0.heap.size ≤ N1 ∧ (b13 = false → w'.heap[N1]? = some (.cells #[.int .i64 0, .int .i64 0, .int .i64 0] 59 (0, 0))) ∧ (b13 = true → w'.heap[N1]? = some (.cells #[.int .i64 z1, .int .i64 z2, .int .i64 z3] 59 (0, 0)))
  f12 : b12 = true → x7 = .pointer (some ⟨N2, 0, none⟩) ∧ W0.heap.size ≤ N2 ∧ (b14 = false → w'.heap[N2]? = some (.cells #[.int .i64 0, .int .i64 0, .int .i64 0] 59 (0, 0))) ∧ (b14 = true → w'.heap[N2]? = some (.cells #[.int .i64 y1, .int .i64 y2, .int .i64 y3] 59 (0, 0)))
set_option maxRecDepth 40000 in
set_option maxHeartbeats 16000000 in
theorem spec_merge (t : Tb) (a : Ad) (x : Int) (w : World) (hm : TM 0 w t a) (hw : TW t a) (hs : TS a) (hcs : a.sn ≤ a.sc) :
    Calls Tryz.prog 20 #[tbV t a, .int .i64 x] w fun e w' => ∃ R ar q, e = .returned (.tuple #[tbV R ar, .bool q]) ∧ MgA t x R q ∧ Below w.heap.size w w' ∧ KT w.heap.size w'.heap.size w' R ar ∧ TW R ar ∧ TS ar := by
  obtain ⟨q, hq⟩ := told (Sd t)
  have HB2 : Hid (Below w.heap.size w ((w.alloc (.cells (tbA t a) 39)).alloc (.cells #[.int .i64 0, .int .i64 0, .int .i64 0, .int .i64 0, .int .i64 0, .int .i64 0, .int .i64 0, .int .i64 0, .int .i64 0, .int .i64 0, .int .i64 0, .int .i64 0, .int .i64 0, .int .i64 0, .int .i64 0, .slice none 0 0, .slice none 0 0, .slice none 0 0, .slice none 0 0] 39))) := ((Below.refl _ _).alloc (Nat.le_refl _) _).alloc (by simp) _
  have HX2 : Hid (TBx ((w.alloc (.cells (tbA t a) 39)).alloc (.cells #[.int .i64 0, .int .i64 0, .int .i64 0, .int .i64 0, .int .i64 0, .int .i64 0, .int .i64 0, .int .i64 0, .int .i64 0, .int .i64 0, .int .i64 0, .int .i64 0, .int .i64 0, .int .i64 0, .int .i64 0, .slice none 0 0, .slice none 0 0, .slice none 0 0, .slice none 0 0] 39)) w.heap.size t a) := (TBx.new w t a _ rfl).below ((Below.refl _ _).alloc (Nat.le_refl _) _)
  have HR2 : Hid (((w.alloc (.cells (tbA t a) 39)).alloc (.cells #[.int .i64 0, .int .i64 0, .int .i64 0, .int .i64 0, .int .i64 0, .int .i64 0, .int .i64 0, .int .i64 0, .int .i64 0, .int .i64 0, .int .i64 0, .int .i64 0, .int .i64 0, .int .i64 0, .int .i64 0, .slice none 0 0, .slice none 0 0, .slice none 0 0, .slice none 0 0] 39)).heap[w.heap.size + 1]? = some (.cells #[.int .i64 0, .int .i64 0, .int .i64 0, .int .i64 0, .int .i64 0, .int .i64 0, .int .i64 0, .int .i64 0, .int .i64 0, .int .i64 0, .int .i64 0, .int .i64 0, .int .i64 0, .int .i64 0, .int .i64 0, .slice none 0 0, .slice none 0 0, .slice none 0 0, .slice none 0 0] 39 (0, 0))) := new_row (w.alloc (.cells (tbA t a) 39)) _ _ _ (by simp)
  have HSP : Hid (Calls Tryz.prog 30 #[tbV t a] ((w.alloc (.cells (tbA t a) 39)).alloc (.cells #[.int .i64 0, .int .i64 0, .int .i64 0, .int .i64 0, .int .i64 0, .int .i64 0, .int .i64 0, .int .i64 0, .int .i64 0, .int .i64 0, .int .i64 0, .int .i64 0, .int .i64 0, .int .i64 0, .int .i64 0, .slice none 0 0, .slice none 0 0, .slice none 0 0, .slice none 0 0] 39)) fun e w' => e = .returned (.bool q) ∧ Below ((w.alloc (.cells (tbA t a) 39)).alloc (.cells #[.int .i64 0, .int .i64 0, .int .i64 0, .int .i64 0, .int .i64 0, .int .i64 0, .int .i64 0, .int .i64 0, .int .i64 0, .int .i64 0, .int .i64 0, .int .i64 0, .int .i64 0, .int .i64 0, .int .i64 0, .slice none 0 0, .slice none 0 0, .slice none 0 0, .slice none 0 0] 39)).heap.size ((w.alloc (.cells (tbA t a) 39)).alloc (.cells #[.int .i64 0, .int .i64 0, .int .i64 0, .int .i64 0, .int .i64 0, .int .i64 0, .int .i64 0, .int .i64 0, .int .i64 0, .int .i64 0, .int .i64 0, .int .i64 0, .int .i64 0, .int .i64 0, .int .i64 0, .slice none 0 0, .slice none 0 0, .slice none 0 0, .slice none 0 0] 39)) w') := spec_sound t a q _ (hm.below HB2.out) hw hs hq
  have HL : Hid (t.ss.length = a.sn) := hw.sl
  have hn : a.sn ≤ 1048576 := hs.s
  have HSL0 : Hid (∀ X, Below w.heap.size w X → GSeg 3 X a.sa a.sn (slX t.ss)) := fun X hX => (hm.below hX).s.seg
  have HCP : Hid (∀ (X : World) (za : Option Addr) (zc : Nat) (zs : List slT), Below w.heap.size w X → GSeg 3 X za zs.length (slX zs) → zs.length ≤ 1048576 → (∀ i, i < zs.length → 0 ≤ (zs.getD i sl0).2.1 ∧ (zs.getD i sl0).2.1 ≤ 10000) → Calls Tryz.prog 32 #[tbV t a, .slice za zs.length zc] X fun e w' => ∃ a', e = .returned (tbV { t with ss := zs } a') ∧ Below X.heap.size X w' ∧ KT X.heap.size w'.heap.size w' { t with ss := zs } a' ∧ TW { t with ss := zs } a' ∧ TS a') := fun X za zc zs hX hz hn2 hb => (spec_cp t a za zc zs.length zs X (hm.below hX) hw hs hz rfl hn2 (fun i hi => by have := hb i hi; omega)).mono fun e w' ⟨a', h1, h2, h3, h4, h5, _⟩ => ⟨a', h1, h2, h3, h4, h5⟩
  have HQ : Hid (q = true ↔ Sd t) := hq
  have HCS : Hid (a.sn ≤ a.sc) := hcs
  clear hq hm hw hs hcs
  obtain ⟨iS, hi1, hi2, hi3, hi4⟩ := sli
  have HIS : Hid (Tryz.prog.info? 59 = some iS ∧ iS.zero = some (.agg #[.int .i64 0, .int .i64 0, .int .i64 0]) ∧ iS.size = 3 ∧ iS.bytes = 24) := ⟨hi1, hi2, hi3, hi4⟩
  clear hi1 hi2 hi3 hi4
  go_enter Tryz.func20, Tryz.ntmps20
  go_wp2_with (first | (refine wpList_load_row rfl 39 (.tmp 2) rfl w.heap.size rfl 39 (tbA t a) (0, 0) _ HX2.out Tryz.underlying39 rfl (by kernel_rfl) ?_) | fail)
  refine Calls.mono HSP.out ?_
  rintro e w1 ⟨rfl, hb1⟩
  have HB1 : Hid (Below w.heap.size w w1) := HB2.out.trans (hb1.mono HB2.out.size)
  have HX1 : Hid (TBx w1 w.heap.size t a) := HX2.out.below hb1
  have HR1 : Hid (w1.heap[w.heap.size + 1]? = some (.cells #[.int .i64 0, .int .i64 0, .int .i64 0, .int .i64 0, .int .i64 0, .int .i64 0, .int .i64 0, .int .i64 0, .int .i64 0, .int .i64 0, .int .i64 0, .int .i64 0, .int .i64 0, .int .i64 0, .int .i64 0, .slice none 0 0, .slice none 0 0, .slice none 0 0, .slice none 0 0] 39 (0, 0))) := row_below HR2.out hb1
  have k18 : w1.cell? ⟨w.heap.size, 18, none⟩ = some (.slice a.sa a.sn a.sc) := HX1.out.cell 18 rfl
  clear hb1 HB2 HX2 HR2 HSP
  cases q
  · have HNO : Hid (¬ CanG t x) := fun h => absurd (HQ.out.2 h.1) (by simp)
    have HRZ : Hid (w1.heap[w.heap.size + 1]? = some (.cells #[.int .i64 0, .int .i64 0, .int .i64 0, .int .i64 0, .int .i64 0, .int .i64 0, .int .i64 0, .int .i64 0, .int .i64 0, .int .i64 0, .int .i64 0, .int .i64 0, .int .i64 0, .int .i64 0, .int .i64 0, .slice none 0 0, .slice none 0 0, .slice none 0 0, .slice none 0 0] 39 (0, 0))) := HR1.out
    have HBZ : Hid (Below w.heap.size w w1) := HB1.out
    clear HQ HSL0 HX1 k18 HR1 HB1 HCP
    go_wp2_with (first | (refine wpList_store_row rfl 39 (.tmp 4) (.tmp 21) rfl (w.heap.size + 1) #[.int .i64 0, .int .i64 0, .int .i64 0, .int .i64 0, .int .i64 0, .int .i64 0, .int .i64 0, .int .i64 0, .int .i64 0, .int .i64 0, .int .i64 0, .int .i64 0, .int .i64 0, .int .i64 0, .int .i64 0, .slice none 0 0, .slice none 0 0, .slice none 0 0, .slice none 0 0] rfl rfl 39 #[.int .i64 0, .int .i64 0, .int .i64 0, .int .i64 0, .int .i64 0, .int .i64 0, .int .i64 0, .int .i64 0, .int .i64 0, .int .i64 0, .int .i64 0, .int .i64 0, .int .i64 0, .int .i64 0, .int .i64 0, .slice none 0 0, .slice none 0 0, .slice none 0 0, .slice none 0 0] HRZ.out (by kernel_rfl) rfl (by simp [Value.oneCell']) ?_) | fail)
    refine bodyPost_ret (v := .tuple #[tbV tz az, .bool false]) (res_ssm (setRow_heap _ _ _ _ _ _ HRZ.out) rfl rfl rfl) rfl ⟨tz, az, false, rfl, Or.inl ⟨HNO.out, rfl, rfl⟩, below_setRow HBZ.out (Nat.le_succ _) _, kt_zero _ _ _, tw_zero, ts_zero⟩
  have HSD : Hid (Sd t) := HQ.out.1 rfl
  have HTM : Hid (Tm t) := sd_tm HSD.out
  have hn1 := HTM.out.n1
  have hn2 := HTM.out.n2
  have hlen := HL.out
  have hw1 : IntKind.i64.wrap ((a.sn : Int) - 2) = (a.sn : Int) - 2 := by rw [IntKind.wrap_i64]; omega
  clear HQ
  go_wp2_with fail
  refine Calls.mono (in_any x 0 ((a.sn : Int) - 2) w1) ?_
  rintro e w2 ⟨rfl, rfl⟩
  by_cases hx0 : 0 ≤ x ∧ x ≤ (a.sn : Int) - 2
  rotate_left
  · have HNO : Hid (¬ CanG t x) := fun h => hx0 ⟨h.2.1.1, by have := h.2.1.2; omega⟩
    have HRZ : Hid (w2.heap[w.heap.size + 1]? = some (.cells #[.int .i64 0, .int .i64 0, .int .i64 0, .int .i64 0, .int .i64 0, .int .i64 0, .int .i64 0, .int .i64 0, .int .i64 0, .int .i64 0, .int .i64 0, .int .i64 0, .int .i64 0, .int .i64 0, .int .i64 0, .slice none 0 0, .slice none 0 0, .slice none 0 0, .slice none 0 0] 39 (0, 0))) := HR1.out
    have HBZ : Hid (Below w.heap.size w w2) := HB1.out
    rw [inr_no hx0]
    clear HSL0 HX1 HR1 HB1 hx0 HCP
    go_wp2_with (first | (refine wpList_store_row rfl 39 (.tmp 4) (.tmp 21) rfl (w.heap.size + 1) #[.int .i64 0, .int .i64 0, .int .i64 0, .int .i64 0, .int .i64 0, .int .i64 0, .int .i64 0, .int .i64 0, .int .i64 0, .int .i64 0, .int .i64 0, .int .i64 0, .int .i64 0, .int .i64 0, .int .i64 0, .slice none 0 0, .slice none 0 0, .slice none 0 0, .slice none 0 0] rfl rfl 39 #[.int .i64 0, .int .i64 0, .int .i64 0, .int .i64 0, .int .i64 0, .int .i64 0, .int .i64 0, .int .i64 0, .int .i64 0, .int .i64 0, .int .i64 0, .int .i64 0, .int .i64 0, .int .i64 0, .int .i64 0, .slice none 0 0, .slice none 0 0, .slice none 0 0, .slice none 0 0] HRZ.out (by kernel_rfl) rfl (by simp [Value.oneCell']) ?_) | fail)
    refine bodyPost_ret (v := .tuple #[tbV tz az, .bool false]) (res_ssm (setRow_heap _ _ _ _ _ _ HRZ.out) rfl rfl rfl) rfl ⟨tz, az, false, rfl, Or.inl ⟨HNO.out, rfl, rfl⟩, below_setRow HBZ.out (Nat.le_succ _) _, kt_zero _ _ _, tw_zero, ts_zero⟩
  rw [inr_yes hx0]
  obtain ⟨k, rfl⟩ : ∃ k : Nat, x = (k : Int) := ⟨x.toNat, by omega⟩
  have hk : k < a.sn := by omega
  have hk2 : k + 1 < a.sn := by omega
  have hkl : k + 1 < t.ss.length := by omega
  clear hx0
  have HQ3 : Hid (CanG t (k : Int) ↔ ((t.ss.getD k sl0).1 = (t.ss.getD (k + 1) sl0).1 ∧ (t.ss.getD k sl0).2.1 + (t.ss.getD k sl0).2.2 = (t.ss.getD (k + 1) sl0).2.1)) :=
    ⟨fun h => by have := h.2.2; rw [Int.toNat_natCast] at this; exact this, fun h => ⟨HSD.out, ⟨by omega, by omega⟩, by rw [Int.toNat_natCast]; exact h⟩⟩
  have hst := HTM.out.st k (by omega)
  have hen := HTM.out.en k (by omega)
  have hen2 := HTM.out.en (k + 1) hkl
  have hst2 := HTM.out.st (k + 1) hkl
  have hln := HTM.out.ln k (by omega)
  have hln2 := HTM.out.ln (k + 1) hkl
  have hp1 := HTM.out.pad1
  have hg1 := HTM.out.grd1
  have hmj := HTM.out.maj2
  have HRG : Hid (∀ i, i < (mrgL t.ss k).length → 0 ≤ ((mrgL t.ss k).getD i sl0).2.1 ∧ ((mrgL t.ss k).getD i sl0).2.1 ≤ 10000) := mrgL_rng HTM.out hkl
  obtain ⟨b1, o1, hsa, hbl1, p1⟩ := (HSL0.out _ HB1.out).at k hk
  have p2 : CellsAt w2 b1 (o1 + (k + 1) * 3) (slX t.ss (k + 1)) := by
    obtain ⟨b9, o9, hsa9, _, p9⟩ := (HSL0.out _ HB1.out).at (k + 1) hk2
    rw [hsa] at hsa9
    injection hsa9 with e
    injection e with e1 e2
    subst e1 e2
    exact p9
  simp only [slX] at p1 p2
  obtain ⟨y, HY⟩ : ∃ y, Hid (t.ss.getD k sl0 = y) := ⟨_, rfl⟩
  obtain ⟨yy, HYY⟩ : ∃ y, Hid (t.ss.getD (k + 1) sl0 = y) := ⟨_, rfl⟩
  rw [HY.out] at p1 hst hen hln HQ3
  rw [HYY.out] at p2 hst2 hen2 hln2 HQ3
  obtain ⟨z1, z2, z3⟩ := y
  obtain ⟨y1, y2, y3⟩ := yy
  simp only at hst hen hst2 hen2 hln hln2 HQ3
  obtain ⟨sn, HSN⟩ : ∃ n, Hid (a.sn = n) := ⟨_, rfl⟩
  obtain ⟨sc, HSC⟩ : ∃ n, Hid (a.sc = n) := ⟨_, rfl⟩
  have HTX : Hid (∀ X, Below w2.heap.size w2 X → X.cell? ⟨w.heap.size, 18, none⟩ = some (.slice (some ⟨b1, o1, none⟩) sn sc) ∧ (X.cell? ⟨b1, o1 + k * 3, none⟩ = some (.int .i64 z1) ∧ X.cell? ⟨b1, o1 + k * 3 + 1, none⟩ = some (.int .i64 z2) ∧ X.cell? ⟨b1, o1 + k * 3 + 2, none⟩ = some (.int .i64 z3)) ∧ X.cell? ⟨b1, o1 + (k + 1) * 3, none⟩ = some (.int .i64 y1) ∧ X.cell? ⟨b1, o1 + (k + 1) * 3 + 1, none⟩ = some (.int .i64 y2) ∧ X.cell? ⟨b1, o1 + (k + 1) * 3 + 2, none⟩ = some (.int .i64 y3)) := fun X hX => by
    have h1 := (HX1.out.below hX).cell 18 (v := .slice a.sa a.sn a.sc) rfl
    rw [hsa, HSN.out, HSC.out] at h1
    exact ⟨h1, sl_cells (p1.below hX), sl_cells (p2.below hX)⟩
  have HSG : Hid (∀ X, Below w.heap.size w X → GSeg 3 X (some ⟨b1, o1, none⟩) sn (slX t.ss)) := fun X hX => by
    have h1 := HSL0.out X hX
    rw [hsa, HSN.out] at h1
    exact h1
  have HNC : Hid (sn ≤ sc) := by have := HSN.out; have := HSC.out; have := HCS.out; show _ ≤ _; omega
  have hn15 : sn ≤ 16 := by have := HSN.out; omega
  have HLN : Hid (t.ss.length = sn) := hlen.trans HSN.out
  have hks : (k : Int) < (sn : Int) := by have := HSN.out; omega
  have hkn : k + 1 < sn := by have := HSN.out; omega
  have HK1 : Hid ((k : Int) + 1 < (sn : Int)) := by show _ < _; omega
  have HWR1 : Hid (IntKind.i64.wrap ((k : Int) + 1) = (k : Int) + 1) := by show _ = _; rw [IntKind.wrap_i64]; omega
  have HWR : Hid (IntKind.i64.wrap (z2 + z3) = z2 + z3 ∧ IntKind.i64.wrap (z3 + y3) = z3 + y3 ∧ IntKind.i64.wrap ((k : Int) + 2) = (k : Int) + 2) := by
    refine ⟨?_, ?_, ?_⟩ <;> (rw [IntKind.wrap_i64]; omega)
  clear p1 p2 hbl1 hsa k18 hw1 HSL0 HTM HSD HL hst hen hst2 hen2 hln hln2 hp1 hg1 hmj hn1 hn2 hlen hk hk2 hkl hn HSN HSC HCS
  generalize w2 = WA at *
  go_wp2
  refine wp_region_inv (by kernel_rfl) (by kernel_rfl) (fun A ℓ a' w' => ∃ (N1 : Nat) (N2 : Nat) (x22 x23 x24 x25 x26 x27 x28 x29 x30 x31 x32 x6 x7 : Value), a' = (((((((((((((A.put (some 22) x22).put (some 23) x23).put (some 24) x24).put (some 25) x25).put (some 26) x26).put (some 27) x27).put (some 28) x28).put (some 29) x29).put (some 30) x30).put (some 31) x31).put (some 32) x32).put (some 6) x6).put (some 7) x7) ∧ Mgr WA w.heap.size (some ⟨b1, o1, none⟩) sn sc k ⟨b1, o1 + k * 3, none⟩ ⟨b1, o1 + (k + 1) * 3, none⟩ z1 z2 z3 y1 y2 y3 w' N1 N2 (ℓ 0) (ℓ 1) (ℓ 2) (ℓ 3) (ℓ 4) (ℓ 5) (ℓ 6) (ℓ 7) (ℓ 8) (ℓ 9) (ℓ 10) (ℓ 11) (ℓ 12) (ℓ 13) (ℓ 14) x22 x23 x24 x25 x26 x27 x28 x29 x30 x31 x32 x6 x7) ?_ ?_ ?_ ?_
  · exact ⟨0, 0, undef, undef, undef, undef, undef, undef, undef, undef, undef, undef, undef, undef, undef, (by simp only [Act.put, List.setIfInBounds_toArray, List.set_cons_zero, List.set_cons_succ]), ⟨(fun g => by cases g), (fun g => by cases g), (Below.refl _ _).drew, (fun g => by cases g), (fun g => by cases g), (fun g => by cases g), (fun g => by cases g), (fun g => by cases g), (fun g => by cases g), (fun g => by cases g), (fun g => by cases g), (fun g => by cases g), (fun g => by cases g), (fun g => by cases g), (fun g => by cases g), (fun g => by cases g), (fun g => by cases g)⟩⟩
  · intro ℓ a' w' hI hall
    obtain ⟨N1, N2, x22, x23, x24, x25, x26, x27, x28, x29, x30, x31, x32, x6, x7, rfl, hr⟩ := hI
    have hall' : ∀ i, i < 15 → ℓ i = true := hall
    obtain ⟨rfl, hn1, _, hr1⟩ := hr.f11 (hall' 11 (by decide))
    obtain ⟨rfl, hn2, _, hr2⟩ := hr.f12 (hall' 12 (by decide))
    have HF1 : Hid (w'.heap[N1]? = some (.cells #[.int .i64 z1, .int .i64 z2, .int .i64 z3] 59 (0, 0))) := hr1 (hall' 13 (by decide))
    have HF2 : Hid (w'.heap[N2]? = some (.cells #[.int .i64 y1, .int .i64 y2, .int .i64 y3] 59 (0, 0))) := hr2 (hall' 14 (by decide))
    have HG1 : Hid (Below WA.heap.size WA w') := hr.gb
    clear hr hall hall' hr1 hr2 hn1 hn2
    simp only [Act.put, List.setIfInBounds_toArray, List.set_cons_zero, List.set_cons_succ]
    have HBD : Hid (Below w.heap.size w w') := HB1.out.trans (HG1.out.mono HB1.out.size)
    have HXD : Hid (TBx w' w.heap.size t a) := HX1.out.below HG1.out
    have HRD : Hid (w'.heap[w.heap.size + 1]? = some (.cells #[.int .i64 0, .int .i64 0, .int .i64 0, .int .i64 0, .int .i64 0, .int .i64 0, .int .i64 0, .int .i64 0, .int .i64 0, .int .i64 0, .int .i64 0, .int .i64 0, .int .i64 0, .int .i64 0, .int .i64 0, .slice none 0 0, .slice none 0 0, .slice none 0 0, .slice none 0 0] 39 (0, 0))) := row_below HR1.out HG1.out
    have HTD : Hid (∀ X, Below w'.heap.size w' X → X.cell? ⟨w.heap.size, 18, none⟩ = some (.slice (some ⟨b1, o1, none⟩) sn sc) ∧ GSeg 3 X (some ⟨b1, o1, none⟩) sn (slX t.ss)) := fun X hX => ⟨(HTX.out X (HG1.out.trans (hX.mono HG1.out.size))).1, HSG.out X (HBD.out.trans (hX.mono HBD.out.size))⟩
    generalize w' = WD at *
    have c0 : WD.cell? ⟨N1, 0, none⟩ = some (.int .i64 z1) := row_cell HF1.out 0 _ rfl
    have c1 : WD.cell? ⟨N1, 1, none⟩ = some (.int .i64 z2) := row_cell HF1.out 1 _ rfl
    have c2 : WD.cell? ⟨N1, 2, none⟩ = some (.int .i64 z3) := row_cell HF1.out 2 _ rfl
    have d0 : WD.cell? ⟨N2, 0, none⟩ = some (.int .i64 y1) := row_cell HF2.out 0 _ rfl
    have d1 : WD.cell? ⟨N2, 1, none⟩ = some (.int .i64 y2) := row_cell HF2.out 1 _ rfl
    have hw3 : IntKind.i64.wrap (z2 + z3) = z2 + z3 := HWR.out.1
    clear HG1 HTX HX1 HB1 HR1
    by_cases he1 : z1 = y1
    rotate_left
    · have hne1 : (z1 != y1) = true := by simp [he1]
      have HNO : Hid (¬ CanG t (k : Int)) := fun h => he1 (HQ3.out.1 h).1
      have HRZ : Hid (WD.heap[w.heap.size + 1]? = some (.cells #[.int .i64 0, .int .i64 0, .int .i64 0, .int .i64 0, .int .i64 0, .int .i64 0, .int .i64 0, .int .i64 0, .int .i64 0, .int .i64 0, .int .i64 0, .int .i64 0, .int .i64 0, .int .i64 0, .int .i64 0, .slice none 0 0, .slice none 0 0, .slice none 0 0, .slice none 0 0] 39 (0, 0))) := HRD.out
      have HBZ : Hid (Below w.heap.size w WD) := HBD.out
      clear HXD HRD HBD HTD HCP HSG HQ3
      go_wp2_with (first | (refine wpList_store_row rfl 39 (.tmp 4) (.tmp 48) rfl (w.heap.size + 1) #[.int .i64 0, .int .i64 0, .int .i64 0, .int .i64 0, .int .i64 0, .int .i64 0, .int .i64 0, .int .i64 0, .int .i64 0, .int .i64 0, .int .i64 0, .int .i64 0, .int .i64 0, .int .i64 0, .int .i64 0, .slice none 0 0, .slice none 0 0, .slice none 0 0, .slice none 0 0] rfl rfl 39 #[.int .i64 0, .int .i64 0, .int .i64 0, .int .i64 0, .int .i64 0, .int .i64 0, .int .i64 0, .int .i64 0, .int .i64 0, .int .i64 0, .int .i64 0, .int .i64 0, .int .i64 0, .int .i64 0, .int .i64 0, .slice none 0 0, .slice none 0 0, .slice none 0 0, .slice none 0 0] HRZ.out (by kernel_rfl) rfl (by simp [Value.oneCell']) ?_) | fail)
      refine bodyPost_ret (v := .tuple #[tbV tz az, .bool false]) (res_ssm (setRow_heap _ _ _ _ _ _ HRZ.out) rfl rfl rfl) rfl ⟨tz, az, false, rfl, Or.inl ⟨HNO.out, rfl, rfl⟩, below_setRow HBZ.out (Nat.le_succ _) _, kt_zero _ _ _, tw_zero, ts_zero⟩
    by_cases he2 : z2 + z3 = y2
    rotate_left
    · have hne1 : (z1 != y1) = false := by simp [he1]
      have hne2 : (z2 + z3 != y2) = true := by simp [he2]
      have HNO : Hid (¬ CanG t (k : Int)) := fun h => he2 (HQ3.out.1 h).2
      have HRZ : Hid (WD.heap[w.heap.size + 1]? = some (.cells #[.int .i64 0, .int .i64 0, .int .i64 0, .int .i64 0, .int .i64 0, .int .i64 0, .int .i64 0, .int .i64 0, .int .i64 0, .int .i64 0, .int .i64 0, .int .i64 0, .int .i64 0, .int .i64 0, .int .i64 0, .slice none 0 0, .slice none 0 0, .slice none 0 0, .slice none 0 0] 39 (0, 0))) := HRD.out
      have HBZ : Hid (Below w.heap.size w WD) := HBD.out
      clear HXD HRD HBD HTD HCP HSG HQ3
      go_wp2_with (first | (refine wpList_store_row rfl 39 (.tmp 4) (.tmp 48) rfl (w.heap.size + 1) #[.int .i64 0, .int .i64 0, .int .i64 0, .int .i64 0, .int .i64 0, .int .i64 0, .int .i64 0, .int .i64 0, .int .i64 0, .int .i64 0, .int .i64 0, .int .i64 0, .int .i64 0, .int .i64 0, .int .i64 0, .slice none 0 0, .slice none 0 0, .slice none 0 0, .slice none 0 0] rfl rfl 39 #[.int .i64 0, .int .i64 0, .int .i64 0, .int .i64 0, .int .i64 0, .int .i64 0, .int .i64 0, .int .i64 0, .int .i64 0, .int .i64 0, .int .i64 0, .int .i64 0, .int .i64 0, .int .i64 0, .int .i64 0, .slice none 0 0, .slice none 0 0, .slice none 0 0, .slice none 0 0] HRZ.out (by kernel_rfl) rfl (by simp [Value.oneCell']) ?_) | fail)
      refine bodyPost_ret (v := .tuple #[tbV tz az, .bool false]) (res_ssm (setRow_heap _ _ _ _ _ _ HRZ.out) rfl rfl rfl) rfl ⟨tz, az, false, rfl, Or.inl ⟨HNO.out, rfl, rfl⟩, below_setRow HBZ.out (Nat.le_succ _) _, kt_zero _ _ _, tw_zero, ts_zero⟩
    have hne1 : (z1 != y1) = false := by simp [he1]
    have hne2 : (z2 + z3 != y2) = false := by simp [he2]
    have HCG : Hid (CanG t (k : Int)) := HQ3.out.2 ⟨he1, he2⟩
    clear he1 he2 HQ3
    obtain ⟨aL, hL1, hL2⟩ := sl_to b1 o1 sn sc k (by omega) HNC.out t.ss
    obtain ⟨aR, hR1, hR2⟩ := sl_fromx b1 o1 sn sc (k + 2) ((k : Int) + 2) (by omega) (by omega) HNC.out t.ss
    have HSL : Hid (∀ W, (Instr.slice 37 (.slice (some ⟨b1, o1, none⟩) sn sc) none (some (.int .i64 (k : Int))) none).run Tryz.prog W = .ok (.slice aL k sc) W) := hL1
    have HSR : Hid (∀ W, (Instr.slice 37 (.slice (some ⟨b1, o1, none⟩) sn sc) (some (.int .i64 ((k : Int) + 2))) none none).run Tryz.prog W = .ok (.slice aR (sn - (k + 2)) (sc - (k + 2))) W) := hR1
    have hwk2 : IntKind.i64.wrap ((k : Int) + 2) = (k : Int) + 2 := HWR.out.2.2
    have hwz : IntKind.i64.wrap (z3 + y3) = z3 + y3 := HWR.out.2.1
    have d18 : (WD.alloc (.cells #[] 59)).cell? ⟨w.heap.size, 18, none⟩ = some (.slice (some ⟨b1, o1, none⟩) sn sc) := (HTD.out _ ((Below.refl _ _).alloc (Nat.le_refl _) _)).1
    have HOW1 : Hid ((WD.alloc (.cells #[] 59)).ownsRow WD.heap.size 59 3 (.slice (some ⟨WD.heap.size, 0, none⟩) 0 0) 0 []) := own_lit0 WD _ 3
    have HS6 : Hid (GSeg 3 (WD.alloc (.cells #[] 59)) aL k (slX (t.ss.take k))) := hL2 _ (HTD.out _ ((Below.refl _ _).alloc (Nat.le_refl _) _)).2
    have hlk : (t.ss.take k).length = k := by rw [List.length_take]; have := HLN.out; omega
    have hld : (t.ss.drop (k + 2)).length = sn - (k + 2) := by rw [List.length_drop]; have := HLN.out; omega
    have HGC2 : Hid ((gcat (slX (t.ss.take k ++ [(z1, z2, z3 + y3)])) (k + 1)) = (gcat (slX (t.ss.take k)) k) ++ [.int .i64 z1, .int .i64 z2, .int .i64 (z3 + y3)]) := by
      have e := slX_app (t.ss.take k) [(z1, z2, z3 + y3)]
      rw [List.length_append, hlk] at e
      exact e
    have HGC3 : Hid (gcat (slX (mrgL t.ss k)) (k + 1 + (sn - (k + 2))) = (gcat (slX (t.ss.take k ++ [(z1, z2, z3 + y3)])) (k + 1)) ++ gcat (slX (t.ss.drop (k + 2))) (sn - (k + 2))) := by
      have e := slX_app (t.ss.take k ++ [(z1, z2, z3 + y3)]) (t.ss.drop (k + 2))
      rw [List.length_append, List.length_append, hlk, hld] at e
      show _ = _
      unfold mrgL
      rw [HY.out, HYY.out]
      exact e
    have HLM : Hid ((mrgL t.ss k).length = k + 1 + (sn - (k + 2))) := by
      have h := mrgL_len (ss := t.ss) (k := k) (by have := HLN.out; omega)
      show _ = _
      rw [h]
      have := HLN.out
      omega
    clear hL1 hR1 hlk hld hL2
    go_wp2_with (first
       | (at_builtin
          refine wpList_append_any rfl (.tmp 49) (.tmp 53) 37 rfl WD.heap.size 59 iS (.agg #[.int .i64 0, .int .i64 0, .int .i64 0]) 3 24 Tryz.underlying37 HIS.out.1 HIS.out.2.1 HIS.out.2.2.1 HIS.out.2.2.2 rfl (by decide) ((.slice (some ⟨WD.heap.size, 0, none⟩) 0 0)) 0 [] rfl HOW1.out aL k sc (gcat (slX (t.ss.take k)) k) rfl (gcat_len fun j _ => slX_len _ j) (news_of (by decide) (fun j => slX_len _ j) HS6.out) (gcat_one fun j _ => slX_one _ j) (by unfold maxLen; omega) (by omega) (by simp) ?_
          intro v1 w6 ho1 hg1 hk1
          rw [Nat.zero_add, List.nil_append] at ho1
          obtain ⟨AA, ca, rfl, hca, hla⟩ := own_ls (k := 3) (fun j _ => slX_len _ j) ho1
          have hb6 : Below WD.heap.size WD w6 := ((Below.refl _ _).alloc (Nat.le_refl _) _).grown hg1 (by simp) (fun q hq => (by simp [Value.ownBlock] at hq; omega))
          have HB6 : Hid (Below WD.heap.size WD w6) := hb6
          have HO6 : Hid (w6.ownsRow WD.heap.size 59 3 (.slice AA k ca) k (gcat (slX (t.ss.take k)) k)) := ho1
          have HP6 : Hid (WD.heap.size < w6.heap.size) := (by have h := hg1.size; simp at h; show _ < _; omega)
          have u0 : w6.cell? ⟨N1, 0, none⟩ = some (.int .i64 z1) := row_cell (row_below HF1.out hb6) 0 _ rfl
          have u1 : w6.cell? ⟨N1, 1, none⟩ = some (.int .i64 z2) := row_cell (row_below HF1.out hb6) 1 _ rfl
          have u2 : w6.cell? ⟨N1, 2, none⟩ = some (.int .i64 z3) := row_cell (row_below HF1.out hb6) 2 _ rfl
          have u3 : w6.cell? ⟨N2, 2, none⟩ = some (.int .i64 y3) := row_cell (row_below HF2.out hb6) 2 _ rfl
          have HOWL : Hid ((w6.alloc (.cells #[.int .i64 z1, .int .i64 z2, .int .i64 (z3 + y3)] 59)).ownsRow WD.heap.size 59 3 (.slice AA k ca) k (gcat (slX (t.ss.take k)) k)) := own_far HO6.out (fun q hq => ((Below.refl w6.heap.size w6).alloc (Nat.le_refl _) _).block q (own_ge HO6.out q hq).2)
          have HNW : Hid (∀ j u, ([.int .i64 z1, .int .i64 z2, .int .i64 (z3 + y3)] : List Value)[j]? = some u → (w6.alloc (.cells #[.int .i64 z1, .int .i64 z2, .int .i64 (z3 + y3)] 59)).cell? ((⟨w6.heap.size, 0, none⟩ : Addr).add j) = some u) := fun j u hj => (by rw [add_plain]; exact CellsAt.new w6 [.int .i64 z1, .int .i64 z2, .int .i64 (z3 + y3)] 59 w6.heap.size rfl j u hj)
          have HHP : Hid (WD.heap.size ≤ (w6.alloc (.cells #[.int .i64 z1, .int .i64 z2, .int .i64 (z3 + y3)] 59)).heap.size) := (by have := HP6.out; simp; show _ ≤ _; omega)
          clear ho1 hg1 hk1 hla hb6 hca HOW1)
       | (at_builtin
          refine wpList_append_any rfl (.tmp 55) (.tmp 66) 37 rfl WD.heap.size 59 iS (.agg #[.int .i64 0, .int .i64 0, .int .i64 0]) 3 24 Tryz.underlying37 HIS.out.1 HIS.out.2.1 HIS.out.2.2.1 HIS.out.2.2.2 rfl (by decide) ((.slice AA k ca)) k (gcat (slX (t.ss.take k)) k) rfl HOWL.out (some ⟨w6.heap.size, 0, none⟩) 1 1 [.int .i64 z1, .int .i64 z2, .int .i64 (z3 + y3)] rfl rfl (fun _ => ⟨_, rfl, HNW.out⟩) (fun u hu => by simp only [List.mem_cons, List.not_mem_nil, or_false] at hu; rcases hu with rfl | rfl | rfl <;> rfl) (by unfold maxLen; omega) (by omega) HHP.out ?_
          intro v2 w7 ho2 hg2 hk2
          rw [← HGC2.out] at ho2
          obtain ⟨AB, cb, rfl, hcb, hlb⟩ := own_ls (k := 3) (fun j _ => slX_len _ j) ho2
          have hb7 : Below WD.heap.size w6 w7 := ((Below.refl WD.heap.size w6).alloc (by have := HP6.out; omega) _).grown hg2 (by have := HP6.out; simp; omega) (fun q hq => (own_ge HO6.out q hq).1)
          have HB7 : Hid (Below WD.heap.size WD w7) := HB6.out.trans hb7
          have HO7 : Hid (w7.ownsRow WD.heap.size 59 3 (.slice AB (k + 1) cb) (k + 1) (gcat (slX (t.ss.take k ++ [(z1, z2, z3 + y3)])) (k + 1))) := ho2
          have HP7 : Hid (WD.heap.size ≤ w7.heap.size) := HB7.out.size
          have u18 : w7.cell? ⟨w.heap.size, 18, none⟩ = some (.slice (some ⟨b1, o1, none⟩) sn sc) := (HTD.out w7 HB7.out).1
          have HS7 : Hid (GSeg 3 w7 aR (sn - (k + 2)) (slX (t.ss.drop (k + 2)))) := hR2 w7 (HTD.out w7 HB7.out).2
          clear ho2 hg2 hk2 hlb hb7 hcb HOWL HNW)
       | (at_builtin
          refine wpList_append_any rfl (.tmp 68) (.tmp 73) 37 rfl WD.heap.size 59 iS (.agg #[.int .i64 0, .int .i64 0, .int .i64 0]) 3 24 Tryz.underlying37 HIS.out.1 HIS.out.2.1 HIS.out.2.2.1 HIS.out.2.2.2 rfl (by decide) ((.slice AB (k + 1) cb)) (k + 1) (gcat (slX (t.ss.take k ++ [(z1, z2, z3 + y3)])) (k + 1)) rfl HO7.out aR (sn - (k + 2)) (sc - (k + 2)) (gcat (slX (t.ss.drop (k + 2))) (sn - (k + 2))) rfl (gcat_len fun j _ => slX_len _ j) (news_of (by decide) (fun j => slX_len _ j) HS7.out) (gcat_one fun j _ => slX_one _ j) (by unfold maxLen; omega) (by omega) HP7.out ?_
          intro v3 w8 ho3 hg3 hk3
          rw [← HGC3.out] at ho3
          obtain ⟨AC, cc9, rfl, hcc9, hlc⟩ := own_ls (k := 3) (fun j _ => slX_len _ j) ho3
          have hb8 : Below WD.heap.size w7 w8 := (Below.refl WD.heap.size w7).grown hg3 HP7.out (fun q hq => (own_ge HO7.out q hq).1)
          have HB8 : Hid (Below WD.heap.size WD w8) := HB7.out.trans hb8
          have HX8 : Hid (TBx w8 w.heap.size t a) := HXD.out.below HB8.out
          have HR8 : Hid (w8.heap[w.heap.size + 1]? = some (.cells #[.int .i64 0, .int .i64 0, .int .i64 0, .int .i64 0, .int .i64 0, .int .i64 0, .int .i64 0, .int .i64 0, .int .i64 0, .int .i64 0, .int .i64 0, .int .i64 0, .int .i64 0, .int .i64 0, .int .i64 0, .slice none 0 0, .slice none 0 0, .slice none 0 0, .slice none 0 0] 39 (0, 0))) := row_below HRD.out HB8.out
          have HS8 : Hid (GSeg 3 w8 AC (k + 1 + (sn - (k + 2))) (slX (mrgL t.ss k))) := hlc.1
          have HBW8 : Hid (Below w.heap.size w w8) := HBD.out.trans (HB8.out.mono HBD.out.size)
          clear ho3 hg3 hk3 hlc hb8 hcc9)
       | (refine wpList_slice_of rfl (.tmp 51) none (some (.tmp 52)) rfl (.slice aL k sc) (HSL.out _) ?_)
       | (refine wpList_slice_of rfl (.tmp 70) (some (.tmp 72)) none rfl (.slice aR (sn - (k + 2)) (sc - (k + 2))) (HSR.out _) ?_)
       | (refine wpList_load_row rfl 39 (.tmp 2) rfl w.heap.size rfl 39 (tbA t a) (0, 0) _ HX8.out Tryz.underlying39 rfl (by kernel_rfl) ?_)
       | fail)
    have HCL := HCP.out w8 AC cc9 (mrgL t.ss k) HBW8.out (by rw [HLM.out]; exact HS8.out) (by rw [HLM.out]; omega) HRG.out
    rw [HLM.out] at HCL
    refine Calls.mono HCL ?_
    rintro e w9 ⟨ar, rfl, hb9, hkt, htw, hts⟩
    have HR9 : Hid (w9.heap[w.heap.size + 1]? = some (.cells #[.int .i64 0, .int .i64 0, .int .i64 0, .int .i64 0, .int .i64 0, .int .i64 0, .int .i64 0, .int .i64 0, .int .i64 0, .int .i64 0, .int .i64 0, .int .i64 0, .int .i64 0, .int .i64 0, .int .i64 0, .slice none 0 0, .slice none 0 0, .slice none 0 0, .slice none 0 0] 39 (0, 0))) := row_below HR8.out hb9
    have HB9 : Hid (Below w.heap.size w w9) := HBW8.out.trans (hb9.mono HBW8.out.size)
    have hwr : w.heap.size + 1 < w8.heap.size := (Array.getElem?_eq_some_iff.1 HR8.out).1
    have HTT : Hid (TW { t with ss := mrgL t.ss k } ar ∧ TS ar) := ⟨htw, hts⟩
    have HRF : Hid ((w9.setRow (w.heap.size + 1) (tbA t ar)).heap[w.heap.size + 1]? = some (.cells (tbA t ar) 39 (0, 0))) := setRow_heap _ _ _ _ _ _ HR9.out
    have hsf : (w9.setRow (w.heap.size + 1) (tbA t ar)).heap.size = w9.heap.size := by simp [World.setRow]
    have hkf := hkt.setRow (B := w.heap.size + 1) (cs := tbA t ar) (Or.inl hwr)
    have HKF : Hid (KT w.heap.size (w9.setRow (w.heap.size + 1) (tbA t ar)).heap.size (w9.setRow (w.heap.size + 1) (tbA t ar)) { t with ss := mrgL t.ss k } ar) := by
      rw [hsf]
      exact ⟨hkf.p.wide (by omega) (Nat.le_refl _), hkf.g, fun j hj => (hkf.v j hj).wide (by omega) (Nat.le_refl _), hkf.d.wide (by omega) (Nat.le_refl _), hkf.c.wide (by omega) (Nat.le_refl _), hkf.s.wide (by omega) (Nat.le_refl _)⟩
    clear hb9 hkt htw hts hkf HX8 HR8 HS8 HCL
    go_wp2_with (first | (refine wpList_store_row rfl 39 (.tmp 4) (.tmp 77) rfl (w.heap.size + 1) (tbA t ar) rfl rfl 39 #[.int .i64 0, .int .i64 0, .int .i64 0, .int .i64 0, .int .i64 0, .int .i64 0, .int .i64 0, .int .i64 0, .int .i64 0, .int .i64 0, .int .i64 0, .int .i64 0, .int .i64 0, .int .i64 0, .int .i64 0, .slice none 0 0, .slice none 0 0, .slice none 0 0, .slice none 0 0] HR9.out (by kernel_rfl) rfl (by simp [Value.oneCell']) ?_) | fail)
    exact bodyPost_ret (v := .tuple #[tbV { t with ss := mrgL t.ss k } ar, .bool true]) (res_ssm HRF.out rfl rfl rfl) rfl ⟨{ t with ss := mrgL t.ss k }, ar, true, rfl, Or.inr ⟨HCG.out, (by rw [Int.toNat_natCast]), rfl⟩, below_setRow HB9.out (Nat.le_succ _) _, HKF.out, HTT.out.1, HTT.out.2⟩
  · intro ℓ a' w' q o hI ho hi hL hdep K hK
    obtain ⟨N1, N2, x22, x23, x24, x25, x26, x27, x28, x29, x30, x31, x32, x6, x7, rfl, hr⟩ := hI
    have hi7 : q < 15 := hi
    have hcs : q = 0 ∨ q = 1 ∨ q = 2 ∨ q = 3 ∨ q = 4 ∨ q = 5 ∨ q = 6 ∨ q = 7 ∨ q = 8 ∨ q = 9 ∨ q = 10 ∨ q = 11 ∨ q = 12 ∨ q = 13 ∨ q = 14 := by omega
    clear hi hi7
    rcases hcs with rfl | rfl | rfl | rfl | rfl | rfl | rfl | rfl | rfl | rfl | rfl | rfl | rfl | rfl | rfl
    · revert hK
      obtain rfl := Option.some.inj ho
      clear hdep ho
      intro hK
      rw [if_pos (by rfl)]
      try simp only [Act.put, List.setIfInBounds_toArray, List.set_cons_zero, List.set_cons_succ]
      go_simp
      exact hK.out _ _ (fun j => if j = 0 then true else ℓ j) ⟨N1, N2, .pointer (some ⟨w.heap.size, 18, none⟩), x23, x24, x25, x26, x27, x28, x29, x30, x31, x32, x6, x7, (by simp only [Act.put, List.setIfInBounds_toArray, List.set_cons_zero, List.set_cons_succ]), ⟨hr.c13, hr.c14, hr.gb, hr.ne, (fun _ => rfl), hr.f1, hr.f2, hr.f3, hr.f4, hr.f5, hr.f6, hr.f7, hr.f8, hr.f9, hr.f10, hr.f11, hr.f12⟩⟩ (if_pos rfl) (fun j hj => if_neg hj)
    · revert hK
      obtain rfl := Option.some.inj ho
      have g0 : ℓ 0 = true := hdep { on := 0, ground := Ground.data } (by simp) rfl
      clear hdep ho
      obtain rfl := hr.f0 g0
      have cc := (HTX.out _ hr.gb).1
      intro hK
      rw [if_pos (by rfl)]
      try simp only [Act.put, List.setIfInBounds_toArray, List.set_cons_zero, List.set_cons_succ]
      go_simp
      exact hK.out _ _ (fun j => if j = 1 then true else ℓ j) ⟨N1, N2, .pointer (some ⟨w.heap.size, 18, none⟩), .slice (some ⟨b1, o1, none⟩) sn sc, x24, x25, x26, x27, x28, x29, x30, x31, x32, x6, x7, (by simp only [Act.put, List.setIfInBounds_toArray, List.set_cons_zero, List.set_cons_succ]), ⟨hr.c13, hr.c14, hr.gb, hr.ne, hr.f0, (fun _ => rfl), hr.f2, hr.f3, hr.f4, hr.f5, hr.f6, hr.f7, hr.f8, hr.f9, hr.f10, hr.f11, hr.f12⟩⟩ (if_pos rfl) (fun j hj => if_neg hj)
    · revert hK
      obtain rfl := Option.some.inj ho
      clear hdep ho
      intro hK
      rw [if_pos (by rfl)]
      try simp only [Act.put, List.setIfInBounds_toArray, List.set_cons_zero, List.set_cons_succ]
      go_simp
      exact hK.out _ _ (fun j => if j = 2 then true else ℓ j) ⟨N1, N2, x22, x23, .int .i64 (k : Int), x25, x26, x27, x28, x29, x30, x31, x32, x6, x7, (by simp only [Act.put, List.setIfInBounds_toArray, List.set_cons_zero, List.set_cons_succ]), ⟨hr.c13, hr.c14, hr.gb, hr.ne, hr.f0, hr.f1, (fun _ => rfl), hr.f3, hr.f4, hr.f5, hr.f6, hr.f7, hr.f8, hr.f9, hr.f10, hr.f11, hr.f12⟩⟩ (if_pos rfl) (fun j hj => if_neg hj)
    · revert hK
      obtain rfl := Option.some.inj ho
      have g1 : ℓ 1 = true := hdep { on := 1, ground := Ground.data } (by simp) rfl
      have g2 : ℓ 2 = true := hdep { on := 2, ground := Ground.data } (by simp) rfl
      clear hdep ho
      obtain rfl := hr.f1 g1
      obtain rfl := hr.f2 g2
      intro hK
      rw [if_pos (by rfl)]
      try simp only [Act.put, List.setIfInBounds_toArray, List.set_cons_zero, List.set_cons_succ]
      go_simp
      exact hK.out _ _ (fun j => if j = 3 then true else ℓ j) ⟨N1, N2, x22, .slice (some ⟨b1, o1, none⟩) sn sc, .int .i64 (k : Int), .pointer (some ⟨b1, o1 + k * 3, none⟩), x26, x27, x28, x29, x30, x31, x32, x6, x7, (by simp only [Act.put, List.setIfInBounds_toArray, List.set_cons_zero, List.set_cons_succ]), ⟨hr.c13, hr.c14, hr.gb, hr.ne, hr.f0, hr.f1, hr.f2, (fun _ => rfl), hr.f4, hr.f5, hr.f6, hr.f7, hr.f8, hr.f9, hr.f10, hr.f11, hr.f12⟩⟩ (if_pos rfl) (fun j hj => if_neg hj)
    · revert hK
      obtain rfl := Option.some.inj ho
      have g3 : ℓ 3 = true := hdep { on := 3, ground := Ground.data } (by simp) rfl
      clear hdep ho
      obtain rfl := hr.f3 g3
      have cc := (HTX.out _ hr.gb).2.1
      have cc0 := cc.1
      have cc1 := cc.2.1
      have cc2 := cc.2.2
      intro hK
      rw [if_pos (by rfl)]
      try simp only [Act.put, List.setIfInBounds_toArray, List.set_cons_zero, List.set_cons_succ]
      go_simp
      exact hK.out _ _ (fun j => if j = 4 then true else ℓ j) ⟨N1, N2, x22, x23, x24, .pointer (some ⟨b1, o1 + k * 3, none⟩), .agg #[.int .i64 z1, .int .i64 z2, .int .i64 z3], x27, x28, x29, x30, x31, x32, x6, x7, (by simp only [Act.put, List.setIfInBounds_toArray, List.set_cons_zero, List.set_cons_succ]), ⟨hr.c13, hr.c14, hr.gb, hr.ne, hr.f0, hr.f1, hr.f2, hr.f3, (fun _ => rfl), hr.f5, hr.f6, hr.f7, hr.f8, hr.f9, hr.f10, hr.f11, hr.f12⟩⟩ (if_pos rfl) (fun j hj => if_neg hj)
    · revert hK
      obtain rfl := Option.some.inj ho
      clear hdep ho
      intro hK
      rw [if_pos (by rfl)]
      try simp only [Act.put, List.setIfInBounds_toArray, List.set_cons_zero, List.set_cons_succ]
      go_simp
      exact hK.out _ _ (fun j => if j = 5 then true else ℓ j) ⟨N1, N2, x22, x23, x24, x25, x26, .pointer (some ⟨w.heap.size, 18, none⟩), x28, x29, x30, x31, x32, x6, x7, (by simp only [Act.put, List.setIfInBounds_toArray, List.set_cons_zero, List.set_cons_succ]), ⟨hr.c13, hr.c14, hr.gb, hr.ne, hr.f0, hr.f1, hr.f2, hr.f3, hr.f4, (fun _ => rfl), hr.f6, hr.f7, hr.f8, hr.f9, hr.f10, hr.f11, hr.f12⟩⟩ (if_pos rfl) (fun j hj => if_neg hj)
    · revert hK
      obtain rfl := Option.some.inj ho
      have g5 : ℓ 5 = true := hdep { on := 5, ground := Ground.data } (by simp) rfl
      clear hdep ho
      obtain rfl := hr.f5 g5
      have cc := (HTX.out _ hr.gb).1
      intro hK
      rw [if_pos (by rfl)]
      try simp only [Act.put, List.setIfInBounds_toArray, List.set_cons_zero, List.set_cons_succ]
      go_simp
      exact hK.out _ _ (fun j => if j = 6 then true else ℓ j) ⟨N1, N2, x22, x23, x24, x25, x26, .pointer (some ⟨w.heap.size, 18, none⟩), .slice (some ⟨b1, o1, none⟩) sn sc, x29, x30, x31, x32, x6, x7, (by simp only [Act.put, List.setIfInBounds_toArray, List.set_cons_zero, List.set_cons_succ]), ⟨hr.c13, hr.c14, hr.gb, hr.ne, hr.f0, hr.f1, hr.f2, hr.f3, hr.f4, hr.f5, (fun _ => rfl), hr.f7, hr.f8, hr.f9, hr.f10, hr.f11, hr.f12⟩⟩ (if_pos rfl) (fun j hj => if_neg hj)
    · revert hK
      obtain rfl := Option.some.inj ho
      clear hdep ho
      intro hK
      rw [if_pos (by rfl)]
      try simp only [Act.put, List.setIfInBounds_toArray, List.set_cons_zero, List.set_cons_succ]
      go_simp
      exact hK.out _ _ (fun j => if j = 7 then true else ℓ j) ⟨N1, N2, x22, x23, x24, x25, x26, x27, x28, .int .i64 (k : Int), x30, x31, x32, x6, x7, (by simp only [Act.put, List.setIfInBounds_toArray, List.set_cons_zero, List.set_cons_succ]), ⟨hr.c13, hr.c14, hr.gb, hr.ne, hr.f0, hr.f1, hr.f2, hr.f3, hr.f4, hr.f5, hr.f6, (fun _ => rfl), hr.f8, hr.f9, hr.f10, hr.f11, hr.f12⟩⟩ (if_pos rfl) (fun j hj => if_neg hj)
    · revert hK
      obtain rfl := Option.some.inj ho
      have g7 : ℓ 7 = true := hdep { on := 7, ground := Ground.data } (by simp) rfl
      clear hdep ho
      obtain rfl := hr.f7 g7
      have hwr := HWR1.out
      intro hK
      rw [if_pos (by rfl)]
      try simp only [Act.put, List.setIfInBounds_toArray, List.set_cons_zero, List.set_cons_succ]
      go_simp
      try rw [hwr]
      exact hK.out _ _ (fun j => if j = 8 then true else ℓ j) ⟨N1, N2, x22, x23, x24, x25, x26, x27, x28, .int .i64 (k : Int), .int .i64 ((k : Int) + 1), x31, x32, x6, x7, (by simp only [Act.put, List.setIfInBounds_toArray, List.set_cons_zero, List.set_cons_succ]), ⟨hr.c13, hr.c14, hr.gb, hr.ne, hr.f0, hr.f1, hr.f2, hr.f3, hr.f4, hr.f5, hr.f6, hr.f7, (fun _ => rfl), hr.f9, hr.f10, hr.f11, hr.f12⟩⟩ (if_pos rfl) (fun j hj => if_neg hj)
    · revert hK
      obtain rfl := Option.some.inj ho
      have g6 : ℓ 6 = true := hdep { on := 6, ground := Ground.data } (by simp) rfl
      have g8 : ℓ 8 = true := hdep { on := 8, ground := Ground.data } (by simp) rfl
      clear hdep ho
      obtain rfl := hr.f6 g6
      obtain rfl := hr.f8 g8
      have hk1 := HK1.out
      intro hK
      rw [if_pos (by rfl)]
      try simp only [Act.put, List.setIfInBounds_toArray, List.set_cons_zero, List.set_cons_succ]
      go_simp
      exact hK.out _ _ (fun j => if j = 9 then true else ℓ j) ⟨N1, N2, x22, x23, x24, x25, x26, x27, .slice (some ⟨b1, o1, none⟩) sn sc, x29, .int .i64 ((k : Int) + 1), .pointer (some ⟨b1, o1 + (k + 1) * 3, none⟩), x32, x6, x7, (by simp only [Act.put, List.setIfInBounds_toArray, List.set_cons_zero, List.set_cons_succ]), ⟨hr.c13, hr.c14, hr.gb, hr.ne, hr.f0, hr.f1, hr.f2, hr.f3, hr.f4, hr.f5, hr.f6, hr.f7, hr.f8, (fun _ => rfl), hr.f10, hr.f11, hr.f12⟩⟩ (if_pos rfl) (fun j hj => if_neg hj)
    · revert hK
      obtain rfl := Option.some.inj ho
      have g9 : ℓ 9 = true := hdep { on := 9, ground := Ground.data } (by simp) rfl
      clear hdep ho
      obtain rfl := hr.f9 g9
      have cc := (HTX.out _ hr.gb).2.2
      have cc0 := cc.1
      have cc1 := cc.2.1
      have cc2 := cc.2.2
      intro hK
      rw [if_pos (by rfl)]
      try simp only [Act.put, List.setIfInBounds_toArray, List.set_cons_zero, List.set_cons_succ]
      go_simp
      exact hK.out _ _ (fun j => if j = 10 then true else ℓ j) ⟨N1, N2, x22, x23, x24, x25, x26, x27, x28, x29, x30, .pointer (some ⟨b1, o1 + (k + 1) * 3, none⟩), .agg #[.int .i64 y1, .int .i64 y2, .int .i64 y3], x6, x7, (by simp only [Act.put, List.setIfInBounds_toArray, List.set_cons_zero, List.set_cons_succ]), ⟨hr.c13, hr.c14, hr.gb, hr.ne, hr.f0, hr.f1, hr.f2, hr.f3, hr.f4, hr.f5, hr.f6, hr.f7, hr.f8, hr.f9, (fun _ => rfl), hr.f11, hr.f12⟩⟩ (if_pos rfl) (fun j hj => if_neg hj)
    · revert hK
      obtain rfl := Option.some.inj ho
      clear hdep ho
      have hl13 : ℓ 13 = false := by
        cases h7 : ℓ 13
        · rfl
        · have := (hr.c13 h7).1; rw [this] at hL; cases hL
      have hb9 : Below w'.heap.size w' (w'.alloc (.cells #[.int .i64 0, .int .i64 0, .int .i64 0] 59)) := (Below.refl _ _).alloc (Nat.le_refl _) _
      intro hK
      rw [if_pos (by rfl)]
      try simp only [Act.put, List.setIfInBounds_toArray, List.set_cons_zero, List.set_cons_succ]
      go_simp
      exact hK.out _ _ (fun j => if j = 11 then true else ℓ j) ⟨w'.heap.size, N2, x22, x23, x24, x25, x26, x27, x28, x29, x30, x31, x32, .pointer (some ⟨w'.heap.size, 0, none⟩), x7, (by simp only [Act.put, List.setIfInBounds_toArray, List.set_cons_zero, List.set_cons_succ]), ⟨(fun g => absurd (hl13.symm.trans g) Bool.false_ne_true), hr.c14, hr.gb.trans (hb9.mono hr.gb.size), (fun _ g e => by have h := (hr.f12 g).2.2; cases h13 : ℓ 14 <;> (first | (have q := (Array.getElem?_eq_some_iff.1 (h.1 h13)).1; omega) | (have q := (Array.getElem?_eq_some_iff.1 (h.2 h13)).1; omega))), hr.f0, hr.f1, hr.f2, hr.f3, hr.f4, hr.f5, hr.f6, hr.f7, hr.f8, hr.f9, hr.f10, (fun _ => ⟨rfl, hr.gb.size, fun _ => new_row w' _ _ _ rfl, fun g => absurd (hl13.symm.trans g) Bool.false_ne_true⟩), (fun g => ⟨(hr.f12 g).1, (hr.f12 g).2.1, fun s => row_below ((hr.f12 g).2.2.1 s) hb9, fun s => row_below ((hr.f12 g).2.2.2 s) hb9⟩)⟩⟩ (if_pos rfl) (fun j hj => if_neg hj)
    · revert hK
      obtain rfl := Option.some.inj ho
      clear hdep ho
      have hl13 : ℓ 13 = false := by
        cases h7 : ℓ 13
        · rfl
        · have := (hr.c13 h7).2; rw [this] at hL; cases hL
      have hl14 : ℓ 14 = false := by
        cases h7 : ℓ 14
        · rfl
        · have := hr.c14 h7; rw [this] at hl13; cases hl13
      have hb9 : Below w'.heap.size w' (w'.alloc (.cells #[.int .i64 0, .int .i64 0, .int .i64 0] 59)) := (Below.refl _ _).alloc (Nat.le_refl _) _
      intro hK
      rw [if_pos (by rfl)]
      try simp only [Act.put, List.setIfInBounds_toArray, List.set_cons_zero, List.set_cons_succ]
      go_simp
      exact hK.out _ _ (fun j => if j = 12 then true else ℓ j) ⟨N1, w'.heap.size, x22, x23, x24, x25, x26, x27, x28, x29, x30, x31, x32, x6, .pointer (some ⟨w'.heap.size, 0, none⟩), (by simp only [Act.put, List.setIfInBounds_toArray, List.set_cons_zero, List.set_cons_succ]), ⟨(fun g => absurd (hl13.symm.trans g) Bool.false_ne_true), hr.c14, hr.gb.trans (hb9.mono hr.gb.size), (fun g _ e => by have q := (Array.getElem?_eq_some_iff.1 ((hr.f11 g).2.2.1 hl13)).1; omega), hr.f0, hr.f1, hr.f2, hr.f3, hr.f4, hr.f5, hr.f6, hr.f7, hr.f8, hr.f9, hr.f10, (fun g => ⟨(hr.f11 g).1, (hr.f11 g).2.1, fun s => row_below ((hr.f11 g).2.2.1 s) hb9, fun s => row_below ((hr.f11 g).2.2.2 s) hb9⟩), (fun _ => ⟨rfl, hr.gb.size, fun _ => new_row w' _ _ _ rfl, fun g => absurd (hl14.symm.trans g) Bool.false_ne_true⟩)⟩⟩ (if_pos rfl) (fun j hj => if_neg hj)
    · replace ho : some ({ dst := none, op := Op.store 59 (Operand.tmp 6) (Operand.tmp 26), type := 0, pos := "l23_plan.go:66", after := #[{ on := 11, ground := Ground.data }, { on := 4, ground := Ground.data }, { on := 0, ground := Ground.phase }, { on := 1, ground := Ground.phase }, { on := 2, ground := Ground.phase }, { on := 3, ground := Ground.phase }, { on := 4, ground := Ground.phase }, { on := 5, ground := Ground.textOnly Departure.lateStores }, { on := 6, ground := Ground.textOnly Departure.lateStores }, { on := 7, ground := Ground.textOnly Departure.lateStores }, { on := 8, ground := Ground.textOnly Departure.lateStores }, { on := 9, ground := Ground.textOnly Departure.lateStores }, { on := 10, ground := Ground.textOnly Departure.lateStores }, { on := 11, ground := Ground.phase }, { on := 12, ground := Ground.phase }], guard := none } : Oper) = some o := ho
      revert hK
      obtain rfl := Option.some.inj ho
      have g11 : ℓ 11 = true := hdep { on := 11, ground := Ground.data } (by simp) rfl
      have g4 : ℓ 4 = true := hdep { on := 4, ground := Ground.data } (by simp) rfl
      have g12 : ℓ 12 = true := hdep { on := 12, ground := Ground.phase } (by simp) rfl
      clear hdep ho
      obtain ⟨rfl, hn1, hz1, _⟩ := hr.f11 g11
      obtain rfl := hr.f4 g4
      have hne := hr.ne g11 g12
      have hrow := hz1 hL
      have hl14 : ℓ 14 = false := by
        cases h7 : ℓ 14
        · rfl
        · have := hr.c14 h7; rw [this] at hL; cases hL
      intro hK
      rw [if_pos (by rfl)]
      try simp only [Act.put, List.setIfInBounds_toArray, List.set_cons_zero, List.set_cons_succ]
      refine wp_store_row (P := Tryz.prog) 59 (.tmp 6) (.tmp 26) rfl N1 #[.int .i64 z1, .int .i64 z2, .int .i64 z3] rfl rfl 59 #[.int .i64 0, .int .i64 0, .int .i64 0] hrow (by kernel_rfl) rfl (by simp [Value.oneCell']) ?_
      exact hK.out _ _ (fun j => if j = 13 then true else ℓ j) ⟨N1, N2, x22, x23, x24, x25, .agg #[.int .i64 z1, .int .i64 z2, .int .i64 z3], x27, x28, x29, x30, x31, x32, .pointer (some ⟨N1, 0, none⟩), x7, (by simp only [Act.put, List.setIfInBounds_toArray, List.set_cons_zero, List.set_cons_succ]), ⟨(fun _ => ⟨g11, g12⟩), (fun g => absurd (hl14.symm.trans g) Bool.false_ne_true), below_setRow hr.gb hn1 _, hr.ne, hr.f0, hr.f1, hr.f2, hr.f3, hr.f4, hr.f5, hr.f6, hr.f7, hr.f8, hr.f9, hr.f10, (fun _ => ⟨rfl, hn1, (fun g => by cases g), fun _ => setRow_heap _ _ _ _ _ _ hrow⟩), (fun g => ⟨(hr.f12 g).1, (hr.f12 g).2.1, fun s => (setRow_other _ _ _ _ (fun e => hne e.symm)).trans ((hr.f12 g).2.2.1 s), fun s => absurd (hl14.symm.trans s) Bool.false_ne_true⟩)⟩⟩ (if_pos rfl) (fun j hj => if_neg hj)
    · replace ho : some ({ dst := none, op := Op.store 59 (Operand.tmp 7) (Operand.tmp 32), type := 0, pos := "l23_plan.go:66", after := #[{ on := 12, ground := Ground.data }, { on := 10, ground := Ground.data }, { on := 13, ground := Ground.chain }, { on := 0, ground := Ground.phase }, { on := 1, ground := Ground.phase }, { on := 2, ground := Ground.phase }, { on := 3, ground := Ground.phase }, { on := 4, ground := Ground.phase }, { on := 5, ground := Ground.phase }, { on := 6, ground := Ground.phase }, { on := 7, ground := Ground.phase }, { on := 8, ground := Ground.phase }, { on := 9, ground := Ground.phase }, { on := 10, ground := Ground.phase }, { on := 11, ground := Ground.phase }, { on := 12, ground := Ground.phase }, { on := 13, ground := Ground.phase }], guard := none } : Oper) = some o := ho
      revert hK
      obtain rfl := Option.some.inj ho
      have g12 : ℓ 12 = true := hdep { on := 12, ground := Ground.data } (by simp) rfl
      have g10 : ℓ 10 = true := hdep { on := 10, ground := Ground.data } (by simp) rfl
      have g13 : ℓ 13 = true := hdep { on := 13, ground := Ground.chain } (by simp) rfl
      have g11 : ℓ 11 = true := hdep { on := 11, ground := Ground.phase } (by simp) rfl
      clear hdep ho
      obtain ⟨rfl, hn2, hz2, _⟩ := hr.f12 g12
      obtain rfl := hr.f10 g10
      have hne := hr.ne g11 g12
      have hrow := hz2 hL
      intro hK
      rw [if_pos (by rfl)]
      try simp only [Act.put, List.setIfInBounds_toArray, List.set_cons_zero, List.set_cons_succ]
      refine wp_store_row (P := Tryz.prog) 59 (.tmp 7) (.tmp 32) rfl N2 #[.int .i64 y1, .int .i64 y2, .int .i64 y3] rfl rfl 59 #[.int .i64 0, .int .i64 0, .int .i64 0] hrow (by kernel_rfl) rfl (by simp [Value.oneCell']) ?_
      exact hK.out _ _ (fun j => if j = 14 then true else ℓ j) ⟨N1, N2, x22, x23, x24, x25, x26, x27, x28, x29, x30, x31, .agg #[.int .i64 y1, .int .i64 y2, .int .i64 y3], x6, .pointer (some ⟨N2, 0, none⟩), (by simp only [Act.put, List.setIfInBounds_toArray, List.set_cons_zero, List.set_cons_succ]), ⟨hr.c13, (fun _ => g13), below_setRow hr.gb hn2 _, hr.ne, hr.f0, hr.f1, hr.f2, hr.f3, hr.f4, hr.f5, hr.f6, hr.f7, hr.f8, hr.f9, hr.f10, (fun g => ⟨(hr.f11 g).1, (hr.f11 g).2.1, fun s => (setRow_other _ _ _ _ hne).trans ((hr.f11 g).2.2.1 s), fun s => (setRow_other _ _ _ _ hne).trans ((hr.f11 g).2.2.2 s)⟩), (fun _ => ⟨rfl, hn2, (fun g => by cases g), fun _ => setRow_heap _ _ _ _ _ _ hrow⟩)⟩⟩ (if_pos rfl) (fun j hj => if_neg hj)
  · rintro a' w' ℓ ℓ' hℓ hI
    rw [← show ℓ = ℓ' from funext hℓ]
    exact hI
end Go.Proofs.YthieilkabcehgaaGreatDoor
