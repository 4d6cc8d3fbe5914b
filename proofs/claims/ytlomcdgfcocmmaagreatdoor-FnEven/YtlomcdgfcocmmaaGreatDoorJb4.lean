/-
  Two slots merged: what can be, and the slots behind it. No conditions but those that each fact names.
  Two slots made one, by the program: the tables with the new list of slots. Conditions: the lists lie in memory; both slots are there.
  Whether two slots can be merged, by the program. Conditions: the tables are sound; the lists lie in memory.
  Two slots merged, by the program: whole. Conditions: the lists lie in memory; the numbers fit; the table opExtras lies as its text lays it.
-/
import Derived.Test.YtlomcdgfcocmmaaGreatDoorBas
import Derived.Test.YtlomcdgfcocmmaaGreatDoorJb2
import Derived.Test.YtlomcdgfcocmmaaGreatDoorJb3
import Derived.Deep.Cut
import Derived.Great.BuildSlice
import Derived.Test.YtlomcdgfcocmmaaGreatDoorRl3
import Derived.Test.YtlomcdgfcocmmaaGreatDoorJb1
namespace Go.Proofs.YtlomcdgfcocmmaaGreatDoor
open Go.ChangeShapes Go.WideShapes Go.ChangeAt Go.RowKit Go.Deep Go.Joins
set_option linter.unusedVariables false

/-- Slot x and the next belong to one partition and meet. -/
def CanG (t : Tb) (x : Int) : Prop := Sd t ∧ (0 ≤ x ∧ x + 1 < (t.ss.length : Int)) ∧ (t.ss.getD x.toNat sl0).1 = (t.ss.getD (x.toNat + 1) sl0).1 ∧ (t.ss.getD x.toNat sl0).2.1 + (t.ss.getD x.toNat sl0).2.2 = (t.ss.getD (x.toNat + 1) sl0).2.1
/-- The slots behind the merge. -/
def mrgL (ss : List slT) (k : Nat) : List slT := ss.take k ++ [((ss.getD k sl0).1, (ss.getD k sl0).2.1, (ss.getD k sl0).2.2 + (ss.getD (k + 1) sl0).2.2)] ++ ss.drop (k + 2)
theorem mrgL_len {ss : List slT} {k : Nat} (hk : k + 1 < ss.length) : (mrgL ss k).length = ss.length - 1 := by
  simp only [mrgL, List.length_append, List.length_take, List.length_drop, List.length_cons, List.length_nil]
  omega
theorem sl_mem {ss : List slT} {i : Nat} (h : i < ss.length) : ss.getD i sl0 ∈ ss := by
  rw [List.getD_eq_getElem?_getD, List.getElem?_eq_getElem h]
  exact List.getElem_mem h
theorem mrgL_rng {t : Tb} (h : Tm t) {k : Nat} (hk : k + 1 < t.ss.length) : ∀ i, i < (mrgL t.ss k).length → 0 ≤ ((mrgL t.ss k).getD i sl0).2.1 ∧ ((mrgL t.ss k).getD i sl0).2.1 ≤ 10000 := by
  have hall : ∀ x ∈ t.ss, 0 ≤ x.2.1 ∧ x.2.1 ≤ 10000 := fun x hx => by
    obtain ⟨j, hj, e⟩ := List.getElem_of_mem hx
    have e2 : t.ss.getD j sl0 = x := by rw [List.getD_eq_getElem?_getD, List.getElem?_eq_getElem hj]; exact e
    have h1 := h.st j hj
    have h2 := h.en j hj
    have h3 := h.ln j hj
    have h4 := h.maj2
    have h5 := h.pad1
    have h6 := h.grd1
    rw [e2] at h1 h2 h3
    omega
  intro i hi
  have hm := sl_mem hi
  generalize (mrgL t.ss k).getD i sl0 = y at hm
  simp only [mrgL, List.mem_append, List.mem_singleton] at hm
  rcases hm with (hm | hm) | hm
  · exact hall y (List.mem_of_mem_take hm)
  · rw [hm]
    exact hall (t.ss.getD k sl0) (sl_mem (by omega))
  · exact hall y (List.mem_of_mem_drop hm)
/-- What Merge answers. -/
def MgA (t : Tb) (x : Int) (R : Tb) (q : Bool) : Prop := (¬ CanG t x ∧ R = tz ∧ q = false) ∨ (CanG t x ∧ R = { t with ss := mrgL t.ss x.toNat } ∧ q = true)
theorem MgA.uniq {t : Tb} {x : Int} {R R' : Tb} {q q' : Bool} (h : MgA t x R q) (g : MgA t x R' q') : R = R' ∧ q = q' := by
  rcases h with ⟨h1, h2, h3⟩ | ⟨h1, h2, h3⟩ <;> rcases g with ⟨g1, g2, g3⟩ | ⟨g1, g2, g3⟩
  · exact ⟨h2.trans g2.symm, h3.trans g3.symm⟩
  · exact absurd g1 h1
  · exact absurd h1 g1
  · exact ⟨h2.trans g2.symm, h3.trans g3.symm⟩
end Go.Proofs.YtlomcdgfcocmmaaGreatDoor
namespace Go.Proofs.YtlomcdgfcocmmaaGreatDoor
open Go.ChangeShapes Go.WideShapes Go.ChangeAt Go.RowKit Go.Deep Go.Joins
set_option linter.unusedVariables false

set_option maxRecDepth 20000
theorem slX_drop2 {ss : List slT} {k i : Nat} : slX (ss.drop k) i = slX ss (k + i) := slX_drop
theorem sl_fromx (b o n c m : Nat) (x : Int) (hx : x = (m : Int)) (hk : m ≤ n) (hnc : n ≤ c) (ss : List slT) : ∃ aR, (∀ w, (Instr.slice 31 (.slice (some ⟨b, o, none⟩) n c) (some (.int .i64 x)) none none).run Tryz.prog w = .ok (.slice aR (n - m) (c - m)) w) ∧ ∀ X, GSeg 3 X (some ⟨b, o, none⟩) n (slX ss) → GSeg 3 X aR (n - m) (slX (ss.drop m)) := by
  subst hx
  by_cases h1 : c = m
  · refine ⟨some ⟨b, o, none⟩, fun w => ?_, fun X h h0 => absurd h0 (by omega)⟩
    rw [run_slice_l w 31 _ n c Tryz.underlying31 .i64 (m : Int) (by omega) (by omega)]
    simp [e_sl, sliced, h1]
  · refine ⟨some ⟨b, o + m * 3, none⟩, fun w => ?_, fun X h h0 => ?_⟩
    · rw [run_slice_l w 31 _ n c Tryz.underlying31 .i64 (m : Int) (by omega) (by omega)]
      simp [e_sl, sliced, Addr.add, h1]
    · obtain ⟨b', o', e', hlt, hc⟩ := h (by omega)
      injection e' with e'
      injection e' with e1 e2
      subst e1 e2
      exact ⟨_, _, rfl, hlt, fun i hi => by
        have := hc (m + i) (by omega)
        rw [slX_drop2, show o + m * 3 + i * 3 = o + (m + i) * 3 by omega]
        exact this⟩
theorem one_seg {X : World} {M : Nat} {x1 : slT} (h : X.heap[M]? = some (.cells #[.int .i64 x1.1, .int .i64 x1.2.1, .int .i64 x1.2.2] 42 (0, 0))) : GSeg 3 X (some ⟨M, 0, none⟩) 1 (slX [x1]) := fun _ => by
  refine ⟨M, 0, rfl, (Array.getElem?_eq_some_iff.1 h).1, fun i hi j v hj => ?_⟩
  have hj3 : j < 3 := (List.getElem?_eq_some_iff.1 hj).1
  obtain rfl : i = 0 := by omega
  have hj2 : j = 0 ∨ j = 1 ∨ j = 2 := by omega
  rcases hj2 with rfl | rfl | rfl <;> (injection hj with hj; subst hj; exact row_cell h _ _ rfl)
theorem res_mg {W : World} {B : Nat} {cs : Array Value} {tmps : Array Value} (h : W.heap[B]? = some (.cells cs 33 (0, 0))) (hl : cs.size = 19) (ht : tmps[4]? = some (.pointer (some ⟨B, 0, none⟩))) : (results Tryz.f40 tmps).run Tryz.prog W = .ok (.agg cs) W := by
  have hld : (loadVar 33 ⟨B, 0, none⟩).run Tryz.prog W = .ok (.agg cs) W := run_loadVar_row (P := Tryz.prog) W B 33 33 cs (0, 0) _ h Tryz.underlying33 rfl (by rw [hl]; kernel_rfl)
  unfold results
  rw [Tryz.results40]
  simp [ht, asAddr, hld]
/-- The sum of both lengths, in whatever order it is made. -/
structure Im2 (WB : World) (T0 N1 : Nat) (sa : Option Addr) (sn sc k : Nat) (P P2 : Addr) (z3 y3 : Int) (w' : World) (b0 b1 b2 b3 b4 b5 b6 b7 b8 b9 b10 b11 : Bool) (x11 x12 x13 x14 x15 x16 x17 x18 x19 x20 x21 : Value) : Prop where
  c11 : b11 = true → b0 = true ∧ b1 = true ∧ b2 = true ∧ b3 = true ∧ b4 = true ∧ b5 = true ∧ b6 = true ∧ b7 = true ∧ b8 = true ∧ b9 = true ∧ b10 = true
  v0 : b11 = false → Below WB.heap.size WB w'
  v1 : b11 = true → ∃ V, Below WB.heap.size WB V ∧ w' = V.setCell ⟨N1, 2, none⟩ (.int .i64 (z3 + y3))
  f0 : b0 = true → x11 = .pointer (some ⟨N1, 2, none⟩)
  f1 : b1 = true → x12 = .int .i64 z3
  f2 : b2 = true → x13 = .pointer (some ⟨T0, 18, none⟩)
  f3 : b3 = true → x14 = .slice sa sn sc
  f4 : b4 = true → x15 = .int .i64 (k : Int)
  f5 : b5 = true → x16 = .int .i64 ((k : Int) + 1)
  f6 : b6 = true → x17 = .pointer (some P)
  f7 : b7 = true → x18 = .pointer (some P2)
  f8 : b8 = true → x19 = .int .i64 y3
  f9 : b9 = true → x20 = .int .i64 (z3 + y3)
  f10 : b10 = true → x21 = .pointer (some ⟨N1, 2, none⟩)
/-- The lists joined, in whatever order what they are made of comes up. -/
structure Im3 (WC : World) (T0 : Nat) (sa : Option Addr) (sn sc k : Nat) (aL aR : Option Addr) (N : Nat) (Xs : Nat → List slT) (z1 z2 z4 : Int) (w' : World) (b0 b1 b2 b3 b4 b5 b6 b7 b8 b9 b10 b11 b12 b13 b14 : Bool) (x22 x23 x24 x25 x26 x27 x28 x29 x30 x31 x32 x33 x34 x35 : Value) : Prop where
  c14 : b14 = true → b0 = true ∧ b1 = true ∧ b2 = true ∧ b3 = true ∧ b4 = true ∧ b5 = true ∧ b6 = true ∧ b7 = true ∧ b8 = true ∧ b9 = true ∧ b10 = true ∧ b11 = true ∧ b12 = true ∧ b13 = true
  gb : b14 = false → Below WC.heap.size WC w'
  v1 : b14 = true → ∃ V A' c, Below WC.heap.size WC V ∧ GSegL 3 WC.heap.size V A' N (slX (catN Xs 3)) ∧ N ≤ c ∧ w' = V.setCell ⟨T0, 18, none⟩ (.slice A' N c)
  f0 : b0 = true → x22 = .pointer (some ⟨T0, 18, none⟩)
  f1 : b1 = true → x23 = .slice sa sn sc
  f2 : b2 = true → x24 = .int .i64 (k : Int)
  f3 : b3 = true → x25 = .slice aL k sc
  f4 : b4 = true → x26 = .agg #[.int .i64 z1, .int .i64 z2, .int .i64 z4]
  f5 : b5 = true → ∃ M, x27 = .slice (some ⟨M, 0, none⟩) 1 1 ∧ (b14 = false → w'.heap[M]? = some (.cells #[.int .i64 z1, .int .i64 z2, .int .i64 z4] 42 (0, 0)))
  f6 : b6 = true → x28 = .pointer (some ⟨T0, 18, none⟩)
  f7 : b7 = true → x29 = .slice sa sn sc
  f8 : b8 = true → x30 = .int .i64 (k : Int)
  f9 : b9 = true → x31 = .int .i64 ((k : Int) + 2)
  f10 : b10 = true → x32 = .slice aR (sn - (k + 2)) (sc - (k + 2))
  f11 : b11 = true → ∃ M C, x33 = .slice (some ⟨C, 0, none⟩) 3 3 ∧ (b14 = false → Thr w' C (thA aL M aR) (thN k 1 (sn - (k + 2))) (thN sc 1 (sc - (k + 2))) Xs N)
  f12 : b12 = true → ∃ A' c, x34 = .slice A' N c ∧ N ≤ c ∧ (b14 = false → GSegL 3 WC.heap.size w' A' N (slX (catN Xs 3)))
  f13 : b13 = true → x35 = .pointer (some ⟨T0, 18, none⟩)
set_option maxRecDepth 40000 in
set_option maxHeartbeats 16000000 in
theorem impl_mg (t : Tb) (a : Ad) (k : Nat) (w : World) (hm : TM 0 w t a) (hw : TW t a) (hs : TS a) (hcs : a.sn ≤ a.sc) (hc : CanG t k) :
    Calls Tryz.prog 40 #[tbV t a, .int .i64 (k : Int)] w fun e w' => ∃ a', e = .returned (tbV { t with ss := mrgL t.ss k } a') ∧ Below w.heap.size w w' ∧ TM 0 w' { t with ss := mrgL t.ss k } a' ∧ TW { t with ss := mrgL t.ss k } a' ∧ TS a' ∧ a'.sn ≤ a'.sc := by
  have hkl : k + 1 < t.ss.length := by have := hc.2.1.2; omega
  have hk : k < a.sn := by rw [← hw.sl]; omega
  have hk2 : k + 1 < a.sn := by rw [← hw.sl]; exact hkl
  have HTM : Hid (Tm t) := sd_tm hc.1
  have hst := HTM.out.st k (by omega)
  have hen := HTM.out.en k (by omega)
  have hen2 := HTM.out.en (k + 1) hkl
  have hst2 := HTM.out.st (k + 1) hkl
  have hln := HTM.out.ln k (by omega)
  have hln2 := HTM.out.ln (k + 1) hkl
  have hp1 := HTM.out.pad1
  have hg1 := HTM.out.grd1
  have hmj := HTM.out.maj2
  have hn16 : a.sn ≤ 16 := by rw [← hw.sl]; exact HTM.out.n2
  have HMM : Hid (∀ X, Below w.heap.size w X → TM 0 X t a) := fun X hX => hm.below hX
  have HTW : Hid (TW t a ∧ TS a ∧ a.sn ≤ a.sc) := ⟨hw, hs, hcs⟩
  have HB2 : Hid (Below w.heap.size w ((w.alloc (.cells (tbA t a) 33)).alloc (.cells #[.int .i64 0, .int .i64 0, .int .i64 0, .int .i64 0, .int .i64 0, .int .i64 0, .int .i64 0, .int .i64 0, .int .i64 0, .int .i64 0, .int .i64 0, .int .i64 0, .int .i64 0, .int .i64 0, .int .i64 0, .slice none 0 0, .slice none 0 0, .slice none 0 0, .slice none 0 0] 33))) := ((Below.refl _ _).alloc (Nat.le_refl _) _).alloc (by simp) _
  have HX2 : Hid (TBx ((w.alloc (.cells (tbA t a) 33)).alloc (.cells #[.int .i64 0, .int .i64 0, .int .i64 0, .int .i64 0, .int .i64 0, .int .i64 0, .int .i64 0, .int .i64 0, .int .i64 0, .int .i64 0, .int .i64 0, .int .i64 0, .int .i64 0, .int .i64 0, .int .i64 0, .slice none 0 0, .slice none 0 0, .slice none 0 0, .slice none 0 0] 33)) w.heap.size t a) := (TBx.new w t a _ rfl).below ((Below.refl _ _).alloc (Nat.le_refl _) _)
  have HR2 : Hid (((w.alloc (.cells (tbA t a) 33)).alloc (.cells #[.int .i64 0, .int .i64 0, .int .i64 0, .int .i64 0, .int .i64 0, .int .i64 0, .int .i64 0, .int .i64 0, .int .i64 0, .int .i64 0, .int .i64 0, .int .i64 0, .int .i64 0, .int .i64 0, .int .i64 0, .slice none 0 0, .slice none 0 0, .slice none 0 0, .slice none 0 0] 33)).heap[w.heap.size + 1]? = some (.cells #[.int .i64 0, .int .i64 0, .int .i64 0, .int .i64 0, .int .i64 0, .int .i64 0, .int .i64 0, .int .i64 0, .int .i64 0, .int .i64 0, .int .i64 0, .int .i64 0, .int .i64 0, .int .i64 0, .int .i64 0, .slice none 0 0, .slice none 0 0, .slice none 0 0, .slice none 0 0] 33 (0, 0))) := new_row (w.alloc (.cells (tbA t a) 33)) _ _ _ (by simp)
  obtain ⟨b1, o1, hsa, hbl1, p1⟩ := (hm.below HB2.out).s.seg.at k hk
  have p2 : CellsAt ((w.alloc (.cells (tbA t a) 33)).alloc (.cells #[.int .i64 0, .int .i64 0, .int .i64 0, .int .i64 0, .int .i64 0, .int .i64 0, .int .i64 0, .int .i64 0, .int .i64 0, .int .i64 0, .int .i64 0, .int .i64 0, .int .i64 0, .int .i64 0, .int .i64 0, .slice none 0 0, .slice none 0 0, .slice none 0 0, .slice none 0 0] 33)) b1 (o1 + (k + 1) * 3) (slX t.ss (k + 1)) := by
    obtain ⟨b9, o9, hsa9, _, p9⟩ := (hm.below HB2.out).s.seg.at (k + 1) hk2
    rw [hsa] at hsa9
    injection hsa9 with e
    injection e with e1 e2
    subst e1 e2
    exact p9
  obtain ⟨y, HY⟩ : ∃ y, Hid (t.ss.getD k sl0 = y) := ⟨_, rfl⟩
  obtain ⟨yy, HYY⟩ : ∃ y, Hid (t.ss.getD (k + 1) sl0 = y) := ⟨_, rfl⟩
  simp only [slX] at p1 p2
  rw [HY.out] at p1 hst hen hln
  rw [HYY.out] at p2 hst2 hen2 hln2
  obtain ⟨z1, z2, z3⟩ := y
  obtain ⟨y1, y2, y3⟩ := yy
  simp only at hst hen hst2 hen2 hln hln2
  obtain ⟨sn, HSN⟩ : ∃ n, Hid (a.sn = n) := ⟨_, rfl⟩
  obtain ⟨sc, HSC⟩ : ∃ n, Hid (a.sc = n) := ⟨_, rfl⟩
  have HTX : Hid (∀ X, Below ((w.alloc (.cells (tbA t a) 33)).alloc (.cells #[.int .i64 0, .int .i64 0, .int .i64 0, .int .i64 0, .int .i64 0, .int .i64 0, .int .i64 0, .int .i64 0, .int .i64 0, .int .i64 0, .int .i64 0, .int .i64 0, .int .i64 0, .int .i64 0, .int .i64 0, .slice none 0 0, .slice none 0 0, .slice none 0 0, .slice none 0 0] 33)).heap.size ((w.alloc (.cells (tbA t a) 33)).alloc (.cells #[.int .i64 0, .int .i64 0, .int .i64 0, .int .i64 0, .int .i64 0, .int .i64 0, .int .i64 0, .int .i64 0, .int .i64 0, .int .i64 0, .int .i64 0, .int .i64 0, .int .i64 0, .int .i64 0, .int .i64 0, .slice none 0 0, .slice none 0 0, .slice none 0 0, .slice none 0 0] 33)) X → X.cell? ⟨w.heap.size, 18, none⟩ = some (.slice (some ⟨b1, o1, none⟩) sn sc) ∧ (X.cell? ⟨b1, o1 + k * 3, none⟩ = some (.int .i64 z1) ∧ X.cell? ⟨b1, o1 + k * 3 + 1, none⟩ = some (.int .i64 z2) ∧ X.cell? ⟨b1, o1 + k * 3 + 2, none⟩ = some (.int .i64 z3)) ∧ X.cell? ⟨b1, o1 + (k + 1) * 3 + 2, none⟩ = some (.int .i64 y3)) := fun X hX => by
    have h1 := (HX2.out.below hX).cell 18 (v := .slice a.sa a.sn a.sc) rfl
    rw [hsa, HSN.out, HSC.out] at h1
    exact ⟨h1, sl_cells (p1.below hX), (sl_cells (p2.below hX)).2.2⟩
  have HSG : Hid (∀ X, Below w.heap.size w X → GSeg 3 X (some ⟨b1, o1, none⟩) sn (slX t.ss)) := fun X hX => by
    have h1 := (hm.below hX).s.seg
    rw [hsa, HSN.out] at h1
    exact h1
  have hnc : sn ≤ sc := by have := HSN.out; have := HSC.out; omega
  have hn15 : sn ≤ 16 := by have := HSN.out; omega
  have HLN : Hid (t.ss.length = sn) := hw.sl.trans HSN.out
  have hks : (k : Int) < (sn : Int) := by have := HSN.out; omega
  have hkn : k + 1 < sn := by have := HSN.out; omega
  have HK1 : Hid ((k : Int) + 1 < (sn : Int)) := by show _ < _; omega
  have HWR : Hid (IntKind.i64.wrap ((k : Int) + 1) = (k : Int) + 1 ∧ IntKind.i64.wrap (z3 + y3) = z3 + y3 ∧ IntKind.i64.wrap ((k : Int) + 2) = (k : Int) + 2) := by
    refine ⟨?_, ?_, ?_⟩ <;> (rw [IntKind.wrap_i64]; omega)
  clear hm hw hs hcs hc p1 p2 hbl1 hsa
  go_enter Tryz.func40, Tryz.ntmps40
  go_upto_region 1 with (fail)
  revert HB2 HX2 HR2 HTX
  generalize ((w.alloc (.cells (tbA t a) 33)).alloc (.cells #[.int .i64 0, .int .i64 0, .int .i64 0, .int .i64 0, .int .i64 0, .int .i64 0, .int .i64 0, .int .i64 0, .int .i64 0, .int .i64 0, .int .i64 0, .int .i64 0, .int .i64 0, .int .i64 0, .int .i64 0, .slice none 0 0, .slice none 0 0, .slice none 0 0, .slice none 0 0] 33)) = WA
  intro HB2 HX2 HR2 HTX
  have c0 := HTX.out _ (Below.refl _ _)
  have c18 := c0.1
  have c1 := c0.2.1.1
  have c2 := c0.2.1.2.1
  have c3 := c0.2.1.2.2
  clear c0
  have HN : Hid ((WA.alloc (.cells #[.int .i64 0, .int .i64 0, .int .i64 0] 42)).heap[WA.heap.size]? = some (.cells #[.int .i64 0, .int .i64 0, .int .i64 0] 42 (0, 0))) := new_row WA _ _ _ rfl
  have HV1 : Hid (((WA.alloc (.cells #[.int .i64 0, .int .i64 0, .int .i64 0] 42)).setRow WA.heap.size #[.int .i64 z1, .int .i64 z2, .int .i64 z3]).heap[WA.heap.size]? = some (.cells #[.int .i64 z1, .int .i64 z2, .int .i64 z3] 42 (0, 0))) := setRow_heap _ _ _ _ _ _ HN.out
  have HGV : Hid (Below WA.heap.size WA ((WA.alloc (.cells #[.int .i64 0, .int .i64 0, .int .i64 0] 42)).setRow WA.heap.size #[.int .i64 z1, .int .i64 z2, .int .i64 z3])) := below_setRow ((Below.refl _ _).alloc (Nat.le_refl _) _) (Nat.le_refl _) _
  go_wp2_with (first | (refine wpList_store_row rfl 42 (.tmp 5) (.tmp 10) rfl WA.heap.size #[.int .i64 z1, .int .i64 z2, .int .i64 z3] rfl rfl 42 #[.int .i64 0, .int .i64 0, .int .i64 0] HN.out (by kernel_rfl) rfl (by simp [Value.oneCell']) ?_) | fail)
  clear HN c18 c1 c2 c3
  obtain ⟨N1, HN1⟩ : ∃ n, Hid (WA.heap.size = n) := ⟨_, rfl⟩
  have HN12 : Hid (WA.heap.size ≤ N1) := Nat.le_of_eq HN1.out
  revert HV1 HGV
  generalize ((WA.alloc (.cells #[.int .i64 0, .int .i64 0, .int .i64 0] 42)).setRow WA.heap.size #[.int .i64 z1, .int .i64 z2, .int .i64 z3]) = WB
  rw [HN1.out]
  intro HV1 HGV0
  have HGV : Hid (Below WA.heap.size WA WB) := by rw [HN1.out]; exact HGV0.out
  clear HGV0
  have HQ : Hid (∀ X, Below WB.heap.size WB X → X.cell? ⟨w.heap.size, 18, none⟩ = some (.slice (some ⟨b1, o1, none⟩) sn sc) ∧ X.cell? ⟨b1, o1 + (k + 1) * 3 + 2, none⟩ = some (.int .i64 y3) ∧ X.cell? ⟨N1, 2, none⟩ = some (.int .i64 z3) ∧ X.frozen? ⟨N1, 2, none⟩ = false) := fun X hX => by
    have h1 := row_below HV1.out hX
    have h2 := HTX.out X (HGV.out.trans (hX.mono HGV.out.size))
    exact ⟨h2.1, h2.2.2, row_cell h1 2 _ rfl, row_free h1 2⟩
  refine wp_region_inv (by kernel_rfl) (by kernel_rfl) (fun A ℓ a' w' => ∃ (x11 x12 x13 x14 x15 x16 x17 x18 x19 x20 x21 : Value), a' = (((((((((((A.put (some 11) x11).put (some 12) x12).put (some 13) x13).put (some 14) x14).put (some 15) x15).put (some 16) x16).put (some 17) x17).put (some 18) x18).put (some 19) x19).put (some 20) x20).put (some 21) x21) ∧ Im2 WB w.heap.size N1 (some ⟨b1, o1, none⟩) sn sc k ⟨b1, o1 + (k + 1) * 3, none⟩ ⟨b1, o1 + (k + 1) * 3 + 2, none⟩ z3 y3 w'  (ℓ 0) (ℓ 1) (ℓ 2) (ℓ 3) (ℓ 4) (ℓ 5) (ℓ 6) (ℓ 7) (ℓ 8) (ℓ 9) (ℓ 10) (ℓ 11) x11 x12 x13 x14 x15 x16 x17 x18 x19 x20 x21) ?_ ?_ ?_ ?_
  · exact ⟨undef, undef, undef, undef, undef, undef, undef, undef, undef, undef, undef, (by simp only [Act.put, List.setIfInBounds_toArray, List.set_cons_zero, List.set_cons_succ]), ⟨(fun g => by cases g), (fun _ => (Below.refl _ _).drew), (fun g => by cases g), (fun g => by cases g), (fun g => by cases g), (fun g => by cases g), (fun g => by cases g), (fun g => by cases g), (fun g => by cases g), (fun g => by cases g), (fun g => by cases g), (fun g => by cases g), (fun g => by cases g), (fun g => by cases g)⟩⟩
  · intro ℓ a' w' hI hall
    obtain ⟨x11, x12, x13, x14, x15, x16, x17, x18, x19, x20, x21, rfl, hr⟩ := hI
    have hall' : ∀ i, i < 12 → ℓ i = true := hall
    obtain ⟨V, hbV, rfl⟩ := hr.v1 (hall' 11 (by decide))
    clear hr hall hall'
    have HW1 : Hid ((V.setCell ⟨N1, 2, none⟩ (.int .i64 (z3 + y3))).heap[N1]? = some (.cells #[.int .i64 z1, .int .i64 z2, .int .i64 (z3 + y3)] 42 (0, 0))) := r3_set (row_below HV1.out hbV) 2 _ rfl
    have HGW : Hid (Below WA.heap.size WA (V.setCell ⟨N1, 2, none⟩ (.int .i64 (z3 + y3)))) := (HGV.out.trans (hbV.mono HGV.out.size)).setCell (p := ⟨N1, 2, none⟩) HN12.out _
    simp only [Act.put, List.setIfInBounds_toArray, List.set_cons_zero, List.set_cons_succ]
    revert HW1 HGW
    generalize V.setCell ⟨N1, 2, none⟩ (.int .i64 (z3 + y3)) = WC
    intro HW1 HGW
    clear HQ HV1 HGV hbV
    have HBC : Hid (Below w.heap.size w WC) := HB2.out.trans (HGW.out.mono HB2.out.size)
    have HXC : Hid (TBx WC w.heap.size t a) := HX2.out.below HGW.out
    have HRC : Hid (WC.heap[w.heap.size + 1]? = some (.cells #[.int .i64 0, .int .i64 0, .int .i64 0, .int .i64 0, .int .i64 0, .int .i64 0, .int .i64 0, .int .i64 0, .int .i64 0, .int .i64 0, .int .i64 0, .int .i64 0, .int .i64 0, .int .i64 0, .int .i64 0, .slice none 0 0, .slice none 0 0, .slice none 0 0, .slice none 0 0] 33 (0, 0))) := row_below HR2.out HGW.out
    have HT01 : Hid (w.heap.size < WC.heap.size ∧ w.heap.size + 1 < WC.heap.size) := ⟨(Array.getElem?_eq_some_iff.1 HXC.out).1, (Array.getElem?_eq_some_iff.1 HRC.out).1⟩
    have HT4 : Hid (∀ X, Below WC.heap.size WC X → (X.cell? ⟨w.heap.size, 18, none⟩ = some (.slice (some ⟨b1, o1, none⟩) sn sc) ∧ X.frozen? ⟨w.heap.size, 18, none⟩ = false) ∧ X.cell? ⟨N1, 0, none⟩ = some (.int .i64 z1) ∧ X.cell? ⟨N1, 1, none⟩ = some (.int .i64 z2) ∧ X.cell? ⟨N1, 2, none⟩ = some (.int .i64 (z3 + y3))) := fun X hX => by
      have h1 := row_below HW1.out hX
      have h3 := HXC.out.below hX
      unfold TBx at h3
      exact ⟨⟨(HTX.out X (HGW.out.trans (hX.mono HGW.out.size))).1, row_free h3 18⟩, row_cell h1 0 _ rfl, row_cell h1 1 _ rfl, row_cell h1 2 _ rfl⟩
    obtain ⟨aL, hL1, hL2⟩ := sl_to b1 o1 sn sc k (by omega) hnc t.ss
    obtain ⟨aR, hR1, hR2⟩ := sl_fromx b1 o1 sn sc (k + 2) ((k : Int) + 2) (by omega) (by omega) hnc t.ss
    have HSL : Hid (∀ W, (Instr.slice 31 (.slice (some ⟨b1, o1, none⟩) sn sc) none (some (.int .i64 (k : Int))) none).run Tryz.prog W = .ok (.slice aL k sc) W) := hL1
    have HSR : Hid (∀ W, (Instr.slice 31 (.slice (some ⟨b1, o1, none⟩) sn sc) (some (.int .i64 ((k : Int) + 2))) none none).run Tryz.prog W = .ok (.slice aR (sn - (k + 2)) (sc - (k + 2))) W) := hR1
    obtain ⟨Xs, HXS⟩ : ∃ Xs, Hid (Xs = thX (t.ss.take k) [(z1, z2, z3 + y3)] (t.ss.drop (k + 2))) := ⟨_, rfl⟩
    obtain ⟨N, HNN⟩ : ∃ N, Hid (N = sn - 1) := ⟨_, rfl⟩
    have HCN : Hid (catN Xs 3 = mrgL t.ss k) := by
      show _ = _
      rw [HXS.out]
      unfold mrgL
      rw [HY.out, HYY.out]
      simp [catN, thX]
    have HTH : Hid (∀ X M C, Below WC.heap.size WC X → X.heap[M]? = some (.cells #[.int .i64 z1, .int .i64 z2, .int .i64 (z3 + y3)] 42 (0, 0)) → X.heap[C]? = some (.cells #[.slice aL k sc, .slice (some ⟨M, 0, none⟩) 1 1, .slice aR (sn - (k + 2)) (sc - (k + 2))] 31 (0, 0)) → Thr X C (thA aL M aR) (thN k 1 (sn - (k + 2))) (thN sc 1 (sc - (k + 2))) Xs N) := fun X M C hX h1 h2 => by
      have hbw : Below w.heap.size w X := HBC.out.trans (hX.mono HBC.out.size)
      have hl := HLN.out
      rw [HXS.out, HNN.out]
      have hi3 : ∀ i, i < 3 → i = 0 ∨ i = 1 ∨ i = 2 := fun i hi => by omega
      refine ⟨fun i hi => ?_, fun i hi => ?_, ?_, fun i hi => ?_⟩
      · rcases hi3 i hi with rfl | rfl | rfl <;> exact row_cell h2 _ _ rfl
      · rcases hi3 i hi with rfl | rfl | rfl
        · show (t.ss.take k).length = k
          rw [List.length_take]
          omega
        · rfl
        · show (t.ss.drop (k + 2)).length = sn - (k + 2)
          rw [List.length_drop]
          omega
      · show k + 1 + (sn - (k + 2)) = sn - 1
        omega
      · rcases hi3 i hi with rfl | rfl | rfl
        · exact hL2 X (HSG.out X hbw)
        · exact one_seg h1
        · exact hR2 X (HSG.out X hbw)
    have hN1 : 1 ≤ N := by have := HNN.out; omega
    have hN60 : N ≤ 60 := by have := HNN.out; omega
    obtain ⟨iS, hi1, hi2, hi3, hi4⟩ := sli
    have HIS : Hid (Tryz.prog.info? 42 = some iS ∧ iS.zero = some (.agg #[.int .i64 0, .int .i64 0, .int .i64 0]) ∧ iS.size = 3) := ⟨hi1, hi2, hi3⟩
    obtain ⟨iT, hj1, hj2, hj3⟩ := slj
    have HIT : Hid (Tryz.prog.info? 31 = some iT ∧ iT.zero = some (.slice none 0 0) ∧ iT.size = 1) := ⟨hj1, hj2, hj3⟩
    clear hL1 hL2 hR1 hR2 hi1 hi2 hi3 hi4 hj1 hj2 hj3
    go_wp2
    refine wp_region_inv (by kernel_rfl) (by kernel_rfl) (fun A ℓ a' w' => ∃ (x22 x23 x24 x25 x26 x27 x28 x29 x30 x31 x32 x33 x34 x35 : Value), a' = ((((((((((((((A.put (some 22) x22).put (some 23) x23).put (some 24) x24).put (some 25) x25).put (some 26) x26).put (some 27) x27).put (some 28) x28).put (some 29) x29).put (some 30) x30).put (some 31) x31).put (some 32) x32).put (some 33) x33).put (some 34) x34).put (some 35) x35) ∧ Im3 WC w.heap.size (some ⟨b1, o1, none⟩) sn sc k aL aR N Xs z1 z2 (z3 + y3) w'  (ℓ 0) (ℓ 1) (ℓ 2) (ℓ 3) (ℓ 4) (ℓ 5) (ℓ 6) (ℓ 7) (ℓ 8) (ℓ 9) (ℓ 10) (ℓ 11) (ℓ 12) (ℓ 13) (ℓ 14) x22 x23 x24 x25 x26 x27 x28 x29 x30 x31 x32 x33 x34 x35) ?_ ?_ ?_ ?_
    · exact ⟨undef, undef, undef, undef, undef, undef, undef, undef, undef, undef, undef, undef, undef, undef, (by simp only [Act.put, List.setIfInBounds_toArray, List.set_cons_zero, List.set_cons_succ]), ⟨(fun g => by cases g), (fun _ => (Below.refl _ _).drew), (fun g => by cases g), (fun g => by cases g), (fun g => by cases g), (fun g => by cases g), (fun g => by cases g), (fun g => by cases g), (fun g => by cases g), (fun g => by cases g), (fun g => by cases g), (fun g => by cases g), (fun g => by cases g), (fun g => by cases g), (fun g => by cases g), (fun g => by cases g), (fun g => by cases g)⟩⟩
    · intro ℓ a' w' hI hall
      obtain ⟨x22, x23, x24, x25, x26, x27, x28, x29, x30, x31, x32, x33, x34, x35, rfl, hr⟩ := hI
      have hall' : ∀ i, i < 15 → ℓ i = true := hall
      obtain ⟨V, A', c, hbV, hsg, hcc, rfl⟩ := hr.v1 (hall' 14 (by decide))
      clear hr hall hall'
      obtain ⟨af, HAF⟩ : ∃ af : Ad, Hid (af = { a with sa := A', sn := N, sc := c }) := ⟨_, rfl⟩
      have HX5 : Hid ((V.setCell ⟨w.heap.size, 18, none⟩ (.slice A' N c)).heap[w.heap.size]? = some (.cells (tbA t af) 33 (0, 0))) := by
        have h := tbx_set (b := { a with sa := A', sn := N, sc := c }) (HXC.out.below hbV) 18 (.slice A' N c) rfl
        rw [← HAF.out] at h
        exact h
      have HR5 : Hid ((V.setCell ⟨w.heap.size, 18, none⟩ (.slice A' N c)).heap[w.heap.size + 1]? = some (.cells #[.int .i64 0, .int .i64 0, .int .i64 0, .int .i64 0, .int .i64 0, .int .i64 0, .int .i64 0, .int .i64 0, .int .i64 0, .int .i64 0, .int .i64 0, .int .i64 0, .int .i64 0, .int .i64 0, .int .i64 0, .slice none 0 0, .slice none 0 0, .slice none 0 0, .slice none 0 0] 33 (0, 0))) := by
        show _ = _
        rw [block_set_other _ _ _ _ _ (by omega)]
        exact row_below HRC.out hbV
      have HB5 : Hid (Below w.heap.size w (V.setCell ⟨w.heap.size, 18, none⟩ (.slice A' N c))) := (HBC.out.trans (hbV.mono HBC.out.size)).setCell (p := ⟨w.heap.size, 18, none⟩) (Nat.le_refl _) _
      have HS5 : Hid (GSegL 3 WC.heap.size ((V.setCell ⟨w.heap.size, 18, none⟩ (.slice A' N c)).setRow (w.heap.size + 1) (tbA t af)) A' N (slX (catN Xs 3))) := (hsg.other HT01.out.1).setRow _ HT01.out.2
      have HRF : Hid (((V.setCell ⟨w.heap.size, 18, none⟩ (.slice A' N c)).setRow (w.heap.size + 1) (tbA t af)).heap[w.heap.size + 1]? = some (.cells (tbA t af) 33 (0, 0))) := setRow_heap _ _ _ _ _ _ HR5.out
      have HBF : Hid (Below w.heap.size w ((V.setCell ⟨w.heap.size, 18, none⟩ (.slice A' N c)).setRow (w.heap.size + 1) (tbA t af))) := below_setRow HB5.out (by omega) _
      have HCC : Hid (N ≤ c) := hcc
      simp only [Act.put, List.setIfInBounds_toArray, List.set_cons_zero, List.set_cons_succ]
      clear hbV hsg hcc HT4 HTH HSL HSR HIS HIT HB5 HXC HRC
      go_wp2_with (first | (refine wpList_load_row rfl 33 (.tmp 2) rfl w.heap.size rfl 33 (tbA t af) (0, 0) _ HX5.out Tryz.underlying33 rfl (by kernel_rfl) ?_) | (refine wpList_store_row rfl 33 (.tmp 4) (.tmp 36) rfl (w.heap.size + 1) (tbA t af) rfl rfl 33 #[.int .i64 0, .int .i64 0, .int .i64 0, .int .i64 0, .int .i64 0, .int .i64 0, .int .i64 0, .int .i64 0, .int .i64 0, .int .i64 0, .int .i64 0, .int .i64 0, .int .i64 0, .int .i64 0, .int .i64 0, .slice none 0 0, .slice none 0 0, .slice none 0 0, .slice none 0 0] HR5.out (by kernel_rfl) rfl (by simp [Value.oneCell']) ?_) | fail)
      revert HRF HBF HS5
      generalize (V.setCell ⟨w.heap.size, 18, none⟩ (.slice A' N c)).setRow (w.heap.size + 1) (tbA t af) = WF
      intro HS5 HRF HBF
      go_wp2
      refine bodyPost_ret (v := tbV t af) (res_mg HRF.out rfl rfl) rfl ⟨af, rfl, HBF.out, ?_, ?_, ?_, ?_⟩
      · have h := HMM.out _ HBF.out
        have h5 := HS5.out.wide (Nat.zero_le _)
        rw [HCN.out] at h5
        rw [HAF.out]
        exact ⟨h.p, h.d, h.c, h5⟩
      · have h := HTW.out.1
        have hsl : (mrgL t.ss k).length = t.ss.length - 1 := mrgL_len hkl
        have hl := HLN.out
        have hnn := HNN.out
        rw [HAF.out]
        refine ⟨h.pl, h.dl, h.cl, ?_, h.pb, h.db, h.cb, ?_, h.wb, h.wf, fun i hi => ?_⟩
        · show (mrgL t.ss k).length = N
          omega
        · show N ≤ 9223372036854775807
          omega
        · have hi' : i < N := hi
          have e := mrgL_rng HTM.out hkl i (by omega)
          exact ⟨by have := e.2; show (((mrgL t.ss k).getD i sl0).2.1) ≤ _; omega, by have := e.1; show _ ≤ (((mrgL t.ss k).getD i sl0).2.1); omega⟩
      · have h := HTW.out.2.1
        rw [HAF.out]
        exact ⟨h.p, h.d, h.c, by show N ≤ 1048576; omega, h.w⟩
      · rw [HAF.out]
        exact HCC.out
    · intro ℓ a' w' q o hI ho hi hL hdep K hK
      obtain ⟨x22, x23, x24, x25, x26, x27, x28, x29, x30, x31, x32, x33, x34, x35, rfl, hr⟩ := hI
      have hi7 : q < 15 := hi
      have hcs : q = 0 ∨ q = 1 ∨ q = 2 ∨ q = 3 ∨ q = 4 ∨ q = 5 ∨ q = 6 ∨ q = 7 ∨ q = 8 ∨ q = 9 ∨ q = 10 ∨ q = 11 ∨ q = 12 ∨ q = 13 ∨ q = 14 := by omega
      clear hi hi7
      rcases hcs with rfl | rfl | rfl | rfl | rfl | rfl | rfl | rfl | rfl | rfl | rfl | rfl | rfl | rfl | rfl
      · revert hK
        obtain rfl := Option.some.inj ho
        clear hdep ho
        have hl14 : ℓ 14 = false := by
          cases h7 : ℓ 14
          · rfl
          · have := (hr.c14 h7).1; rw [this] at hL; cases hL
        intro hK
        rw [if_pos (by rfl)]
        try simp only [Act.put, List.setIfInBounds_toArray, List.set_cons_zero, List.set_cons_succ]
        go_simp
        exact hK.out _ _ (fun j => if j = 0 then true else ℓ j) ⟨.pointer (some ⟨w.heap.size, 18, none⟩), x23, x24, x25, x26, x27, x28, x29, x30, x31, x32, x33, x34, x35, (by simp only [Act.put, List.setIfInBounds_toArray, List.set_cons_zero, List.set_cons_succ]), ⟨(fun g => absurd (hl14.symm.trans g) Bool.false_ne_true), hr.gb, (fun g => absurd (hl14.symm.trans g) Bool.false_ne_true), (fun _ => rfl), hr.f1, hr.f2, hr.f3, hr.f4, hr.f5, hr.f6, hr.f7, hr.f8, hr.f9, hr.f10, hr.f11, hr.f12, hr.f13⟩⟩ (if_pos rfl) (fun j hj => if_neg hj)
      · revert hK
        obtain rfl := Option.some.inj ho
        have g0 : ℓ 0 = true := hdep { on := 0, ground := Ground.data } (by simp) rfl
        clear hdep ho
        have hl14 : ℓ 14 = false := by
          cases h7 : ℓ 14
          · rfl
          · have := (hr.c14 h7).2.1; rw [this] at hL; cases hL
        obtain rfl := hr.f0 g0
        have cc := (HT4.out _ (hr.gb hl14)).1.1
        intro hK
        rw [if_pos (by rfl)]
        try simp only [Act.put, List.setIfInBounds_toArray, List.set_cons_zero, List.set_cons_succ]
        go_simp
        exact hK.out _ _ (fun j => if j = 1 then true else ℓ j) ⟨.pointer (some ⟨w.heap.size, 18, none⟩), .slice (some ⟨b1, o1, none⟩) sn sc, x24, x25, x26, x27, x28, x29, x30, x31, x32, x33, x34, x35, (by simp only [Act.put, List.setIfInBounds_toArray, List.set_cons_zero, List.set_cons_succ]), ⟨(fun g => absurd (hl14.symm.trans g) Bool.false_ne_true), hr.gb, (fun g => absurd (hl14.symm.trans g) Bool.false_ne_true), hr.f0, (fun _ => rfl), hr.f2, hr.f3, hr.f4, hr.f5, hr.f6, hr.f7, hr.f8, hr.f9, hr.f10, hr.f11, hr.f12, hr.f13⟩⟩ (if_pos rfl) (fun j hj => if_neg hj)
      · revert hK
        obtain rfl := Option.some.inj ho
        clear hdep ho
        have hl14 : ℓ 14 = false := by
          cases h7 : ℓ 14
          · rfl
          · have := (hr.c14 h7).2.2.1; rw [this] at hL; cases hL
        intro hK
        rw [if_pos (by rfl)]
        try simp only [Act.put, List.setIfInBounds_toArray, List.set_cons_zero, List.set_cons_succ]
        go_simp
        exact hK.out _ _ (fun j => if j = 2 then true else ℓ j) ⟨x22, x23, .int .i64 (k : Int), x25, x26, x27, x28, x29, x30, x31, x32, x33, x34, x35, (by simp only [Act.put, List.setIfInBounds_toArray, List.set_cons_zero, List.set_cons_succ]), ⟨(fun g => absurd (hl14.symm.trans g) Bool.false_ne_true), hr.gb, (fun g => absurd (hl14.symm.trans g) Bool.false_ne_true), hr.f0, hr.f1, (fun _ => rfl), hr.f3, hr.f4, hr.f5, hr.f6, hr.f7, hr.f8, hr.f9, hr.f10, hr.f11, hr.f12, hr.f13⟩⟩ (if_pos rfl) (fun j hj => if_neg hj)
      · replace ho : some ({ dst := some 25, op := Op.slice 31 (Operand.tmp 23) none (some (Operand.tmp 24)) none, type := 31, pos := "l23_plan.go:66", after := #[{ on := 1, ground := Ground.data }, { on := 2, ground := Ground.data }], guard := none } : Oper) = some o := ho
        revert hK
        obtain rfl := Option.some.inj ho
        have g1 : ℓ 1 = true := hdep { on := 1, ground := Ground.data } (by simp) rfl
        have g2 : ℓ 2 = true := hdep { on := 2, ground := Ground.data } (by simp) rfl
        clear hdep ho
        have hl14 : ℓ 14 = false := by
          cases h7 : ℓ 14
          · rfl
          · have := (hr.c14 h7).2.2.2.1; rw [this] at hL; cases hL
        obtain rfl := hr.f1 g1
        obtain rfl := hr.f2 g2
        intro hK
        rw [if_pos (by rfl)]
        try simp only [Act.put, List.setIfInBounds_toArray, List.set_cons_zero, List.set_cons_succ]
        refine wp_slice_of (.tmp 23) none (some (.tmp 24)) rfl (.slice aL k sc) (some 25) rfl (HSL.out _) ?_
        try simp only [Act.put, List.setIfInBounds_toArray, List.set_cons_zero, List.set_cons_succ]
        exact hK.out _ _ (fun j => if j = 3 then true else ℓ j) ⟨x22, .slice (some ⟨b1, o1, none⟩) sn sc, .int .i64 (k : Int), .slice aL k sc, x26, x27, x28, x29, x30, x31, x32, x33, x34, x35, (by simp only [Act.put, List.setIfInBounds_toArray, List.set_cons_zero, List.set_cons_succ]), ⟨(fun g => absurd (hl14.symm.trans g) Bool.false_ne_true), hr.gb, (fun g => absurd (hl14.symm.trans g) Bool.false_ne_true), hr.f0, hr.f1, hr.f2, (fun _ => rfl), hr.f4, hr.f5, hr.f6, hr.f7, hr.f8, hr.f9, hr.f10, hr.f11, hr.f12, hr.f13⟩⟩ (if_pos rfl) (fun j hj => if_neg hj)
      · revert hK
        obtain rfl := Option.some.inj ho
        clear hdep ho
        have hl14 : ℓ 14 = false := by
          cases h7 : ℓ 14
          · rfl
          · have := (hr.c14 h7).2.2.2.2.1; rw [this] at hL; cases hL
        have q := (HT4.out _ (hr.gb hl14)).2
        have cc0 := q.1
        have cc1 := q.2.1
        have cc2 := q.2.2
        clear q
        intro hK
        rw [if_pos (by rfl)]
        try simp only [Act.put, List.setIfInBounds_toArray, List.set_cons_zero, List.set_cons_succ]
        go_simp
        exact hK.out _ _ (fun j => if j = 4 then true else ℓ j) ⟨x22, x23, x24, x25, .agg #[.int .i64 z1, .int .i64 z2, .int .i64 (z3 + y3)], x27, x28, x29, x30, x31, x32, x33, x34, x35, (by simp only [Act.put, List.setIfInBounds_toArray, List.set_cons_zero, List.set_cons_succ]), ⟨(fun g => absurd (hl14.symm.trans g) Bool.false_ne_true), hr.gb, (fun g => absurd (hl14.symm.trans g) Bool.false_ne_true), hr.f0, hr.f1, hr.f2, hr.f3, (fun _ => rfl), hr.f5, hr.f6, hr.f7, hr.f8, hr.f9, hr.f10, hr.f11, hr.f12, hr.f13⟩⟩ (if_pos rfl) (fun j hj => if_neg hj)
      · replace ho : some ({ dst := some 27, op := Op.buildSlice 31 1 #[(0, Operand.tmp 26)], type := 31, pos := "l23_plan.go:66", after := #[{ on := 4, ground := Ground.data }], guard := none } : Oper) = some o := ho
        revert hK
        obtain rfl := Option.some.inj ho
        have g4 : ℓ 4 = true := hdep { on := 4, ground := Ground.data } (by simp) rfl
        clear hdep ho
        have hl14 : ℓ 14 = false := by
          cases h7 : ℓ 14
          · rfl
          · have := (hr.c14 h7).2.2.2.2.2.1; rw [this] at hL; cases hL
        obtain rfl := hr.f4 g4
        have hb9 : Below w'.heap.size w' (w'.alloc (.cells #[.int .i64 z1, .int .i64 z2, .int .i64 (z3 + y3)] 42)) := (Below.refl _ _).alloc (Nat.le_refl _) _
        intro hK
        rw [if_pos (by rfl)]
        try simp only [Act.put, List.setIfInBounds_toArray, List.set_cons_zero, List.set_cons_succ]
        refine wp_buildSlice 31 42 1 #[(0, .tmp 26)] rfl #[.int .i64 z1, .int .i64 z2, .int .i64 (z3 + y3)] iS _ Tryz.underlying31 HIS.out.1 HIS.out.2.1 (by rw [HIS.out.2.2]; decide) (by rw [HIS.out.2.2]; decide) (by rw [HIS.out.2.2, Array.toList_map]; exact Great.fill_whole (s := 3) (by decide) [.agg #[.int .i64 z1, .int .i64 z2, .int .i64 (z3 + y3)]] _ (fun v hv => by simp only [List.mem_cons, List.not_mem_nil, or_false] at hv; rcases hv with rfl; rfl) (by simp)) ?_
        try simp only [Act.put, List.setIfInBounds_toArray, List.set_cons_zero, List.set_cons_succ]
        exact hK.out _ _ (fun j => if j = 5 then true else ℓ j) ⟨x22, x23, x24, x25, .agg #[.int .i64 z1, .int .i64 z2, .int .i64 (z3 + y3)], .slice (some ⟨w'.heap.size, 0, none⟩) 1 1, x28, x29, x30, x31, x32, x33, x34, x35, (by simp only [Act.put, List.setIfInBounds_toArray, List.set_cons_zero, List.set_cons_succ]), ⟨(fun g => absurd (hl14.symm.trans g) Bool.false_ne_true), (fun _ => (hr.gb hl14).trans (hb9.mono (hr.gb hl14).size)), (fun g => absurd (hl14.symm.trans g) Bool.false_ne_true), hr.f0, hr.f1, hr.f2, hr.f3, hr.f4, (fun _ => ⟨w'.heap.size, rfl, fun _ => new_row w' _ _ _ rfl⟩), hr.f6, hr.f7, hr.f8, hr.f9, hr.f10, (fun g => by obtain ⟨M2, C2, e2, h2⟩ := hr.f11 g; exact ⟨M2, C2, e2, fun _ => (h2 hl14).below hb9⟩), (fun g => by obtain ⟨AQ, c2, e2, h2, h3⟩ := hr.f12 g; exact ⟨AQ, c2, e2, h2, fun _ => (h3 hl14).below hb9⟩), hr.f13⟩⟩ (if_pos rfl) (fun j hj => if_neg hj)
      · revert hK
        obtain rfl := Option.some.inj ho
        clear hdep ho
        have hl14 : ℓ 14 = false := by
          cases h7 : ℓ 14
          · rfl
          · have := (hr.c14 h7).2.2.2.2.2.2.1; rw [this] at hL; cases hL
        intro hK
        rw [if_pos (by rfl)]
        try simp only [Act.put, List.setIfInBounds_toArray, List.set_cons_zero, List.set_cons_succ]
        go_simp
        exact hK.out _ _ (fun j => if j = 6 then true else ℓ j) ⟨x22, x23, x24, x25, x26, x27, .pointer (some ⟨w.heap.size, 18, none⟩), x29, x30, x31, x32, x33, x34, x35, (by simp only [Act.put, List.setIfInBounds_toArray, List.set_cons_zero, List.set_cons_succ]), ⟨(fun g => absurd (hl14.symm.trans g) Bool.false_ne_true), hr.gb, (fun g => absurd (hl14.symm.trans g) Bool.false_ne_true), hr.f0, hr.f1, hr.f2, hr.f3, hr.f4, hr.f5, (fun _ => rfl), hr.f7, hr.f8, hr.f9, hr.f10, hr.f11, hr.f12, hr.f13⟩⟩ (if_pos rfl) (fun j hj => if_neg hj)
      · revert hK
        obtain rfl := Option.some.inj ho
        have g6 : ℓ 6 = true := hdep { on := 6, ground := Ground.data } (by simp) rfl
        clear hdep ho
        have hl14 : ℓ 14 = false := by
          cases h7 : ℓ 14
          · rfl
          · have := (hr.c14 h7).2.2.2.2.2.2.2.1; rw [this] at hL; cases hL
        obtain rfl := hr.f6 g6
        have cc := (HT4.out _ (hr.gb hl14)).1.1
        intro hK
        rw [if_pos (by rfl)]
        try simp only [Act.put, List.setIfInBounds_toArray, List.set_cons_zero, List.set_cons_succ]
        go_simp
        exact hK.out _ _ (fun j => if j = 7 then true else ℓ j) ⟨x22, x23, x24, x25, x26, x27, .pointer (some ⟨w.heap.size, 18, none⟩), .slice (some ⟨b1, o1, none⟩) sn sc, x30, x31, x32, x33, x34, x35, (by simp only [Act.put, List.setIfInBounds_toArray, List.set_cons_zero, List.set_cons_succ]), ⟨(fun g => absurd (hl14.symm.trans g) Bool.false_ne_true), hr.gb, (fun g => absurd (hl14.symm.trans g) Bool.false_ne_true), hr.f0, hr.f1, hr.f2, hr.f3, hr.f4, hr.f5, hr.f6, (fun _ => rfl), hr.f8, hr.f9, hr.f10, hr.f11, hr.f12, hr.f13⟩⟩ (if_pos rfl) (fun j hj => if_neg hj)
      · revert hK
        obtain rfl := Option.some.inj ho
        clear hdep ho
        have hl14 : ℓ 14 = false := by
          cases h7 : ℓ 14
          · rfl
          · have := (hr.c14 h7).2.2.2.2.2.2.2.2.1; rw [this] at hL; cases hL
        intro hK
        rw [if_pos (by rfl)]
        try simp only [Act.put, List.setIfInBounds_toArray, List.set_cons_zero, List.set_cons_succ]
        go_simp
        exact hK.out _ _ (fun j => if j = 8 then true else ℓ j) ⟨x22, x23, x24, x25, x26, x27, x28, x29, .int .i64 (k : Int), x31, x32, x33, x34, x35, (by simp only [Act.put, List.setIfInBounds_toArray, List.set_cons_zero, List.set_cons_succ]), ⟨(fun g => absurd (hl14.symm.trans g) Bool.false_ne_true), hr.gb, (fun g => absurd (hl14.symm.trans g) Bool.false_ne_true), hr.f0, hr.f1, hr.f2, hr.f3, hr.f4, hr.f5, hr.f6, hr.f7, (fun _ => rfl), hr.f9, hr.f10, hr.f11, hr.f12, hr.f13⟩⟩ (if_pos rfl) (fun j hj => if_neg hj)
      · revert hK
        obtain rfl := Option.some.inj ho
        have g8 : ℓ 8 = true := hdep { on := 8, ground := Ground.data } (by simp) rfl
        clear hdep ho
        have hl14 : ℓ 14 = false := by
          cases h7 : ℓ 14
          · rfl
          · have := (hr.c14 h7).2.2.2.2.2.2.2.2.2.1; rw [this] at hL; cases hL
        obtain rfl := hr.f8 g8
        have hwr := HWR.out.2.2
        intro hK
        rw [if_pos (by rfl)]
        try simp only [Act.put, List.setIfInBounds_toArray, List.set_cons_zero, List.set_cons_succ]
        go_simp
        try rw [hwr]
        exact hK.out _ _ (fun j => if j = 9 then true else ℓ j) ⟨x22, x23, x24, x25, x26, x27, x28, x29, .int .i64 (k : Int), .int .i64 ((k : Int) + 2), x32, x33, x34, x35, (by simp only [Act.put, List.setIfInBounds_toArray, List.set_cons_zero, List.set_cons_succ]), ⟨(fun g => absurd (hl14.symm.trans g) Bool.false_ne_true), hr.gb, (fun g => absurd (hl14.symm.trans g) Bool.false_ne_true), hr.f0, hr.f1, hr.f2, hr.f3, hr.f4, hr.f5, hr.f6, hr.f7, hr.f8, (fun _ => rfl), hr.f10, hr.f11, hr.f12, hr.f13⟩⟩ (if_pos rfl) (fun j hj => if_neg hj)
      · replace ho : some ({ dst := some 32, op := Op.slice 31 (Operand.tmp 29) (some (Operand.tmp 31)) none none, type := 31, pos := "l23_plan.go:66", after := #[{ on := 7, ground := Ground.data }, { on := 9, ground := Ground.data }], guard := none } : Oper) = some o := ho
        revert hK
        obtain rfl := Option.some.inj ho
        have g7 : ℓ 7 = true := hdep { on := 7, ground := Ground.data } (by simp) rfl
        have g9 : ℓ 9 = true := hdep { on := 9, ground := Ground.data } (by simp) rfl
        clear hdep ho
        have hl14 : ℓ 14 = false := by
          cases h7 : ℓ 14
          · rfl
          · have := (hr.c14 h7).2.2.2.2.2.2.2.2.2.2.1; rw [this] at hL; cases hL
        obtain rfl := hr.f7 g7
        obtain rfl := hr.f9 g9
        intro hK
        rw [if_pos (by rfl)]
        try simp only [Act.put, List.setIfInBounds_toArray, List.set_cons_zero, List.set_cons_succ]
        refine wp_slice_of (.tmp 29) (some (.tmp 31)) none rfl (.slice aR (sn - (k + 2)) (sc - (k + 2))) (some 32) rfl (HSR.out _) ?_
        try simp only [Act.put, List.setIfInBounds_toArray, List.set_cons_zero, List.set_cons_succ]
        exact hK.out _ _ (fun j => if j = 10 then true else ℓ j) ⟨x22, x23, x24, x25, x26, x27, x28, .slice (some ⟨b1, o1, none⟩) sn sc, x30, .int .i64 ((k : Int) + 2), .slice aR (sn - (k + 2)) (sc - (k + 2)), x33, x34, x35, (by simp only [Act.put, List.setIfInBounds_toArray, List.set_cons_zero, List.set_cons_succ]), ⟨(fun g => absurd (hl14.symm.trans g) Bool.false_ne_true), hr.gb, (fun g => absurd (hl14.symm.trans g) Bool.false_ne_true), hr.f0, hr.f1, hr.f2, hr.f3, hr.f4, hr.f5, hr.f6, hr.f7, hr.f8, hr.f9, (fun _ => rfl), hr.f11, hr.f12, hr.f13⟩⟩ (if_pos rfl) (fun j hj => if_neg hj)
      · replace ho : some ({ dst := some 33, op := Op.buildSlice 122 3 #[(0, Operand.tmp 25), (1, Operand.tmp 27), (2, Operand.tmp 32)], type := 122, pos := "l23_plan.go:66", after := #[{ on := 3, ground := Ground.data }, { on := 5, ground := Ground.data }, { on := 10, ground := Ground.data }], guard := none } : Oper) = some o := ho
        revert hK
        obtain rfl := Option.some.inj ho
        have g3 : ℓ 3 = true := hdep { on := 3, ground := Ground.data } (by simp) rfl
        have g5 : ℓ 5 = true := hdep { on := 5, ground := Ground.data } (by simp) rfl
        have g10 : ℓ 10 = true := hdep { on := 10, ground := Ground.data } (by simp) rfl
        clear hdep ho
        have hl14 : ℓ 14 = false := by
          cases h7 : ℓ 14
          · rfl
          · have := (hr.c14 h7).2.2.2.2.2.2.2.2.2.2.2.1; rw [this] at hL; cases hL
        obtain rfl := hr.f3 g3
        obtain rfl := hr.f10 g10
        obtain ⟨M, rfl, hM⟩ := hr.f5 g5
        have hb9 : Below w'.heap.size w' (w'.alloc (.cells #[.slice aL k sc, .slice (some ⟨M, 0, none⟩) 1 1, .slice aR (sn - (k + 2)) (sc - (k + 2))] 31)) := (Below.refl _ _).alloc (Nat.le_refl _) _
        intro hK
        rw [if_pos (by rfl)]
        try simp only [Act.put, List.setIfInBounds_toArray, List.set_cons_zero, List.set_cons_succ]
        refine wp_buildSlice 122 31 3 #[(0, .tmp 25), (1, .tmp 27), (2, .tmp 32)] rfl #[.slice aL k sc, .slice (some ⟨M, 0, none⟩) 1 1, .slice aR (sn - (k + 2)) (sc - (k + 2))] iT _ Tryz.underlying122 HIT.out.1 HIT.out.2.1 (by rw [HIT.out.2.2]; decide) (by rw [HIT.out.2.2]; decide) (by rw [HIT.out.2.2, Array.toList_map]; exact Great.fill_flat [.slice aL k sc, .slice (some ⟨M, 0, none⟩) 1 1, .slice aR (sn - (k + 2)) (sc - (k + 2))] _ (fun v hv => by simp only [List.mem_cons, List.not_mem_nil, or_false] at hv; rcases hv with rfl | rfl | rfl <;> rfl) (by simp)) ?_
        try simp only [Act.put, List.setIfInBounds_toArray, List.set_cons_zero, List.set_cons_succ]
        exact hK.out _ _ (fun j => if j = 11 then true else ℓ j) ⟨x22, x23, x24, .slice aL k sc, x26, .slice (some ⟨M, 0, none⟩) 1 1, x28, x29, x30, x31, .slice aR (sn - (k + 2)) (sc - (k + 2)), .slice (some ⟨w'.heap.size, 0, none⟩) 3 3, x34, x35, (by simp only [Act.put, List.setIfInBounds_toArray, List.set_cons_zero, List.set_cons_succ]), ⟨(fun g => absurd (hl14.symm.trans g) Bool.false_ne_true), (fun _ => (hr.gb hl14).trans (hb9.mono (hr.gb hl14).size)), (fun g => absurd (hl14.symm.trans g) Bool.false_ne_true), hr.f0, hr.f1, hr.f2, hr.f3, hr.f4, (fun g => by obtain ⟨M2, e2, h2⟩ := hr.f5 g; exact ⟨M2, e2, fun _ => row_below (h2 hl14) hb9⟩), hr.f6, hr.f7, hr.f8, hr.f9, hr.f10, (fun _ => ⟨M, w'.heap.size, rfl, fun _ => HTH.out _ M _ ((hr.gb hl14).trans (hb9.mono (hr.gb hl14).size)) (row_below (hM hl14) hb9) (new_row w' _ _ _ rfl)⟩), (fun g => by obtain ⟨AQ, c2, e2, h2, h3⟩ := hr.f12 g; exact ⟨AQ, c2, e2, h2, fun _ => (h3 hl14).below hb9⟩), hr.f13⟩⟩ (if_pos rfl) (fun j hj => if_neg hj)
      · revert hK
        obtain rfl := Option.some.inj ho
        have g11 : ℓ 11 = true := hdep { on := 11, ground := Ground.data } (by simp) rfl
        clear hdep ho
        have hl14 : ℓ 14 = false := by
          cases h7 : ℓ 14
          · rfl
          · have := (hr.c14 h7).2.2.2.2.2.2.2.2.2.2.2.2.1; rw [this] at hL; cases hL
        obtain ⟨M, C, rfl, hth⟩ := hr.f11 g11
        have hthr := hth hl14
        have hgb := hr.gb hl14
        intro hK
        rw [if_pos (by rfl)]
        try simp only [Act.put, List.setIfInBounds_toArray, List.set_cons_zero, List.set_cons_succ]
        go_simp
        refine Calls.mono (concat_sl C N _ _ _ Xs w' hthr hN1 hN60) ?_
        rintro e w9 ⟨⟨A', c, rfl, hseg, hcc⟩, hb9⟩
        exact hK.out _ _ (fun j => if j = 12 then true else ℓ j) ⟨x22, x23, x24, x25, x26, x27, x28, x29, x30, x31, x32, .slice (some ⟨C, 0, none⟩) 3 3, .slice A' N c, x35, (by simp only [Act.put, List.setIfInBounds_toArray, List.set_cons_zero, List.set_cons_succ]), ⟨(fun g => absurd (hl14.symm.trans g) Bool.false_ne_true), (fun _ => (hr.gb hl14).trans (hb9.mono (hr.gb hl14).size)), (fun g => absurd (hl14.symm.trans g) Bool.false_ne_true), hr.f0, hr.f1, hr.f2, hr.f3, hr.f4, (fun g => by obtain ⟨M2, e2, h2⟩ := hr.f5 g; exact ⟨M2, e2, fun _ => row_below (h2 hl14) hb9⟩), hr.f6, hr.f7, hr.f8, hr.f9, hr.f10, (fun g => by obtain ⟨M2, C2, e2, h2⟩ := hr.f11 g; exact ⟨M2, C2, e2, fun _ => (h2 hl14).below hb9⟩), (fun _ => ⟨A', c, rfl, hcc, fun _ => hseg.wide hgb.size⟩), hr.f13⟩⟩ (if_pos rfl) (fun j hj => if_neg hj)
      · revert hK
        obtain rfl := Option.some.inj ho
        clear hdep ho
        have hl14 : ℓ 14 = false := by
          cases h7 : ℓ 14
          · rfl
          · have := (hr.c14 h7).2.2.2.2.2.2.2.2.2.2.2.2.2; rw [this] at hL; cases hL
        intro hK
        rw [if_pos (by rfl)]
        try simp only [Act.put, List.setIfInBounds_toArray, List.set_cons_zero, List.set_cons_succ]
        go_simp
        exact hK.out _ _ (fun j => if j = 13 then true else ℓ j) ⟨x22, x23, x24, x25, x26, x27, x28, x29, x30, x31, x32, x33, x34, .pointer (some ⟨w.heap.size, 18, none⟩), (by simp only [Act.put, List.setIfInBounds_toArray, List.set_cons_zero, List.set_cons_succ]), ⟨(fun g => absurd (hl14.symm.trans g) Bool.false_ne_true), hr.gb, (fun g => absurd (hl14.symm.trans g) Bool.false_ne_true), hr.f0, hr.f1, hr.f2, hr.f3, hr.f4, hr.f5, hr.f6, hr.f7, hr.f8, hr.f9, hr.f10, hr.f11, hr.f12, (fun _ => rfl)⟩⟩ (if_pos rfl) (fun j hj => if_neg hj)
      · revert hK
        obtain rfl := Option.some.inj ho
        have g13 : ℓ 13 = true := hdep { on := 13, ground := Ground.data } (by simp) rfl
        have g12 : ℓ 12 = true := hdep { on := 12, ground := Ground.data } (by simp) rfl
        have g0 : ℓ 0 = true := hdep { on := 0, ground := Ground.phase } (by simp) rfl
        have g1 : ℓ 1 = true := hdep { on := 1, ground := Ground.phase } (by simp) rfl
        have g2 : ℓ 2 = true := hdep { on := 2, ground := Ground.phase } (by simp) rfl
        have g3 : ℓ 3 = true := hdep { on := 3, ground := Ground.phase } (by simp) rfl
        have g4 : ℓ 4 = true := hdep { on := 4, ground := Ground.phase } (by simp) rfl
        have g5 : ℓ 5 = true := hdep { on := 5, ground := Ground.phase } (by simp) rfl
        have g6 : ℓ 6 = true := hdep { on := 6, ground := Ground.phase } (by simp) rfl
        have g7 : ℓ 7 = true := hdep { on := 7, ground := Ground.phase } (by simp) rfl
        have g8 : ℓ 8 = true := hdep { on := 8, ground := Ground.phase } (by simp) rfl
        have g9 : ℓ 9 = true := hdep { on := 9, ground := Ground.phase } (by simp) rfl
        have g10 : ℓ 10 = true := hdep { on := 10, ground := Ground.phase } (by simp) rfl
        have g11 : ℓ 11 = true := hdep { on := 11, ground := Ground.phase } (by simp) rfl
        clear hdep ho
        obtain rfl := hr.f13 g13
        obtain ⟨A', c, rfl, hcc, hseg⟩ := hr.f12 g12
        have cc := (HT4.out _ (hr.gb hL)).1.1
        have cf := (HT4.out _ (hr.gb hL)).1.2
        intro hK
        rw [if_pos (by rfl)]
        try simp only [Act.put, List.setIfInBounds_toArray, List.set_cons_zero, List.set_cons_succ]
        go_simp
        exact hK.out _ _ (fun j => if j = 14 then true else ℓ j) ⟨x22, x23, x24, x25, x26, x27, x28, x29, x30, x31, x32, x33, .slice A' N c, .pointer (some ⟨w.heap.size, 18, none⟩), (by simp only [Act.put, List.setIfInBounds_toArray, List.set_cons_zero, List.set_cons_succ]), ⟨(fun _ => ⟨g0, g1, g2, g3, g4, g5, g6, g7, g8, g9, g10, g11, g12, g13⟩), (fun g => by cases g), (fun _ => ⟨w', A', c, hr.gb hL, hseg hL, hcc, rfl⟩), hr.f0, hr.f1, hr.f2, hr.f3, hr.f4, (fun g => by obtain ⟨M2, e2, h2⟩ := hr.f5 g; exact ⟨M2, e2, fun q => by cases q⟩), hr.f6, hr.f7, hr.f8, hr.f9, hr.f10, (fun g => by obtain ⟨M2, C2, e2, h2⟩ := hr.f11 g; exact ⟨M2, C2, e2, fun q => by cases q⟩), (fun _ => ⟨A', c, rfl, hcc, fun q => by cases q⟩), hr.f13⟩⟩ (if_pos rfl) (fun j hj => if_neg hj)
    · rintro a' w' ℓ ℓ' hℓ hI
      rw [← show ℓ = ℓ' from funext hℓ]
      exact hI
  · intro ℓ a' w' q o hI ho hi hL hdep K hK
    obtain ⟨x11, x12, x13, x14, x15, x16, x17, x18, x19, x20, x21, rfl, hr⟩ := hI
    have hi7 : q < 12 := hi
    have hcs : q = 0 ∨ q = 1 ∨ q = 2 ∨ q = 3 ∨ q = 4 ∨ q = 5 ∨ q = 6 ∨ q = 7 ∨ q = 8 ∨ q = 9 ∨ q = 10 ∨ q = 11 := by omega
    clear hi hi7
    rcases hcs with rfl | rfl | rfl | rfl | rfl | rfl | rfl | rfl | rfl | rfl | rfl | rfl
    · revert hK
      obtain rfl := Option.some.inj ho
      clear hdep ho
      have hl11 : ℓ 11 = false := by
        cases h7 : ℓ 11
        · rfl
        · have := (hr.c11 h7).1; rw [this] at hL; cases hL
      intro hK
      rw [if_pos (by rfl)]
      try simp only [Act.put, List.setIfInBounds_toArray, List.set_cons_zero, List.set_cons_succ]
      go_simp
      exact hK.out _ _ (fun j => if j = 0 then true else ℓ j) ⟨.pointer (some ⟨N1, 2, none⟩), x12, x13, x14, x15, x16, x17, x18, x19, x20, x21, (by simp only [Act.put, List.setIfInBounds_toArray, List.set_cons_zero, List.set_cons_succ]), ⟨(fun g => absurd (hl11.symm.trans g) Bool.false_ne_true), hr.v0, hr.v1, (fun _ => rfl), hr.f1, hr.f2, hr.f3, hr.f4, hr.f5, hr.f6, hr.f7, hr.f8, hr.f9, hr.f10⟩⟩ (if_pos rfl) (fun j hj => if_neg hj)
    · revert hK
      obtain rfl := Option.some.inj ho
      have g0 : ℓ 0 = true := hdep { on := 0, ground := Ground.data } (by simp) rfl
      clear hdep ho
      have hl11 : ℓ 11 = false := by
        cases h7 : ℓ 11
        · rfl
        · have := (hr.c11 h7).2.1; rw [this] at hL; cases hL
      obtain rfl := hr.f0 g0
      have cc := (HQ.out _ (hr.v0 hl11)).2.2.1
      intro hK
      rw [if_pos (by rfl)]
      try simp only [Act.put, List.setIfInBounds_toArray, List.set_cons_zero, List.set_cons_succ]
      go_simp
      exact hK.out _ _ (fun j => if j = 1 then true else ℓ j) ⟨.pointer (some ⟨N1, 2, none⟩), .int .i64 z3, x13, x14, x15, x16, x17, x18, x19, x20, x21, (by simp only [Act.put, List.setIfInBounds_toArray, List.set_cons_zero, List.set_cons_succ]), ⟨(fun g => absurd (hl11.symm.trans g) Bool.false_ne_true), hr.v0, hr.v1, hr.f0, (fun _ => rfl), hr.f2, hr.f3, hr.f4, hr.f5, hr.f6, hr.f7, hr.f8, hr.f9, hr.f10⟩⟩ (if_pos rfl) (fun j hj => if_neg hj)
    · revert hK
      obtain rfl := Option.some.inj ho
      clear hdep ho
      have hl11 : ℓ 11 = false := by
        cases h7 : ℓ 11
        · rfl
        · have := (hr.c11 h7).2.2.1; rw [this] at hL; cases hL
      intro hK
      rw [if_pos (by rfl)]
      try simp only [Act.put, List.setIfInBounds_toArray, List.set_cons_zero, List.set_cons_succ]
      go_simp
      exact hK.out _ _ (fun j => if j = 2 then true else ℓ j) ⟨x11, x12, .pointer (some ⟨w.heap.size, 18, none⟩), x14, x15, x16, x17, x18, x19, x20, x21, (by simp only [Act.put, List.setIfInBounds_toArray, List.set_cons_zero, List.set_cons_succ]), ⟨(fun g => absurd (hl11.symm.trans g) Bool.false_ne_true), hr.v0, hr.v1, hr.f0, hr.f1, (fun _ => rfl), hr.f3, hr.f4, hr.f5, hr.f6, hr.f7, hr.f8, hr.f9, hr.f10⟩⟩ (if_pos rfl) (fun j hj => if_neg hj)
    · revert hK
      obtain rfl := Option.some.inj ho
      have g2 : ℓ 2 = true := hdep { on := 2, ground := Ground.data } (by simp) rfl
      clear hdep ho
      have hl11 : ℓ 11 = false := by
        cases h7 : ℓ 11
        · rfl
        · have := (hr.c11 h7).2.2.2.1; rw [this] at hL; cases hL
      obtain rfl := hr.f2 g2
      have cc := (HQ.out _ (hr.v0 hl11)).1
      intro hK
      rw [if_pos (by rfl)]
      try simp only [Act.put, List.setIfInBounds_toArray, List.set_cons_zero, List.set_cons_succ]
      go_simp
      exact hK.out _ _ (fun j => if j = 3 then true else ℓ j) ⟨x11, x12, .pointer (some ⟨w.heap.size, 18, none⟩), .slice (some ⟨b1, o1, none⟩) sn sc, x15, x16, x17, x18, x19, x20, x21, (by simp only [Act.put, List.setIfInBounds_toArray, List.set_cons_zero, List.set_cons_succ]), ⟨(fun g => absurd (hl11.symm.trans g) Bool.false_ne_true), hr.v0, hr.v1, hr.f0, hr.f1, hr.f2, (fun _ => rfl), hr.f4, hr.f5, hr.f6, hr.f7, hr.f8, hr.f9, hr.f10⟩⟩ (if_pos rfl) (fun j hj => if_neg hj)
    · revert hK
      obtain rfl := Option.some.inj ho
      clear hdep ho
      have hl11 : ℓ 11 = false := by
        cases h7 : ℓ 11
        · rfl
        · have := (hr.c11 h7).2.2.2.2.1; rw [this] at hL; cases hL
      intro hK
      rw [if_pos (by rfl)]
      try simp only [Act.put, List.setIfInBounds_toArray, List.set_cons_zero, List.set_cons_succ]
      go_simp
      exact hK.out _ _ (fun j => if j = 4 then true else ℓ j) ⟨x11, x12, x13, x14, .int .i64 (k : Int), x16, x17, x18, x19, x20, x21, (by simp only [Act.put, List.setIfInBounds_toArray, List.set_cons_zero, List.set_cons_succ]), ⟨(fun g => absurd (hl11.symm.trans g) Bool.false_ne_true), hr.v0, hr.v1, hr.f0, hr.f1, hr.f2, hr.f3, (fun _ => rfl), hr.f5, hr.f6, hr.f7, hr.f8, hr.f9, hr.f10⟩⟩ (if_pos rfl) (fun j hj => if_neg hj)
    · revert hK
      obtain rfl := Option.some.inj ho
      have g4 : ℓ 4 = true := hdep { on := 4, ground := Ground.data } (by simp) rfl
      clear hdep ho
      have hl11 : ℓ 11 = false := by
        cases h7 : ℓ 11
        · rfl
        · have := (hr.c11 h7).2.2.2.2.2.1; rw [this] at hL; cases hL
      obtain rfl := hr.f4 g4
      have hwr := HWR.out.1
      intro hK
      rw [if_pos (by rfl)]
      try simp only [Act.put, List.setIfInBounds_toArray, List.set_cons_zero, List.set_cons_succ]
      go_simp
      try rw [hwr]
      exact hK.out _ _ (fun j => if j = 5 then true else ℓ j) ⟨x11, x12, x13, x14, .int .i64 (k : Int), .int .i64 ((k : Int) + 1), x17, x18, x19, x20, x21, (by simp only [Act.put, List.setIfInBounds_toArray, List.set_cons_zero, List.set_cons_succ]), ⟨(fun g => absurd (hl11.symm.trans g) Bool.false_ne_true), hr.v0, hr.v1, hr.f0, hr.f1, hr.f2, hr.f3, hr.f4, (fun _ => rfl), hr.f6, hr.f7, hr.f8, hr.f9, hr.f10⟩⟩ (if_pos rfl) (fun j hj => if_neg hj)
    · revert hK
      obtain rfl := Option.some.inj ho
      have g3 : ℓ 3 = true := hdep { on := 3, ground := Ground.data } (by simp) rfl
      have g5 : ℓ 5 = true := hdep { on := 5, ground := Ground.data } (by simp) rfl
      clear hdep ho
      have hl11 : ℓ 11 = false := by
        cases h7 : ℓ 11
        · rfl
        · have := (hr.c11 h7).2.2.2.2.2.2.1; rw [this] at hL; cases hL
      obtain rfl := hr.f3 g3
      obtain rfl := hr.f5 g5
      have hk1 := HK1.out
      intro hK
      rw [if_pos (by rfl)]
      try simp only [Act.put, List.setIfInBounds_toArray, List.set_cons_zero, List.set_cons_succ]
      go_simp
      exact hK.out _ _ (fun j => if j = 6 then true else ℓ j) ⟨x11, x12, x13, .slice (some ⟨b1, o1, none⟩) sn sc, x15, .int .i64 ((k : Int) + 1), .pointer (some ⟨b1, o1 + (k + 1) * 3, none⟩), x18, x19, x20, x21, (by simp only [Act.put, List.setIfInBounds_toArray, List.set_cons_zero, List.set_cons_succ]), ⟨(fun g => absurd (hl11.symm.trans g) Bool.false_ne_true), hr.v0, hr.v1, hr.f0, hr.f1, hr.f2, hr.f3, hr.f4, hr.f5, (fun _ => rfl), hr.f7, hr.f8, hr.f9, hr.f10⟩⟩ (if_pos rfl) (fun j hj => if_neg hj)
    · revert hK
      obtain rfl := Option.some.inj ho
      have g6 : ℓ 6 = true := hdep { on := 6, ground := Ground.data } (by simp) rfl
      clear hdep ho
      have hl11 : ℓ 11 = false := by
        cases h7 : ℓ 11
        · rfl
        · have := (hr.c11 h7).2.2.2.2.2.2.2.1; rw [this] at hL; cases hL
      obtain rfl := hr.f6 g6
      intro hK
      rw [if_pos (by rfl)]
      try simp only [Act.put, List.setIfInBounds_toArray, List.set_cons_zero, List.set_cons_succ]
      go_simp
      exact hK.out _ _ (fun j => if j = 7 then true else ℓ j) ⟨x11, x12, x13, x14, x15, x16, .pointer (some ⟨b1, o1 + (k + 1) * 3, none⟩), .pointer (some ⟨b1, o1 + (k + 1) * 3 + 2, none⟩), x19, x20, x21, (by simp only [Act.put, List.setIfInBounds_toArray, List.set_cons_zero, List.set_cons_succ]), ⟨(fun g => absurd (hl11.symm.trans g) Bool.false_ne_true), hr.v0, hr.v1, hr.f0, hr.f1, hr.f2, hr.f3, hr.f4, hr.f5, hr.f6, (fun _ => rfl), hr.f8, hr.f9, hr.f10⟩⟩ (if_pos rfl) (fun j hj => if_neg hj)
    · revert hK
      obtain rfl := Option.some.inj ho
      have g7 : ℓ 7 = true := hdep { on := 7, ground := Ground.data } (by simp) rfl
      clear hdep ho
      have hl11 : ℓ 11 = false := by
        cases h7 : ℓ 11
        · rfl
        · have := (hr.c11 h7).2.2.2.2.2.2.2.2.1; rw [this] at hL; cases hL
      obtain rfl := hr.f7 g7
      have cc := (HQ.out _ (hr.v0 hl11)).2.1
      intro hK
      rw [if_pos (by rfl)]
      try simp only [Act.put, List.setIfInBounds_toArray, List.set_cons_zero, List.set_cons_succ]
      go_simp
      exact hK.out _ _ (fun j => if j = 8 then true else ℓ j) ⟨x11, x12, x13, x14, x15, x16, x17, .pointer (some ⟨b1, o1 + (k + 1) * 3 + 2, none⟩), .int .i64 y3, x20, x21, (by simp only [Act.put, List.setIfInBounds_toArray, List.set_cons_zero, List.set_cons_succ]), ⟨(fun g => absurd (hl11.symm.trans g) Bool.false_ne_true), hr.v0, hr.v1, hr.f0, hr.f1, hr.f2, hr.f3, hr.f4, hr.f5, hr.f6, hr.f7, (fun _ => rfl), hr.f9, hr.f10⟩⟩ (if_pos rfl) (fun j hj => if_neg hj)
    · revert hK
      obtain rfl := Option.some.inj ho
      have g1 : ℓ 1 = true := hdep { on := 1, ground := Ground.data } (by simp) rfl
      have g8 : ℓ 8 = true := hdep { on := 8, ground := Ground.data } (by simp) rfl
      clear hdep ho
      have hl11 : ℓ 11 = false := by
        cases h7 : ℓ 11
        · rfl
        · have := (hr.c11 h7).2.2.2.2.2.2.2.2.2.1; rw [this] at hL; cases hL
      obtain rfl := hr.f1 g1
      obtain rfl := hr.f8 g8
      have hwr := HWR.out.2.1
      intro hK
      rw [if_pos (by rfl)]
      try simp only [Act.put, List.setIfInBounds_toArray, List.set_cons_zero, List.set_cons_succ]
      go_simp
      try rw [hwr]
      exact hK.out _ _ (fun j => if j = 9 then true else ℓ j) ⟨x11, .int .i64 z3, x13, x14, x15, x16, x17, x18, .int .i64 y3, .int .i64 (z3 + y3), x21, (by simp only [Act.put, List.setIfInBounds_toArray, List.set_cons_zero, List.set_cons_succ]), ⟨(fun g => absurd (hl11.symm.trans g) Bool.false_ne_true), hr.v0, hr.v1, hr.f0, hr.f1, hr.f2, hr.f3, hr.f4, hr.f5, hr.f6, hr.f7, hr.f8, (fun _ => rfl), hr.f10⟩⟩ (if_pos rfl) (fun j hj => if_neg hj)
    · revert hK
      obtain rfl := Option.some.inj ho
      clear hdep ho
      have hl11 : ℓ 11 = false := by
        cases h7 : ℓ 11
        · rfl
        · have := (hr.c11 h7).2.2.2.2.2.2.2.2.2.2; rw [this] at hL; cases hL
      intro hK
      rw [if_pos (by rfl)]
      try simp only [Act.put, List.setIfInBounds_toArray, List.set_cons_zero, List.set_cons_succ]
      go_simp
      exact hK.out _ _ (fun j => if j = 10 then true else ℓ j) ⟨x11, x12, x13, x14, x15, x16, x17, x18, x19, x20, .pointer (some ⟨N1, 2, none⟩), (by simp only [Act.put, List.setIfInBounds_toArray, List.set_cons_zero, List.set_cons_succ]), ⟨(fun g => absurd (hl11.symm.trans g) Bool.false_ne_true), hr.v0, hr.v1, hr.f0, hr.f1, hr.f2, hr.f3, hr.f4, hr.f5, hr.f6, hr.f7, hr.f8, hr.f9, (fun _ => rfl)⟩⟩ (if_pos rfl) (fun j hj => if_neg hj)
    · revert hK
      obtain rfl := Option.some.inj ho
      have g10 : ℓ 10 = true := hdep { on := 10, ground := Ground.data } (by simp) rfl
      have g9 : ℓ 9 = true := hdep { on := 9, ground := Ground.data } (by simp) rfl
      have g0 : ℓ 0 = true := hdep { on := 0, ground := Ground.phase } (by simp) rfl
      have g1 : ℓ 1 = true := hdep { on := 1, ground := Ground.phase } (by simp) rfl
      have g2 : ℓ 2 = true := hdep { on := 2, ground := Ground.phase } (by simp) rfl
      have g3 : ℓ 3 = true := hdep { on := 3, ground := Ground.phase } (by simp) rfl
      have g4 : ℓ 4 = true := hdep { on := 4, ground := Ground.phase } (by simp) rfl
      have g5 : ℓ 5 = true := hdep { on := 5, ground := Ground.phase } (by simp) rfl
      have g6 : ℓ 6 = true := hdep { on := 6, ground := Ground.phase } (by simp) rfl
      have g7 : ℓ 7 = true := hdep { on := 7, ground := Ground.phase } (by simp) rfl
      have g8 : ℓ 8 = true := hdep { on := 8, ground := Ground.phase } (by simp) rfl
      clear hdep ho
      obtain rfl := hr.f10 g10
      obtain rfl := hr.f9 g9
      have cc := (HQ.out _ (hr.v0 hL)).2.2.1
      have cf := (HQ.out _ (hr.v0 hL)).2.2.2
      intro hK
      rw [if_pos (by rfl)]
      try simp only [Act.put, List.setIfInBounds_toArray, List.set_cons_zero, List.set_cons_succ]
      go_simp
      exact hK.out _ _ (fun j => if j = 11 then true else ℓ j) ⟨x11, x12, x13, x14, x15, x16, x17, x18, x19, .int .i64 (z3 + y3), .pointer (some ⟨N1, 2, none⟩), (by simp only [Act.put, List.setIfInBounds_toArray, List.set_cons_zero, List.set_cons_succ]), ⟨(fun _ => ⟨g0, g1, g2, g3, g4, g5, g6, g7, g8, g9, g10⟩), (fun g => by cases g), (fun _ => ⟨w', hr.v0 hL, rfl⟩), hr.f0, hr.f1, hr.f2, hr.f3, hr.f4, hr.f5, hr.f6, hr.f7, hr.f8, hr.f9, hr.f10⟩⟩ (if_pos rfl) (fun j hj => if_neg hj)
  · rintro a' w' ℓ ℓ' hℓ hI
    rw [← show ℓ = ℓ' from funext hℓ]
    exact hI
end Go.Proofs.YtlomcdgfcocmmaaGreatDoor
namespace Go.Proofs.YtlomcdgfcocmmaaGreatDoor
open Go.ChangeShapes Go.WideShapes Go.ChangeAt Go.RowKit Go.Deep Go.Joins
set_option linter.unusedVariables false

/-- Copies of two slots, in whatever order they are read and made. -/
structure Icr (W0 : World) (T0 : Nat) (sa : Option Addr) (sn sc k : Nat) (P P2 : Addr) (z1 z2 z3 y1 y2 y3 : Int) (w' : World) (N1 N2 : Nat) (b0 b1 b2 b3 b4 b5 b6 b7 b8 b9 b10 b11 b12 b13 b14 : Bool) (x18 x19 x20 x21 x22 x23 x24 x25 x26 x27 x28 x5 x6 : Value) : Prop where
  c13 : b13 = true → b11 = true ∧ b12 = true
  c14 : b14 = true → b13 = true
  gb : Below W0.heap.size W0 w'
  ne : b11 = true → b12 = true → N1 ≠ N2
  f0 : b0 = true → x18 = .pointer (some ⟨T0, 18, none⟩)
  f1 : b1 = true → x19 = .slice sa sn sc
  f2 : b2 = true → x20 = .int .i64 (k : Int)
  f3 : b3 = true → x21 = .pointer (some P)
  f4 : b4 = true → x22 = .agg #[.int .i64 z1, .int .i64 z2, .int .i64 z3]
  f5 : b5 = true → x23 = .pointer (some ⟨T0, 18, none⟩)
  f6 : b6 = true → x24 = .slice sa sn sc
  f7 : b7 = true → x25 = .int .i64 (k : Int)
  f8 : b8 = true → x26 = .int .i64 ((k : Int) + 1)
  f9 : b9 = true → x27 = .pointer (some P2)
  f10 : b10 = true → x28 = .agg #[.int .i64 y1, .int .i64 y2, .int .i64 y3]
  f11 : b11 = true → x5 = .pointer (some ⟨N1, 0, none⟩) ∧ W0.heap.size ≤ N1 ∧ (b13 = false → w'.heap[N1]? = some (.cells #[.int .i64 0, .int .i64 0, .int .i64 0] 42 (0, 0))) ∧ (b13 = true → w'.heap[N1]? = some (.cells #[.int .i64 z1, .int .i64 z2, .int .i64 z3] 42 (0, 0)))
  f12 : b12 = true → x6 = .pointer (some ⟨N2, 0, none⟩) ∧ W0.heap.size ≤ N2 ∧ (b14 = false → w'.heap[N2]? = some (.cells #[.int .i64 0, .int .i64 0, .int .i64 0] 42 (0, 0))) ∧ (b14 = true → w'.heap[N2]? = some (.cells #[.int .i64 y1, .int .i64 y2, .int .i64 y3] 42 (0, 0)))
structure RmN (V : World) (PA PB PC Z1 Y1 RR E0 Y2 Q0 : Value) (w' : World) (b0 b1 b2 b3 b4 b5 b6 b7 b8 b9 b10 b11 b12 : Bool) (x29 x30 x31 x32 x33 x34 x35 x36 x37 x38 x39 x40 x4 : Value) : Prop where
  gb : Below V.heap.size V w'
  f0 : b0 = true → x29 = PA
  f1 : b1 = true → x30 = Z1
  f2 : b2 = true → x31 = PB
  f3 : b3 = true → x32 = Y1
  f4 : b4 = true → x33 = .bool false
  f5 : b5 = true → x34 = .bool false
  f6 : b6 = true → x35 = undef
  f7 : b7 = true → x36 = undef
  f8 : b8 = true → x37 = undef
  f9 : b9 = true → x38 = undef
  f10 : b10 = true → x39 = undef
  f11 : b11 = true → x40 = .bool false
  f12 : b12 = true → x4 = .bool false
theorem RmN.below {V : World} {PA PB PC Z1 Y1 RR E0 Y2 Q0 : Value} {w' w2 : World} {b0 b1 b2 b3 b4 b5 b6 b7 b8 b9 b10 b11 b12 : Bool} {x29 x30 x31 x32 x33 x34 x35 x36 x37 x38 x39 x40 x4 : Value} (h : RmN V PA PB PC Z1 Y1 RR E0 Y2 Q0 w' b0 b1 b2 b3 b4 b5 b6 b7 b8 b9 b10 b11 b12 x29 x30 x31 x32 x33 x34 x35 x36 x37 x38 x39 x40 x4) (hb : Below w'.heap.size w' w2) : RmN V PA PB PC Z1 Y1 RR E0 Y2 Q0 w2 b0 b1 b2 b3 b4 b5 b6 b7 b8 b9 b10 b11 b12 x29 x30 x31 x32 x33 x34 x35 x36 x37 x38 x39 x40 x4 :=
  ⟨h.gb.trans (hb.mono h.gb.size), h.f0, h.f1, h.f2, h.f3, h.f4, h.f5, h.f6, h.f7, h.f8, h.f9, h.f10, h.f11, h.f12⟩

structure RmY (V : World) (PA PB PC Z1 Y1 RR E0 Y2 Q0 : Value) (w' : World) (b0 b1 b2 b3 b4 b5 b6 b7 b8 b9 b10 b11 b12 : Bool) (x29 x30 x31 x32 x33 x34 x35 x36 x37 x38 x39 x40 x4 : Value) : Prop where
  gb : Below V.heap.size V w'
  f0 : b0 = true → x29 = PA
  f1 : b1 = true → x30 = Z1
  f2 : b2 = true → x31 = PB
  f3 : b3 = true → x32 = Y1
  f4 : b4 = true → x33 = .bool true
  f5 : b5 = true → x34 = .bool true
  f6 : b6 = true → x35 = RR
  f7 : b7 = true → x36 = E0
  f8 : b8 = true → x37 = PC
  f9 : b9 = true → x38 = Y2
  f10 : b10 = true → x39 = Q0
  f11 : b11 = true → x40 = Q0
  f12 : b12 = true → x4 = Q0
theorem RmY.below {V : World} {PA PB PC Z1 Y1 RR E0 Y2 Q0 : Value} {w' w2 : World} {b0 b1 b2 b3 b4 b5 b6 b7 b8 b9 b10 b11 b12 : Bool} {x29 x30 x31 x32 x33 x34 x35 x36 x37 x38 x39 x40 x4 : Value} (h : RmY V PA PB PC Z1 Y1 RR E0 Y2 Q0 w' b0 b1 b2 b3 b4 b5 b6 b7 b8 b9 b10 b11 b12 x29 x30 x31 x32 x33 x34 x35 x36 x37 x38 x39 x40 x4) (hb : Below w'.heap.size w' w2) : RmY V PA PB PC Z1 Y1 RR E0 Y2 Q0 w2 b0 b1 b2 b3 b4 b5 b6 b7 b8 b9 b10 b11 b12 x29 x30 x31 x32 x33 x34 x35 x36 x37 x38 x39 x40 x4 :=
  ⟨h.gb.trans (hb.mono h.gb.size), h.f0, h.f1, h.f2, h.f3, h.f4, h.f5, h.f6, h.f7, h.f8, h.f9, h.f10, h.f11, h.f12⟩
set_option maxRecDepth 40000 in
set_option maxHeartbeats 16000000 in
theorem can_merge (t : Tb) (a : Ad) (x : Int) (q : Bool) (w : World) (hm : TM 0 w t a) (hw : TW t a) (hd : Sd t) (hq : q = true ↔ CanG t x) :
    Calls Tryz.prog 39 #[tbV t a, .int .i64 x] w fun e w' => e = .returned (.bool q) ∧ Below w.heap.size w w' := by
  have HTM : Hid (Tm t) := sd_tm hd
  have HSL : Hid (t.ss.length = a.sn ∧ a.sn ≤ 16) := ⟨hw.sl, by rw [← hw.sl]; exact HTM.out.n2⟩
  have HQG : Hid (q = true ↔ CanG t x) := hq
  have HSD : Hid (Sd t) := hd
  have HMM : Hid (∀ X, Below w.heap.size w X → TM 0 X t a) := fun X hX => hm.below hX
  have HB : Hid (Below w.heap.size w (w.alloc (.cells (tbA t a) 33))) := (Below.refl _ _).alloc (Nat.le_refl _) _
  have HX : Hid (TBx (w.alloc (.cells (tbA t a) 33)) w.heap.size t a) := TBx.new w t a _ rfl
  have HSB : Hid (a.sn ≤ 9223372036854775807) := hw.sb
  obtain ⟨q1, hq1⟩ := told (0 ≤ x ∧ x < (a.sn : Int))
  have HQ1 : Hid (q1 = true ↔ (0 ≤ x ∧ x < (a.sn : Int))) := hq1
  clear hm hw hd hq hq1
  go_enter Tryz.func39, Tryz.ntmps39
  go_wp2_with (first | (refine wpList_load_row rfl 33 (.tmp 2) rfl w.heap.size rfl 33 (tbA t a) (0, 0) _ HX.out Tryz.underlying33 rfl (by kernel_rfl) ?_) | (refine wpList_load_row_w (by rfl) 33 (.tmp 2) rfl w.heap.size rfl 33 (tbA t a) (0, 0) _ HX.out Tryz.underlying33 rfl (by kernel_rfl) ?_) | fail)
  revert HB HX
  generalize (w.alloc (.cells (tbA t a) 33)) = WZ
  intro HB HX
  refine Calls.mono (has_slot t a x q1 _ HSB.out HQ1.out) ?_
  rintro e w9a ⟨rfl, hb9⟩
  replace HX : Hid (TBx w9a w.heap.size t a) := HX.out.below hb9
  replace HB : Hid (Below w.heap.size w w9a) := HB.out.trans (hb9.mono HB.out.size)
  clear hb9
  cases q1
  · have HNO : Hid (q = false) := not_true HQG.out (fun h => absurd (HQ1.out.2 (by have := h.2.1; have := HSL.out; omega)) (by simp))
    clear HQ1
    go_wp2_with (first | fail)
    go_ret
    exact ⟨by rw [HNO.out]; rfl, HB.out⟩
  have hx := HQ1.out.1 rfl
  obtain ⟨k, rfl⟩ : ∃ k : Nat, x = (k : Int) := ⟨x.toNat, by omega⟩
  obtain ⟨q2, hq2⟩ := told (0 ≤ (k : Int) + 1 ∧ (k : Int) + 1 < (a.sn : Int))
  have HQ2 : Hid (q2 = true ↔ (0 ≤ (k : Int) + 1 ∧ (k : Int) + 1 < (a.sn : Int))) := hq2
  have HWR1 : Hid (IntKind.i64.wrap ((k : Int) + 1) = (k : Int) + 1) := by have := HSL.out; show _ = _; rw [IntKind.wrap_i64]; omega
  have hwr := HWR1.out
  clear hq2 HQ1
  go_wp2_with (first | (refine wpList_load_row rfl 33 (.tmp 2) rfl w.heap.size rfl 33 (tbA t a) (0, 0) _ HX.out Tryz.underlying33 rfl (by kernel_rfl) ?_) | (refine wpList_load_row_w (by rfl) 33 (.tmp 2) rfl w.heap.size rfl 33 (tbA t a) (0, 0) _ HX.out Tryz.underlying33 rfl (by kernel_rfl) ?_) | fail)
  refine Calls.mono (has_slot t a _ q2 _ HSB.out HQ2.out) ?_
  rintro e w9b ⟨rfl, hb9⟩
  replace HX : Hid (TBx w9b w.heap.size t a) := HX.out.below hb9
  replace HB : Hid (Below w.heap.size w w9b) := HB.out.trans (hb9.mono HB.out.size)
  clear hb9
  clear hwr
  cases q2
  · have HNO : Hid (q = false) := not_true HQG.out (fun h => absurd (HQ2.out.2 (by have := h.2.1; have := HSL.out; omega)) (by simp))
    clear HQ2
    go_wp2_with (first | fail)
    go_ret
    exact ⟨by rw [HNO.out]; rfl, HB.out⟩
  have hx2 := HQ2.out.1 rfl
  have hk2 : k + 1 < a.sn := by omega
  have hkl : k + 1 < t.ss.length := by have := HSL.out; omega
  have hst := HTM.out.st k (by omega)
  have hen := HTM.out.en k (by omega)
  have hln := HTM.out.ln k (by omega)
  have hp1 := HTM.out.pad1
  have hg1 := HTM.out.grd1
  have hmj := HTM.out.maj2
  generalize w9b = WA at *
  obtain ⟨b1, o1, hsa, hbl1, p1⟩ := (HMM.out _ HB.out).s.seg.at k (by omega)
  have p2 : CellsAt WA b1 (o1 + (k + 1) * 3) (slX t.ss (k + 1)) := by
    obtain ⟨b9, o9, hsa9, _, p9⟩ := (HMM.out _ HB.out).s.seg.at (k + 1) hk2
    rw [hsa] at hsa9
    injection hsa9 with e
    injection e with e1 e2
    subst e1 e2
    exact p9
  have HQ3 : q = true ↔ ((t.ss.getD k sl0).1 = (t.ss.getD (k + 1) sl0).1 ∧ (t.ss.getD k sl0).2.1 + (t.ss.getD k sl0).2.2 = (t.ss.getD (k + 1) sl0).2.1) := by
    rw [HQG.out]
    refine ⟨fun h => by have := h.2.2; rw [Int.toNat_natCast] at this; exact this, fun h => ⟨HSD.out, ⟨by omega, by omega⟩, by rw [Int.toNat_natCast]; exact h⟩⟩
  simp only [slX] at p1 p2
  obtain ⟨y, hy⟩ : ∃ y, t.ss.getD k sl0 = y := ⟨_, rfl⟩
  obtain ⟨yy, hyy⟩ : ∃ y, t.ss.getD (k + 1) sl0 = y := ⟨_, rfl⟩
  rw [hy] at p1 hst hen hln HQ3
  rw [hyy] at p2 HQ3
  obtain ⟨z1, z2, z3⟩ := y
  obtain ⟨y1, y2, y3⟩ := yy
  simp only at hst hen hln HQ3
  have HQ : Hid (q = true ↔ (z1 = y1 ∧ z2 + z3 = y2)) := HQ3
  obtain ⟨sn, HSN⟩ : ∃ n, Hid (a.sn = n) := ⟨_, rfl⟩
  obtain ⟨sc, HSC⟩ : ∃ n, Hid (a.sc = n) := ⟨_, rfl⟩
  have HTX : Hid (∀ X, Below WA.heap.size WA X → X.cell? ⟨w.heap.size, 18, none⟩ = some (.slice (some ⟨b1, o1, none⟩) sn sc) ∧ (X.cell? ⟨b1, o1 + k * 3, none⟩ = some (.int .i64 z1) ∧ X.cell? ⟨b1, o1 + k * 3 + 1, none⟩ = some (.int .i64 z2) ∧ X.cell? ⟨b1, o1 + k * 3 + 2, none⟩ = some (.int .i64 z3)) ∧ X.cell? ⟨b1, o1 + (k + 1) * 3, none⟩ = some (.int .i64 y1) ∧ X.cell? ⟨b1, o1 + (k + 1) * 3 + 1, none⟩ = some (.int .i64 y2) ∧ X.cell? ⟨b1, o1 + (k + 1) * 3 + 2, none⟩ = some (.int .i64 y3)) := fun X hX => by
    have h1 := (HX.out.below hX).cell 18 (v := .slice a.sa a.sn a.sc) rfl
    rw [hsa, HSN.out, HSC.out] at h1
    exact ⟨h1, sl_cells (p1.below hX), sl_cells (p2.below hX)⟩
  have HEND : Hid (∀ Y, Calls Tryz.prog 65 #[.agg #[.int .i64 z1, .int .i64 z2, .int .i64 z3]] Y fun e w' => e = .returned (.int .i64 (z2 + z3)) ∧ Below Y.heap.size Y w') := fun Y => slot_end z1 z2 z3 Y (by rw [IntKind.wrap_i64]; omega)
  have hks : (k : Int) < (sn : Int) := by have := HSN.out; omega
  have hkn : k + 1 < sn := by have := HSN.out; omega
  have HK1 : Hid ((k : Int) + 1 < (sn : Int)) := by show _ < _; omega
  clear p1 p2 hbl1 hsa HX HQ2 HQ3 HQG HSD HMM HTM hx hx2 hy hyy HSN HSC hst hen hln hp1 hg1 hmj hkl hk2 HSL
  go_wp2
  refine wp_region_inv (by kernel_rfl) (by kernel_rfl) (fun A ℓ a' w' => ∃ (N1 : Nat) (N2 : Nat) (x18 x19 x20 x21 x22 x23 x24 x25 x26 x27 x28 x5 x6 : Value), a' = (((((((((((((A.put (some 18) x18).put (some 19) x19).put (some 20) x20).put (some 21) x21).put (some 22) x22).put (some 23) x23).put (some 24) x24).put (some 25) x25).put (some 26) x26).put (some 27) x27).put (some 28) x28).put (some 5) x5).put (some 6) x6) ∧ Icr WA w.heap.size (some ⟨b1, o1, none⟩) sn sc k ⟨b1, o1 + k * 3, none⟩ ⟨b1, o1 + (k + 1) * 3, none⟩ z1 z2 z3 y1 y2 y3 w' N1 N2 (ℓ 0) (ℓ 1) (ℓ 2) (ℓ 3) (ℓ 4) (ℓ 5) (ℓ 6) (ℓ 7) (ℓ 8) (ℓ 9) (ℓ 10) (ℓ 11) (ℓ 12) (ℓ 13) (ℓ 14) x18 x19 x20 x21 x22 x23 x24 x25 x26 x27 x28 x5 x6) ?_ ?_ ?_ ?_
  · exact ⟨0, 0, undef, undef, undef, undef, undef, undef, undef, undef, undef, undef, undef, undef, undef, (by simp only [Act.put, List.setIfInBounds_toArray, List.set_cons_zero, List.set_cons_succ]), ⟨(fun g => by cases g), (fun g => by cases g), (Below.refl _ _).drew, (fun g => by cases g), (fun g => by cases g), (fun g => by cases g), (fun g => by cases g), (fun g => by cases g), (fun g => by cases g), (fun g => by cases g), (fun g => by cases g), (fun g => by cases g), (fun g => by cases g), (fun g => by cases g), (fun g => by cases g), (fun g => by cases g), (fun g => by cases g)⟩⟩
  · intro ℓ a' w' hI hall
    obtain ⟨N1, N2, x18, x19, x20, x21, x22, x23, x24, x25, x26, x27, x28, x5, x6, rfl, hr⟩ := hI
    have hall' : ∀ i, i < 15 → ℓ i = true := hall
    obtain ⟨rfl, hn1, _, hr1⟩ := hr.f11 (hall' 11 (by decide))
    obtain ⟨rfl, hn2, _, hr2⟩ := hr.f12 (hall' 12 (by decide))
    have HF1 : Hid (w'.heap[N1]? = some (.cells #[.int .i64 z1, .int .i64 z2, .int .i64 z3] 42 (0, 0))) := hr1 (hall' 13 (by decide))
    have HF2 : Hid (w'.heap[N2]? = some (.cells #[.int .i64 y1, .int .i64 y2, .int .i64 y3] 42 (0, 0))) := hr2 (hall' 14 (by decide))
    have HG1 : Hid (Below WA.heap.size WA w') := hr.gb
    clear hr hall hall' hr1 hr2 hn1 hn2
    simp only [Act.put, List.setIfInBounds_toArray, List.set_cons_zero, List.set_cons_succ]
    have HBD : Hid (Below w.heap.size w w') := HB.out.trans (HG1.out.mono HB.out.size)
    generalize w' = WD at *
    have HW0 : Hid (Below WD.heap.size WD WD) := Below.refl _ _
    have HQ4 : Hid (∀ X, Below WD.heap.size WD X → (X.cell? ⟨N1, 0, none⟩ = some (.int .i64 z1) ∧ X.cell? ⟨N1, 1, none⟩ = some (.int .i64 z2) ∧ X.cell? ⟨N1, 2, none⟩ = some (.int .i64 z3)) ∧ X.cell? ⟨N2, 0, none⟩ = some (.int .i64 y1) ∧ X.cell? ⟨N2, 1, none⟩ = some (.int .i64 y2)) := fun X hX => by
      have h1 := row_below HF1.out hX
      have h2 := row_below HF2.out hX
      exact ⟨⟨row_cell h1 0 _ rfl, row_cell h1 1 _ rfl, row_cell h1 2 _ rfl⟩, row_cell h2 0 _ rfl, row_cell h2 1 _ rfl⟩
    clear HF1 HF2 HG1 HTX
    go_wp2
    by_cases he1 : z1 = y1
    rotate_left
    · have HE1 : Hid ((z1 == y1) = false) := beq_eq_false_iff_ne.2 he1
      have HFIN : Hid (Ending.returned (.bool false) = Ending.returned (.bool q)) := by
        show _ = _
        rw [not_true HQ.out (fun h => he1 h.1)]
      clear he1
      refine wp_region_inv (by kernel_rfl) (by kernel_rfl) (fun A ℓ a' w' => ∃ (x29 x30 x31 x32 x33 x34 x35 x36 x37 x38 x39 x40 x4 : Value), a' = (((((((((((((A.put (some 29) x29).put (some 30) x30).put (some 31) x31).put (some 32) x32).put (some 33) x33).put (some 34) x34).put (some 35) x35).put (some 36) x36).put (some 37) x37).put (some 38) x38).put (some 39) x39).put (some 40) x40).put (some 4) x4) ∧ RmN WD (.pointer (some ⟨N1, 0, none⟩)) (.pointer (some ⟨N2, 0, none⟩)) (.pointer (some ⟨N2, 1, none⟩)) (.int .i64 z1) (.int .i64 y1) (.agg #[.int .i64 z1, .int .i64 z2, .int .i64 z3]) (.int .i64 (z2 + z3)) (.int .i64 y2) (.bool q) w' (ℓ 0) (ℓ 1) (ℓ 2) (ℓ 3) (ℓ 4) (ℓ 5) (ℓ 6) (ℓ 7) (ℓ 8) (ℓ 9) (ℓ 10) (ℓ 11) (ℓ 12) x29 x30 x31 x32 x33 x34 x35 x36 x37 x38 x39 x40 x4) ?_ ?_ ?_ ?_
      · exact ⟨undef, undef, undef, undef, undef, undef, undef, undef, undef, undef, undef, undef, .bool false, (by simp only [Act.put, List.setIfInBounds_toArray, List.set_cons_zero, List.set_cons_succ]), ⟨HW0.out.drew, (fun g => by cases g), (fun g => by cases g), (fun g => by cases g), (fun g => by cases g), (fun g => by cases g), (fun g => by cases g), (fun g => by cases g), (fun g => by cases g), (fun g => by cases g), (fun g => by cases g), (fun g => by cases g), (fun g => by cases g), (fun g => by cases g)⟩⟩
      · intro ℓ a' w' hI hall
        obtain ⟨x29, x30, x31, x32, x33, x34, x35, x36, x37, x38, x39, x40, x4, rfl, hr⟩ := hI
        have hall' : ∀ i, i < 13 → ℓ i = true := hall
        obtain rfl := hr.f0 (hall' 0 (by decide))
        obtain rfl := hr.f1 (hall' 1 (by decide))
        obtain rfl := hr.f2 (hall' 2 (by decide))
        obtain rfl := hr.f3 (hall' 3 (by decide))
        obtain rfl := hr.f4 (hall' 4 (by decide))
        obtain rfl := hr.f5 (hall' 5 (by decide))
        obtain rfl := hr.f6 (hall' 6 (by decide))
        obtain rfl := hr.f7 (hall' 7 (by decide))
        obtain rfl := hr.f8 (hall' 8 (by decide))
        obtain rfl := hr.f9 (hall' 9 (by decide))
        obtain rfl := hr.f10 (hall' 10 (by decide))
        obtain rfl := hr.f11 (hall' 11 (by decide))
        obtain rfl := hr.f12 (hall' 12 (by decide))
        have gb : Hid (Below WD.heap.size WD w') := hr.gb
        clear hall hall' hr
        simp only [Act.put, List.setIfInBounds_toArray, List.set_cons_zero, List.set_cons_succ]
        go_wp2
        go_ret
        exact ⟨HFIN.out, HBD.out.trans (gb.out.mono HBD.out.size)⟩
      · intro ℓ a' w' i o hI ho hi hL hdep K hK
        obtain ⟨x29, x30, x31, x32, x33, x34, x35, x36, x37, x38, x39, x40, x4, rfl, hr⟩ := hI
        have hi7 : i < 13 := hi
        have hcs : i = 0 ∨ i = 1 ∨ i = 2 ∨ i = 3 ∨ i = 4 ∨ i = 5 ∨ i = 6 ∨ i = 7 ∨ i = 8 ∨ i = 9 ∨ i = 10 ∨ i = 11 ∨ i = 12 := by omega
        clear hi hi7
        rcases hcs with rfl | rfl | rfl | rfl | rfl | rfl | rfl | rfl | rfl | rfl | rfl | rfl | rfl
        · obtain rfl := Option.some.inj ho
          clear hdep ho
          revert hK
          intro hK
          rw [if_pos (by rfl)]
          try simp only [Act.put, List.setIfInBounds_toArray, List.set_cons_zero, List.set_cons_succ]
          go_simp
          exact hK.out _ _ (fun j => if j = 0 then true else ℓ j) ⟨.pointer (some ⟨N1, 0, none⟩), x30, x31, x32, x33, x34, x35, x36, x37, x38, x39, x40, x4, (by simp only [Act.put, List.setIfInBounds_toArray, List.set_cons_zero, List.set_cons_succ]), ⟨hr.gb, (fun _ => rfl), hr.f1, hr.f2, hr.f3, hr.f4, hr.f5, hr.f6, hr.f7, hr.f8, hr.f9, hr.f10, hr.f11, hr.f12⟩⟩ (if_pos rfl) (fun j hj => if_neg hj)
        · obtain rfl := Option.some.inj ho
          have g0 : ℓ 0 = true := hdep { on := 0, ground := Ground.data } (by simp) rfl
          clear hdep ho
          revert hK
          obtain rfl := hr.f0 g0
          have hcx := (HQ4.out _ hr.gb).1.1
          intro hK
          rw [if_pos (by rfl)]
          try simp only [Act.put, List.setIfInBounds_toArray, List.set_cons_zero, List.set_cons_succ]
          go_simp
          exact hK.out _ _ (fun j => if j = 1 then true else ℓ j) ⟨.pointer (some ⟨N1, 0, none⟩), .int .i64 z1, x31, x32, x33, x34, x35, x36, x37, x38, x39, x40, x4, (by simp only [Act.put, List.setIfInBounds_toArray, List.set_cons_zero, List.set_cons_succ]), ⟨hr.gb, (fun _ => rfl), (fun _ => rfl), hr.f2, hr.f3, hr.f4, hr.f5, hr.f6, hr.f7, hr.f8, hr.f9, hr.f10, hr.f11, hr.f12⟩⟩ (if_pos rfl) (fun j hj => if_neg hj)
        · obtain rfl := Option.some.inj ho
          clear hdep ho
          revert hK
          intro hK
          rw [if_pos (by rfl)]
          try simp only [Act.put, List.setIfInBounds_toArray, List.set_cons_zero, List.set_cons_succ]
          go_simp
          exact hK.out _ _ (fun j => if j = 2 then true else ℓ j) ⟨x29, x30, .pointer (some ⟨N2, 0, none⟩), x32, x33, x34, x35, x36, x37, x38, x39, x40, x4, (by simp only [Act.put, List.setIfInBounds_toArray, List.set_cons_zero, List.set_cons_succ]), ⟨hr.gb, hr.f0, hr.f1, (fun _ => rfl), hr.f3, hr.f4, hr.f5, hr.f6, hr.f7, hr.f8, hr.f9, hr.f10, hr.f11, hr.f12⟩⟩ (if_pos rfl) (fun j hj => if_neg hj)
        · obtain rfl := Option.some.inj ho
          have g2 : ℓ 2 = true := hdep { on := 2, ground := Ground.data } (by simp) rfl
          clear hdep ho
          revert hK
          obtain rfl := hr.f2 g2
          have hcx := (HQ4.out _ hr.gb).2.1
          intro hK
          rw [if_pos (by rfl)]
          try simp only [Act.put, List.setIfInBounds_toArray, List.set_cons_zero, List.set_cons_succ]
          go_simp
          exact hK.out _ _ (fun j => if j = 3 then true else ℓ j) ⟨x29, x30, .pointer (some ⟨N2, 0, none⟩), .int .i64 y1, x33, x34, x35, x36, x37, x38, x39, x40, x4, (by simp only [Act.put, List.setIfInBounds_toArray, List.set_cons_zero, List.set_cons_succ]), ⟨hr.gb, hr.f0, hr.f1, (fun _ => rfl), (fun _ => rfl), hr.f4, hr.f5, hr.f6, hr.f7, hr.f8, hr.f9, hr.f10, hr.f11, hr.f12⟩⟩ (if_pos rfl) (fun j hj => if_neg hj)
        · obtain rfl := Option.some.inj ho
          have g1 : ℓ 1 = true := hdep { on := 1, ground := Ground.data } (by simp) rfl
          have g3 : ℓ 3 = true := hdep { on := 3, ground := Ground.data } (by simp) rfl
          clear hdep ho
          revert hK
          obtain rfl := hr.f1 g1
          obtain rfl := hr.f3 g3
          intro hK
          rw [if_pos (by rfl)]
          try simp only [Act.put, List.setIfInBounds_toArray, List.set_cons_zero, List.set_cons_succ]
          go_simp
          rw [HE1.out]
          exact hK.out _ _ (fun j => if j = 4 then true else ℓ j) ⟨x29, .int .i64 z1, x31, .int .i64 y1, .bool false, x34, x35, x36, x37, x38, x39, x40, x4, (by simp only [Act.put, List.setIfInBounds_toArray, List.set_cons_zero, List.set_cons_succ]), ⟨hr.gb, hr.f0, (fun _ => rfl), hr.f2, (fun _ => rfl), (fun _ => rfl), hr.f5, hr.f6, hr.f7, hr.f8, hr.f9, hr.f10, hr.f11, hr.f12⟩⟩ (if_pos rfl) (fun j hj => if_neg hj)
        · obtain rfl := Option.some.inj ho
          have g4 : ℓ 4 = true := hdep { on := 4, ground := Ground.data } (by simp) rfl
          clear hdep ho
          revert hK
          obtain rfl := hr.f4 g4
          intro hK
          rw [if_pos (by rfl)]
          try simp only [Act.put, List.setIfInBounds_toArray, List.set_cons_zero, List.set_cons_succ]
          go_simp
          exact hK.out _ _ (fun j => if j = 5 then true else ℓ j) ⟨x29, x30, x31, x32, .bool false, .bool false, x35, x36, x37, x38, x39, x40, x4, (by simp only [Act.put, List.setIfInBounds_toArray, List.set_cons_zero, List.set_cons_succ]), ⟨hr.gb, hr.f0, hr.f1, hr.f2, hr.f3, (fun _ => rfl), (fun _ => rfl), hr.f6, hr.f7, hr.f8, hr.f9, hr.f10, hr.f11, hr.f12⟩⟩ (if_pos rfl) (fun j hj => if_neg hj)
        · obtain rfl := Option.some.inj ho
          have g5 : ℓ 5 = true := hdep { on := 5, ground := Ground.guard } (by simp) rfl
          clear hdep ho
          revert hK
          obtain rfl := hr.f5 g5
          intro hK
          try simp only [Act.put, List.setIfInBounds_toArray, List.set_cons_zero, List.set_cons_succ]
          rw [if_neg (by first | exact fun h => Bool.false_ne_true h | exact fun h => Bool.false_ne_true h.symm)]
          try simp only [List.getElem_toArray, List.getElem_cons_zero, List.getElem_cons_succ, List.set_cons_zero, List.set_cons_succ]
          exact hK.out _ _ (fun j => if j = 6 then true else ℓ j) ⟨x29, x30, x31, x32, x33, .bool false, undef, x36, x37, x38, x39, x40, x4, (by simp only [Act.put, List.setIfInBounds_toArray, List.set_cons_zero, List.set_cons_succ]), ⟨hr.gb, hr.f0, hr.f1, hr.f2, hr.f3, hr.f4, (fun _ => rfl), (fun _ => rfl), hr.f7, hr.f8, hr.f9, hr.f10, hr.f11, hr.f12⟩⟩ (if_pos rfl) (fun j hj => if_neg hj)
        · obtain rfl := Option.some.inj ho
          have g5 : ℓ 5 = true := hdep { on := 5, ground := Ground.guard } (by simp) rfl
          clear hdep ho
          revert hK
          obtain rfl := hr.f5 g5
          intro hK
          try simp only [Act.put, List.setIfInBounds_toArray, List.set_cons_zero, List.set_cons_succ]
          rw [if_neg (by first | exact fun h => Bool.false_ne_true h | exact fun h => Bool.false_ne_true h.symm)]
          try simp only [List.getElem_toArray, List.getElem_cons_zero, List.getElem_cons_succ, List.set_cons_zero, List.set_cons_succ]
          exact hK.out _ _ (fun j => if j = 7 then true else ℓ j) ⟨x29, x30, x31, x32, x33, .bool false, x35, undef, x37, x38, x39, x40, x4, (by simp only [Act.put, List.setIfInBounds_toArray, List.set_cons_zero, List.set_cons_succ]), ⟨hr.gb, hr.f0, hr.f1, hr.f2, hr.f3, hr.f4, (fun _ => rfl), hr.f6, (fun _ => rfl), hr.f8, hr.f9, hr.f10, hr.f11, hr.f12⟩⟩ (if_pos rfl) (fun j hj => if_neg hj)
        · obtain rfl := Option.some.inj ho
          have g5 : ℓ 5 = true := hdep { on := 5, ground := Ground.guard } (by simp) rfl
          clear hdep ho
          revert hK
          obtain rfl := hr.f5 g5
          intro hK
          try simp only [Act.put, List.setIfInBounds_toArray, List.set_cons_zero, List.set_cons_succ]
          rw [if_neg (by first | exact fun h => Bool.false_ne_true h | exact fun h => Bool.false_ne_true h.symm)]
          try simp only [List.getElem_toArray, List.getElem_cons_zero, List.getElem_cons_succ, List.set_cons_zero, List.set_cons_succ]
          exact hK.out _ _ (fun j => if j = 8 then true else ℓ j) ⟨x29, x30, x31, x32, x33, .bool false, x35, x36, undef, x38, x39, x40, x4, (by simp only [Act.put, List.setIfInBounds_toArray, List.set_cons_zero, List.set_cons_succ]), ⟨hr.gb, hr.f0, hr.f1, hr.f2, hr.f3, hr.f4, (fun _ => rfl), hr.f6, hr.f7, (fun _ => rfl), hr.f9, hr.f10, hr.f11, hr.f12⟩⟩ (if_pos rfl) (fun j hj => if_neg hj)
        · obtain rfl := Option.some.inj ho
          have g5 : ℓ 5 = true := hdep { on := 5, ground := Ground.guard } (by simp) rfl
          clear hdep ho
          revert hK
          obtain rfl := hr.f5 g5
          intro hK
          try simp only [Act.put, List.setIfInBounds_toArray, List.set_cons_zero, List.set_cons_succ]
          rw [if_neg (by first | exact fun h => Bool.false_ne_true h | exact fun h => Bool.false_ne_true h.symm)]
          try simp only [List.getElem_toArray, List.getElem_cons_zero, List.getElem_cons_succ, List.set_cons_zero, List.set_cons_succ]
          exact hK.out _ _ (fun j => if j = 9 then true else ℓ j) ⟨x29, x30, x31, x32, x33, .bool false, x35, x36, x37, undef, x39, x40, x4, (by simp only [Act.put, List.setIfInBounds_toArray, List.set_cons_zero, List.set_cons_succ]), ⟨hr.gb, hr.f0, hr.f1, hr.f2, hr.f3, hr.f4, (fun _ => rfl), hr.f6, hr.f7, hr.f8, (fun _ => rfl), hr.f10, hr.f11, hr.f12⟩⟩ (if_pos rfl) (fun j hj => if_neg hj)
        · obtain rfl := Option.some.inj ho
          have g5 : ℓ 5 = true := hdep { on := 5, ground := Ground.guard } (by simp) rfl
          clear hdep ho
          revert hK
          obtain rfl := hr.f5 g5
          intro hK
          try simp only [Act.put, List.setIfInBounds_toArray, List.set_cons_zero, List.set_cons_succ]
          rw [if_neg (by first | exact fun h => Bool.false_ne_true h | exact fun h => Bool.false_ne_true h.symm)]
          try simp only [List.getElem_toArray, List.getElem_cons_zero, List.getElem_cons_succ, List.set_cons_zero, List.set_cons_succ]
          exact hK.out _ _ (fun j => if j = 10 then true else ℓ j) ⟨x29, x30, x31, x32, x33, .bool false, x35, x36, x37, x38, undef, x40, x4, (by simp only [Act.put, List.setIfInBounds_toArray, List.set_cons_zero, List.set_cons_succ]), ⟨hr.gb, hr.f0, hr.f1, hr.f2, hr.f3, hr.f4, (fun _ => rfl), hr.f6, hr.f7, hr.f8, hr.f9, (fun _ => rfl), hr.f11, hr.f12⟩⟩ (if_pos rfl) (fun j hj => if_neg hj)
        · obtain rfl := Option.some.inj ho
          have g5 : ℓ 5 = true := hdep { on := 5, ground := Ground.data } (by simp) rfl
          have g10 : ℓ 10 = true := hdep { on := 10, ground := Ground.data } (by simp) rfl
          clear hdep ho
          revert hK
          obtain rfl := hr.f5 g5
          obtain rfl := hr.f10 g10
          intro hK
          rw [if_pos (by rfl)]
          try simp only [Act.put, List.setIfInBounds_toArray, List.set_cons_zero, List.set_cons_succ]
          go_simp
          exact hK.out _ _ (fun j => if j = 11 then true else ℓ j) ⟨x29, x30, x31, x32, x33, .bool false, x35, x36, x37, x38, undef, .bool false, x4, (by simp only [Act.put, List.setIfInBounds_toArray, List.set_cons_zero, List.set_cons_succ]), ⟨hr.gb, hr.f0, hr.f1, hr.f2, hr.f3, hr.f4, (fun _ => rfl), hr.f6, hr.f7, hr.f8, hr.f9, (fun _ => rfl), (fun _ => rfl), hr.f12⟩⟩ (if_pos rfl) (fun j hj => if_neg hj)
        · obtain rfl := Option.some.inj ho
          have g11 : ℓ 11 = true := hdep { on := 11, ground := Ground.data } (by simp) rfl
          clear hdep ho
          revert hK
          obtain rfl := hr.f11 g11
          intro hK
          rw [if_pos (by rfl)]
          try simp only [Act.put, List.setIfInBounds_toArray, List.set_cons_zero, List.set_cons_succ]
          go_simp
          exact hK.out _ _ (fun j => if j = 12 then true else ℓ j) ⟨x29, x30, x31, x32, x33, x34, x35, x36, x37, x38, x39, .bool false, .bool false, (by simp only [Act.put, List.setIfInBounds_toArray, List.set_cons_zero, List.set_cons_succ]), ⟨hr.gb, hr.f0, hr.f1, hr.f2, hr.f3, hr.f4, hr.f5, hr.f6, hr.f7, hr.f8, hr.f9, hr.f10, (fun _ => rfl), (fun _ => rfl)⟩⟩ (if_pos rfl) (fun j hj => if_neg hj)
      · rintro a' w' ℓ ℓ' hℓ hI
        rw [← show ℓ = ℓ' from funext hℓ]
        exact hI
    have HE1 : Hid ((z1 == y1) = true) := beq_iff_eq.2 he1
    have HE2 : Hid ((z2 + z3 == y2) = q) := bool_is HQ.out ⟨fun h => ⟨he1, beq_iff_eq.1 h⟩, fun h => beq_iff_eq.2 h.2⟩
    clear he1
    refine wp_region_inv (by kernel_rfl) (by kernel_rfl) (fun A ℓ a' w' => ∃ (x29 x30 x31 x32 x33 x34 x35 x36 x37 x38 x39 x40 x4 : Value), a' = (((((((((((((A.put (some 29) x29).put (some 30) x30).put (some 31) x31).put (some 32) x32).put (some 33) x33).put (some 34) x34).put (some 35) x35).put (some 36) x36).put (some 37) x37).put (some 38) x38).put (some 39) x39).put (some 40) x40).put (some 4) x4) ∧ RmY WD (.pointer (some ⟨N1, 0, none⟩)) (.pointer (some ⟨N2, 0, none⟩)) (.pointer (some ⟨N2, 1, none⟩)) (.int .i64 z1) (.int .i64 y1) (.agg #[.int .i64 z1, .int .i64 z2, .int .i64 z3]) (.int .i64 (z2 + z3)) (.int .i64 y2) (.bool q) w' (ℓ 0) (ℓ 1) (ℓ 2) (ℓ 3) (ℓ 4) (ℓ 5) (ℓ 6) (ℓ 7) (ℓ 8) (ℓ 9) (ℓ 10) (ℓ 11) (ℓ 12) x29 x30 x31 x32 x33 x34 x35 x36 x37 x38 x39 x40 x4) ?_ ?_ ?_ ?_
    · exact ⟨undef, undef, undef, undef, undef, undef, undef, undef, undef, undef, undef, undef, .bool false, (by simp only [Act.put, List.setIfInBounds_toArray, List.set_cons_zero, List.set_cons_succ]), ⟨HW0.out.drew, (fun g => by cases g), (fun g => by cases g), (fun g => by cases g), (fun g => by cases g), (fun g => by cases g), (fun g => by cases g), (fun g => by cases g), (fun g => by cases g), (fun g => by cases g), (fun g => by cases g), (fun g => by cases g), (fun g => by cases g), (fun g => by cases g)⟩⟩
    · intro ℓ a' w' hI hall
      obtain ⟨x29, x30, x31, x32, x33, x34, x35, x36, x37, x38, x39, x40, x4, rfl, hr⟩ := hI
      have hall' : ∀ i, i < 13 → ℓ i = true := hall
      obtain rfl := hr.f0 (hall' 0 (by decide))
      obtain rfl := hr.f1 (hall' 1 (by decide))
      obtain rfl := hr.f2 (hall' 2 (by decide))
      obtain rfl := hr.f3 (hall' 3 (by decide))
      obtain rfl := hr.f4 (hall' 4 (by decide))
      obtain rfl := hr.f5 (hall' 5 (by decide))
      obtain rfl := hr.f6 (hall' 6 (by decide))
      obtain rfl := hr.f7 (hall' 7 (by decide))
      obtain rfl := hr.f8 (hall' 8 (by decide))
      obtain rfl := hr.f9 (hall' 9 (by decide))
      obtain rfl := hr.f10 (hall' 10 (by decide))
      obtain rfl := hr.f11 (hall' 11 (by decide))
      obtain rfl := hr.f12 (hall' 12 (by decide))
      have gb : Hid (Below WD.heap.size WD w') := hr.gb
      clear hall hall' hr
      simp only [Act.put, List.setIfInBounds_toArray, List.set_cons_zero, List.set_cons_succ]
      go_wp2
      go_ret
      exact ⟨rfl, HBD.out.trans (gb.out.mono HBD.out.size)⟩
    · intro ℓ a' w' i o hI ho hi hL hdep K hK
      obtain ⟨x29, x30, x31, x32, x33, x34, x35, x36, x37, x38, x39, x40, x4, rfl, hr⟩ := hI
      have hi7 : i < 13 := hi
      have hcs : i = 0 ∨ i = 1 ∨ i = 2 ∨ i = 3 ∨ i = 4 ∨ i = 5 ∨ i = 6 ∨ i = 7 ∨ i = 8 ∨ i = 9 ∨ i = 10 ∨ i = 11 ∨ i = 12 := by omega
      clear hi hi7
      rcases hcs with rfl | rfl | rfl | rfl | rfl | rfl | rfl | rfl | rfl | rfl | rfl | rfl | rfl
      · obtain rfl := Option.some.inj ho
        clear hdep ho
        revert hK
        intro hK
        rw [if_pos (by rfl)]
        try simp only [Act.put, List.setIfInBounds_toArray, List.set_cons_zero, List.set_cons_succ]
        go_simp
        exact hK.out _ _ (fun j => if j = 0 then true else ℓ j) ⟨.pointer (some ⟨N1, 0, none⟩), x30, x31, x32, x33, x34, x35, x36, x37, x38, x39, x40, x4, (by simp only [Act.put, List.setIfInBounds_toArray, List.set_cons_zero, List.set_cons_succ]), ⟨hr.gb, (fun _ => rfl), hr.f1, hr.f2, hr.f3, hr.f4, hr.f5, hr.f6, hr.f7, hr.f8, hr.f9, hr.f10, hr.f11, hr.f12⟩⟩ (if_pos rfl) (fun j hj => if_neg hj)
      · obtain rfl := Option.some.inj ho
        have g0 : ℓ 0 = true := hdep { on := 0, ground := Ground.data } (by simp) rfl
        clear hdep ho
        revert hK
        obtain rfl := hr.f0 g0
        have hcx := (HQ4.out _ hr.gb).1.1
        intro hK
        rw [if_pos (by rfl)]
        try simp only [Act.put, List.setIfInBounds_toArray, List.set_cons_zero, List.set_cons_succ]
        go_simp
        exact hK.out _ _ (fun j => if j = 1 then true else ℓ j) ⟨.pointer (some ⟨N1, 0, none⟩), .int .i64 z1, x31, x32, x33, x34, x35, x36, x37, x38, x39, x40, x4, (by simp only [Act.put, List.setIfInBounds_toArray, List.set_cons_zero, List.set_cons_succ]), ⟨hr.gb, (fun _ => rfl), (fun _ => rfl), hr.f2, hr.f3, hr.f4, hr.f5, hr.f6, hr.f7, hr.f8, hr.f9, hr.f10, hr.f11, hr.f12⟩⟩ (if_pos rfl) (fun j hj => if_neg hj)
      · obtain rfl := Option.some.inj ho
        clear hdep ho
        revert hK
        intro hK
        rw [if_pos (by rfl)]
        try simp only [Act.put, List.setIfInBounds_toArray, List.set_cons_zero, List.set_cons_succ]
        go_simp
        exact hK.out _ _ (fun j => if j = 2 then true else ℓ j) ⟨x29, x30, .pointer (some ⟨N2, 0, none⟩), x32, x33, x34, x35, x36, x37, x38, x39, x40, x4, (by simp only [Act.put, List.setIfInBounds_toArray, List.set_cons_zero, List.set_cons_succ]), ⟨hr.gb, hr.f0, hr.f1, (fun _ => rfl), hr.f3, hr.f4, hr.f5, hr.f6, hr.f7, hr.f8, hr.f9, hr.f10, hr.f11, hr.f12⟩⟩ (if_pos rfl) (fun j hj => if_neg hj)
      · obtain rfl := Option.some.inj ho
        have g2 : ℓ 2 = true := hdep { on := 2, ground := Ground.data } (by simp) rfl
        clear hdep ho
        revert hK
        obtain rfl := hr.f2 g2
        have hcx := (HQ4.out _ hr.gb).2.1
        intro hK
        rw [if_pos (by rfl)]
        try simp only [Act.put, List.setIfInBounds_toArray, List.set_cons_zero, List.set_cons_succ]
        go_simp
        exact hK.out _ _ (fun j => if j = 3 then true else ℓ j) ⟨x29, x30, .pointer (some ⟨N2, 0, none⟩), .int .i64 y1, x33, x34, x35, x36, x37, x38, x39, x40, x4, (by simp only [Act.put, List.setIfInBounds_toArray, List.set_cons_zero, List.set_cons_succ]), ⟨hr.gb, hr.f0, hr.f1, (fun _ => rfl), (fun _ => rfl), hr.f4, hr.f5, hr.f6, hr.f7, hr.f8, hr.f9, hr.f10, hr.f11, hr.f12⟩⟩ (if_pos rfl) (fun j hj => if_neg hj)
      · obtain rfl := Option.some.inj ho
        have g1 : ℓ 1 = true := hdep { on := 1, ground := Ground.data } (by simp) rfl
        have g3 : ℓ 3 = true := hdep { on := 3, ground := Ground.data } (by simp) rfl
        clear hdep ho
        revert hK
        obtain rfl := hr.f1 g1
        obtain rfl := hr.f3 g3
        intro hK
        rw [if_pos (by rfl)]
        try simp only [Act.put, List.setIfInBounds_toArray, List.set_cons_zero, List.set_cons_succ]
        go_simp
        rw [HE1.out]
        exact hK.out _ _ (fun j => if j = 4 then true else ℓ j) ⟨x29, .int .i64 z1, x31, .int .i64 y1, .bool true, x34, x35, x36, x37, x38, x39, x40, x4, (by simp only [Act.put, List.setIfInBounds_toArray, List.set_cons_zero, List.set_cons_succ]), ⟨hr.gb, hr.f0, (fun _ => rfl), hr.f2, (fun _ => rfl), (fun _ => rfl), hr.f5, hr.f6, hr.f7, hr.f8, hr.f9, hr.f10, hr.f11, hr.f12⟩⟩ (if_pos rfl) (fun j hj => if_neg hj)
      · obtain rfl := Option.some.inj ho
        have g4 : ℓ 4 = true := hdep { on := 4, ground := Ground.data } (by simp) rfl
        clear hdep ho
        revert hK
        obtain rfl := hr.f4 g4
        intro hK
        rw [if_pos (by rfl)]
        try simp only [Act.put, List.setIfInBounds_toArray, List.set_cons_zero, List.set_cons_succ]
        go_simp
        exact hK.out _ _ (fun j => if j = 5 then true else ℓ j) ⟨x29, x30, x31, x32, .bool true, .bool true, x35, x36, x37, x38, x39, x40, x4, (by simp only [Act.put, List.setIfInBounds_toArray, List.set_cons_zero, List.set_cons_succ]), ⟨hr.gb, hr.f0, hr.f1, hr.f2, hr.f3, (fun _ => rfl), (fun _ => rfl), hr.f6, hr.f7, hr.f8, hr.f9, hr.f10, hr.f11, hr.f12⟩⟩ (if_pos rfl) (fun j hj => if_neg hj)
      · obtain rfl := Option.some.inj ho
        have g5 : ℓ 5 = true := hdep { on := 5, ground := Ground.guard } (by simp) rfl
        clear hdep ho
        revert hK
        obtain rfl := hr.f5 g5
        have q := (HQ4.out _ hr.gb).1
        have cc0 := q.1
        have cc1 := q.2.1
        have cc2 := q.2.2
        clear q
        intro hK
        try simp only [Act.put, List.setIfInBounds_toArray, List.set_cons_zero, List.set_cons_succ]
        rw [if_pos (by rfl)]
        try simp only [Act.put, List.setIfInBounds_toArray, List.set_cons_zero, List.set_cons_succ]
        go_simp
        exact hK.out _ _ (fun j => if j = 6 then true else ℓ j) ⟨x29, x30, x31, x32, x33, .bool true, .agg #[.int .i64 z1, .int .i64 z2, .int .i64 z3], x36, x37, x38, x39, x40, x4, (by simp only [Act.put, List.setIfInBounds_toArray, List.set_cons_zero, List.set_cons_succ]), ⟨hr.gb, hr.f0, hr.f1, hr.f2, hr.f3, hr.f4, (fun _ => rfl), (fun _ => rfl), hr.f7, hr.f8, hr.f9, hr.f10, hr.f11, hr.f12⟩⟩ (if_pos rfl) (fun j hj => if_neg hj)
      · obtain rfl := Option.some.inj ho
        have g6 : ℓ 6 = true := hdep { on := 6, ground := Ground.data } (by simp) rfl
        have g5 : ℓ 5 = true := hdep { on := 5, ground := Ground.guard } (by simp) rfl
        clear hdep ho
        revert hK
        obtain rfl := hr.f5 g5
        obtain rfl := hr.f6 g6
        intro hK
        try simp only [Act.put, List.setIfInBounds_toArray, List.set_cons_zero, List.set_cons_succ]
        rw [if_pos (by rfl)]
        try simp only [Act.put, List.setIfInBounds_toArray, List.set_cons_zero, List.set_cons_succ]
        go_simp
        refine Calls.mono (HEND.out _) ?_
        rintro e w9 ⟨rfl, hb9⟩
        have hr9 := hr.below hb9
        exact hK.out _ _ (fun j => if j = 7 then true else ℓ j) ⟨x29, x30, x31, x32, x33, .bool true, .agg #[.int .i64 z1, .int .i64 z2, .int .i64 z3], .int .i64 (z2 + z3), x37, x38, x39, x40, x4, (by simp only [Act.put, List.setIfInBounds_toArray, List.set_cons_zero, List.set_cons_succ]), ⟨hr9.gb, hr9.f0, hr9.f1, hr9.f2, hr9.f3, hr9.f4, (fun _ => rfl), (fun _ => rfl), (fun _ => rfl), hr9.f8, hr9.f9, hr9.f10, hr9.f11, hr9.f12⟩⟩ (if_pos rfl) (fun j hj => if_neg hj)
      · obtain rfl := Option.some.inj ho
        have g5 : ℓ 5 = true := hdep { on := 5, ground := Ground.guard } (by simp) rfl
        clear hdep ho
        revert hK
        obtain rfl := hr.f5 g5
        intro hK
        try simp only [Act.put, List.setIfInBounds_toArray, List.set_cons_zero, List.set_cons_succ]
        rw [if_pos (by rfl)]
        try simp only [Act.put, List.setIfInBounds_toArray, List.set_cons_zero, List.set_cons_succ]
        go_simp
        exact hK.out _ _ (fun j => if j = 8 then true else ℓ j) ⟨x29, x30, x31, x32, x33, .bool true, x35, x36, .pointer (some ⟨N2, 1, none⟩), x38, x39, x40, x4, (by simp only [Act.put, List.setIfInBounds_toArray, List.set_cons_zero, List.set_cons_succ]), ⟨hr.gb, hr.f0, hr.f1, hr.f2, hr.f3, hr.f4, (fun _ => rfl), hr.f6, hr.f7, (fun _ => rfl), hr.f9, hr.f10, hr.f11, hr.f12⟩⟩ (if_pos rfl) (fun j hj => if_neg hj)
      · obtain rfl := Option.some.inj ho
        have g8 : ℓ 8 = true := hdep { on := 8, ground := Ground.data } (by simp) rfl
        have g5 : ℓ 5 = true := hdep { on := 5, ground := Ground.guard } (by simp) rfl
        clear hdep ho
        revert hK
        obtain rfl := hr.f5 g5
        obtain rfl := hr.f8 g8
        have hcx := (HQ4.out _ hr.gb).2.2
        intro hK
        try simp only [Act.put, List.setIfInBounds_toArray, List.set_cons_zero, List.set_cons_succ]
        rw [if_pos (by rfl)]
        try simp only [Act.put, List.setIfInBounds_toArray, List.set_cons_zero, List.set_cons_succ]
        go_simp
        exact hK.out _ _ (fun j => if j = 9 then true else ℓ j) ⟨x29, x30, x31, x32, x33, .bool true, x35, x36, .pointer (some ⟨N2, 1, none⟩), .int .i64 y2, x39, x40, x4, (by simp only [Act.put, List.setIfInBounds_toArray, List.set_cons_zero, List.set_cons_succ]), ⟨hr.gb, hr.f0, hr.f1, hr.f2, hr.f3, hr.f4, (fun _ => rfl), hr.f6, hr.f7, (fun _ => rfl), (fun _ => rfl), hr.f10, hr.f11, hr.f12⟩⟩ (if_pos rfl) (fun j hj => if_neg hj)
      · obtain rfl := Option.some.inj ho
        have g7 : ℓ 7 = true := hdep { on := 7, ground := Ground.data } (by simp) rfl
        have g9 : ℓ 9 = true := hdep { on := 9, ground := Ground.data } (by simp) rfl
        have g5 : ℓ 5 = true := hdep { on := 5, ground := Ground.guard } (by simp) rfl
        clear hdep ho
        revert hK
        obtain rfl := hr.f5 g5
        obtain rfl := hr.f7 g7
        obtain rfl := hr.f9 g9
        intro hK
        try simp only [Act.put, List.setIfInBounds_toArray, List.set_cons_zero, List.set_cons_succ]
        rw [if_pos (by rfl)]
        try simp only [Act.put, List.setIfInBounds_toArray, List.set_cons_zero, List.set_cons_succ]
        go_simp
        rw [HE2.out]
        exact hK.out _ _ (fun j => if j = 10 then true else ℓ j) ⟨x29, x30, x31, x32, x33, .bool true, x35, .int .i64 (z2 + z3), x37, .int .i64 y2, .bool q, x40, x4, (by simp only [Act.put, List.setIfInBounds_toArray, List.set_cons_zero, List.set_cons_succ]), ⟨hr.gb, hr.f0, hr.f1, hr.f2, hr.f3, hr.f4, (fun _ => rfl), hr.f6, (fun _ => rfl), hr.f8, (fun _ => rfl), (fun _ => rfl), hr.f11, hr.f12⟩⟩ (if_pos rfl) (fun j hj => if_neg hj)
      · obtain rfl := Option.some.inj ho
        have g5 : ℓ 5 = true := hdep { on := 5, ground := Ground.data } (by simp) rfl
        have g10 : ℓ 10 = true := hdep { on := 10, ground := Ground.data } (by simp) rfl
        clear hdep ho
        revert hK
        obtain rfl := hr.f5 g5
        obtain rfl := hr.f10 g10
        intro hK
        rw [if_pos (by rfl)]
        try simp only [Act.put, List.setIfInBounds_toArray, List.set_cons_zero, List.set_cons_succ]
        go_simp
        exact hK.out _ _ (fun j => if j = 11 then true else ℓ j) ⟨x29, x30, x31, x32, x33, .bool true, x35, x36, x37, x38, .bool q, .bool q, x4, (by simp only [Act.put, List.setIfInBounds_toArray, List.set_cons_zero, List.set_cons_succ]), ⟨hr.gb, hr.f0, hr.f1, hr.f2, hr.f3, hr.f4, (fun _ => rfl), hr.f6, hr.f7, hr.f8, hr.f9, (fun _ => rfl), (fun _ => rfl), hr.f12⟩⟩ (if_pos rfl) (fun j hj => if_neg hj)
      · obtain rfl := Option.some.inj ho
        have g11 : ℓ 11 = true := hdep { on := 11, ground := Ground.data } (by simp) rfl
        clear hdep ho
        revert hK
        obtain rfl := hr.f11 g11
        intro hK
        rw [if_pos (by rfl)]
        try simp only [Act.put, List.setIfInBounds_toArray, List.set_cons_zero, List.set_cons_succ]
        go_simp
        exact hK.out _ _ (fun j => if j = 12 then true else ℓ j) ⟨x29, x30, x31, x32, x33, x34, x35, x36, x37, x38, x39, .bool q, .bool q, (by simp only [Act.put, List.setIfInBounds_toArray, List.set_cons_zero, List.set_cons_succ]), ⟨hr.gb, hr.f0, hr.f1, hr.f2, hr.f3, hr.f4, hr.f5, hr.f6, hr.f7, hr.f8, hr.f9, hr.f10, (fun _ => rfl), (fun _ => rfl)⟩⟩ (if_pos rfl) (fun j hj => if_neg hj)
    · rintro a' w' ℓ ℓ' hℓ hI
      rw [← show ℓ = ℓ' from funext hℓ]
      exact hI
  · intro ℓ a' w' q o hI ho hi hL hdep K hK
    obtain ⟨N1, N2, x18, x19, x20, x21, x22, x23, x24, x25, x26, x27, x28, x5, x6, rfl, hr⟩ := hI
    have hi7 : q < 15 := hi
    have hcs : q = 0 ∨ q = 1 ∨ q = 2 ∨ q = 3 ∨ q = 4 ∨ q = 5 ∨ q = 6 ∨ q = 7 ∨ q = 8 ∨ q = 9 ∨ q = 10 ∨ q = 11 ∨ q = 12 ∨ q = 13 ∨ q = 14 := by omega
    clear hi hi7
    rcases hcs with rfl | rfl | rfl | rfl | rfl | rfl | rfl | rfl | rfl | rfl | rfl | rfl | rfl | rfl | rfl
    · revert hK
      obtain rfl := Option.some.inj ho
      clear hdep ho
      intro hK
      rw [if_pos (by rfl)]
      try simp only [Act.put, List.setIfInBounds_toArray, List.set_cons_zero, List.set_cons_succ]
      go_simp
      exact hK.out _ _ (fun j => if j = 0 then true else ℓ j) ⟨N1, N2, .pointer (some ⟨w.heap.size, 18, none⟩), x19, x20, x21, x22, x23, x24, x25, x26, x27, x28, x5, x6, (by simp only [Act.put, List.setIfInBounds_toArray, List.set_cons_zero, List.set_cons_succ]), ⟨hr.c13, hr.c14, hr.gb, hr.ne, (fun _ => rfl), hr.f1, hr.f2, hr.f3, hr.f4, hr.f5, hr.f6, hr.f7, hr.f8, hr.f9, hr.f10, hr.f11, hr.f12⟩⟩ (if_pos rfl) (fun j hj => if_neg hj)
    · revert hK
      obtain rfl := Option.some.inj ho
      have g0 : ℓ 0 = true := hdep { on := 0, ground := Ground.data } (by simp) rfl
      clear hdep ho
      obtain rfl := hr.f0 g0
      have cc := (HTX.out _ hr.gb).1
      intro hK
      rw [if_pos (by rfl)]
      try simp only [Act.put, List.setIfInBounds_toArray, List.set_cons_zero, List.set_cons_succ]
      go_simp
      exact hK.out _ _ (fun j => if j = 1 then true else ℓ j) ⟨N1, N2, .pointer (some ⟨w.heap.size, 18, none⟩), .slice (some ⟨b1, o1, none⟩) sn sc, x20, x21, x22, x23, x24, x25, x26, x27, x28, x5, x6, (by simp only [Act.put, List.setIfInBounds_toArray, List.set_cons_zero, List.set_cons_succ]), ⟨hr.c13, hr.c14, hr.gb, hr.ne, hr.f0, (fun _ => rfl), hr.f2, hr.f3, hr.f4, hr.f5, hr.f6, hr.f7, hr.f8, hr.f9, hr.f10, hr.f11, hr.f12⟩⟩ (if_pos rfl) (fun j hj => if_neg hj)
    · revert hK
      obtain rfl := Option.some.inj ho
      clear hdep ho
      intro hK
      rw [if_pos (by rfl)]
      try simp only [Act.put, List.setIfInBounds_toArray, List.set_cons_zero, List.set_cons_succ]
      go_simp
      exact hK.out _ _ (fun j => if j = 2 then true else ℓ j) ⟨N1, N2, x18, x19, .int .i64 (k : Int), x21, x22, x23, x24, x25, x26, x27, x28, x5, x6, (by simp only [Act.put, List.setIfInBounds_toArray, List.set_cons_zero, List.set_cons_succ]), ⟨hr.c13, hr.c14, hr.gb, hr.ne, hr.f0, hr.f1, (fun _ => rfl), hr.f3, hr.f4, hr.f5, hr.f6, hr.f7, hr.f8, hr.f9, hr.f10, hr.f11, hr.f12⟩⟩ (if_pos rfl) (fun j hj => if_neg hj)
    · revert hK
      obtain rfl := Option.some.inj ho
      have g1 : ℓ 1 = true := hdep { on := 1, ground := Ground.data } (by simp) rfl
      have g2 : ℓ 2 = true := hdep { on := 2, ground := Ground.data } (by simp) rfl
      clear hdep ho
      obtain rfl := hr.f1 g1
      obtain rfl := hr.f2 g2
      intro hK
      rw [if_pos (by rfl)]
      try simp only [Act.put, List.setIfInBounds_toArray, List.set_cons_zero, List.set_cons_succ]
      go_simp
      exact hK.out _ _ (fun j => if j = 3 then true else ℓ j) ⟨N1, N2, x18, .slice (some ⟨b1, o1, none⟩) sn sc, .int .i64 (k : Int), .pointer (some ⟨b1, o1 + k * 3, none⟩), x22, x23, x24, x25, x26, x27, x28, x5, x6, (by simp only [Act.put, List.setIfInBounds_toArray, List.set_cons_zero, List.set_cons_succ]), ⟨hr.c13, hr.c14, hr.gb, hr.ne, hr.f0, hr.f1, hr.f2, (fun _ => rfl), hr.f4, hr.f5, hr.f6, hr.f7, hr.f8, hr.f9, hr.f10, hr.f11, hr.f12⟩⟩ (if_pos rfl) (fun j hj => if_neg hj)
    · revert hK
      obtain rfl := Option.some.inj ho
      have g3 : ℓ 3 = true := hdep { on := 3, ground := Ground.data } (by simp) rfl
      clear hdep ho
      obtain rfl := hr.f3 g3
      have cc := (HTX.out _ hr.gb).2.1
      have cc0 := cc.1
      have cc1 := cc.2.1
      have cc2 := cc.2.2
      intro hK
      rw [if_pos (by rfl)]
      try simp only [Act.put, List.setIfInBounds_toArray, List.set_cons_zero, List.set_cons_succ]
      go_simp
      exact hK.out _ _ (fun j => if j = 4 then true else ℓ j) ⟨N1, N2, x18, x19, x20, .pointer (some ⟨b1, o1 + k * 3, none⟩), .agg #[.int .i64 z1, .int .i64 z2, .int .i64 z3], x23, x24, x25, x26, x27, x28, x5, x6, (by simp only [Act.put, List.setIfInBounds_toArray, List.set_cons_zero, List.set_cons_succ]), ⟨hr.c13, hr.c14, hr.gb, hr.ne, hr.f0, hr.f1, hr.f2, hr.f3, (fun _ => rfl), hr.f5, hr.f6, hr.f7, hr.f8, hr.f9, hr.f10, hr.f11, hr.f12⟩⟩ (if_pos rfl) (fun j hj => if_neg hj)
    · revert hK
      obtain rfl := Option.some.inj ho
      clear hdep ho
      intro hK
      rw [if_pos (by rfl)]
      try simp only [Act.put, List.setIfInBounds_toArray, List.set_cons_zero, List.set_cons_succ]
      go_simp
      exact hK.out _ _ (fun j => if j = 5 then true else ℓ j) ⟨N1, N2, x18, x19, x20, x21, x22, .pointer (some ⟨w.heap.size, 18, none⟩), x24, x25, x26, x27, x28, x5, x6, (by simp only [Act.put, List.setIfInBounds_toArray, List.set_cons_zero, List.set_cons_succ]), ⟨hr.c13, hr.c14, hr.gb, hr.ne, hr.f0, hr.f1, hr.f2, hr.f3, hr.f4, (fun _ => rfl), hr.f6, hr.f7, hr.f8, hr.f9, hr.f10, hr.f11, hr.f12⟩⟩ (if_pos rfl) (fun j hj => if_neg hj)
    · revert hK
      obtain rfl := Option.some.inj ho
      have g5 : ℓ 5 = true := hdep { on := 5, ground := Ground.data } (by simp) rfl
      clear hdep ho
      obtain rfl := hr.f5 g5
      have cc := (HTX.out _ hr.gb).1
      intro hK
      rw [if_pos (by rfl)]
      try simp only [Act.put, List.setIfInBounds_toArray, List.set_cons_zero, List.set_cons_succ]
      go_simp
      exact hK.out _ _ (fun j => if j = 6 then true else ℓ j) ⟨N1, N2, x18, x19, x20, x21, x22, .pointer (some ⟨w.heap.size, 18, none⟩), .slice (some ⟨b1, o1, none⟩) sn sc, x25, x26, x27, x28, x5, x6, (by simp only [Act.put, List.setIfInBounds_toArray, List.set_cons_zero, List.set_cons_succ]), ⟨hr.c13, hr.c14, hr.gb, hr.ne, hr.f0, hr.f1, hr.f2, hr.f3, hr.f4, hr.f5, (fun _ => rfl), hr.f7, hr.f8, hr.f9, hr.f10, hr.f11, hr.f12⟩⟩ (if_pos rfl) (fun j hj => if_neg hj)
    · revert hK
      obtain rfl := Option.some.inj ho
      clear hdep ho
      intro hK
      rw [if_pos (by rfl)]
      try simp only [Act.put, List.setIfInBounds_toArray, List.set_cons_zero, List.set_cons_succ]
      go_simp
      exact hK.out _ _ (fun j => if j = 7 then true else ℓ j) ⟨N1, N2, x18, x19, x20, x21, x22, x23, x24, .int .i64 (k : Int), x26, x27, x28, x5, x6, (by simp only [Act.put, List.setIfInBounds_toArray, List.set_cons_zero, List.set_cons_succ]), ⟨hr.c13, hr.c14, hr.gb, hr.ne, hr.f0, hr.f1, hr.f2, hr.f3, hr.f4, hr.f5, hr.f6, (fun _ => rfl), hr.f8, hr.f9, hr.f10, hr.f11, hr.f12⟩⟩ (if_pos rfl) (fun j hj => if_neg hj)
    · revert hK
      obtain rfl := Option.some.inj ho
      have g7 : ℓ 7 = true := hdep { on := 7, ground := Ground.data } (by simp) rfl
      clear hdep ho
      obtain rfl := hr.f7 g7
      have hwr := HWR1.out
      intro hK
      rw [if_pos (by rfl)]
      try simp only [Act.put, List.setIfInBounds_toArray, List.set_cons_zero, List.set_cons_succ]
      go_simp
      try rw [hwr]
      exact hK.out _ _ (fun j => if j = 8 then true else ℓ j) ⟨N1, N2, x18, x19, x20, x21, x22, x23, x24, .int .i64 (k : Int), .int .i64 ((k : Int) + 1), x27, x28, x5, x6, (by simp only [Act.put, List.setIfInBounds_toArray, List.set_cons_zero, List.set_cons_succ]), ⟨hr.c13, hr.c14, hr.gb, hr.ne, hr.f0, hr.f1, hr.f2, hr.f3, hr.f4, hr.f5, hr.f6, hr.f7, (fun _ => rfl), hr.f9, hr.f10, hr.f11, hr.f12⟩⟩ (if_pos rfl) (fun j hj => if_neg hj)
    · revert hK
      obtain rfl := Option.some.inj ho
      have g6 : ℓ 6 = true := hdep { on := 6, ground := Ground.data } (by simp) rfl
      have g8 : ℓ 8 = true := hdep { on := 8, ground := Ground.data } (by simp) rfl
      clear hdep ho
      obtain rfl := hr.f6 g6
      obtain rfl := hr.f8 g8
      have hk1 := HK1.out
      intro hK
      rw [if_pos (by rfl)]
      try simp only [Act.put, List.setIfInBounds_toArray, List.set_cons_zero, List.set_cons_succ]
      go_simp
      exact hK.out _ _ (fun j => if j = 9 then true else ℓ j) ⟨N1, N2, x18, x19, x20, x21, x22, x23, .slice (some ⟨b1, o1, none⟩) sn sc, x25, .int .i64 ((k : Int) + 1), .pointer (some ⟨b1, o1 + (k + 1) * 3, none⟩), x28, x5, x6, (by simp only [Act.put, List.setIfInBounds_toArray, List.set_cons_zero, List.set_cons_succ]), ⟨hr.c13, hr.c14, hr.gb, hr.ne, hr.f0, hr.f1, hr.f2, hr.f3, hr.f4, hr.f5, hr.f6, hr.f7, hr.f8, (fun _ => rfl), hr.f10, hr.f11, hr.f12⟩⟩ (if_pos rfl) (fun j hj => if_neg hj)
    · revert hK
      obtain rfl := Option.some.inj ho
      have g9 : ℓ 9 = true := hdep { on := 9, ground := Ground.data } (by simp) rfl
      clear hdep ho
      obtain rfl := hr.f9 g9
      have cc := (HTX.out _ hr.gb).2.2
      have cc0 := cc.1
      have cc1 := cc.2.1
      have cc2 := cc.2.2
      intro hK
      rw [if_pos (by rfl)]
      try simp only [Act.put, List.setIfInBounds_toArray, List.set_cons_zero, List.set_cons_succ]
      go_simp
      exact hK.out _ _ (fun j => if j = 10 then true else ℓ j) ⟨N1, N2, x18, x19, x20, x21, x22, x23, x24, x25, x26, .pointer (some ⟨b1, o1 + (k + 1) * 3, none⟩), .agg #[.int .i64 y1, .int .i64 y2, .int .i64 y3], x5, x6, (by simp only [Act.put, List.setIfInBounds_toArray, List.set_cons_zero, List.set_cons_succ]), ⟨hr.c13, hr.c14, hr.gb, hr.ne, hr.f0, hr.f1, hr.f2, hr.f3, hr.f4, hr.f5, hr.f6, hr.f7, hr.f8, hr.f9, (fun _ => rfl), hr.f11, hr.f12⟩⟩ (if_pos rfl) (fun j hj => if_neg hj)
    · revert hK
      obtain rfl := Option.some.inj ho
      clear hdep ho
      have hl13 : ℓ 13 = false := by
        cases h7 : ℓ 13
        · rfl
        · have := (hr.c13 h7).1; rw [this] at hL; cases hL
      have hb9 : Below w'.heap.size w' (w'.alloc (.cells #[.int .i64 0, .int .i64 0, .int .i64 0] 42)) := (Below.refl _ _).alloc (Nat.le_refl _) _
      intro hK
      rw [if_pos (by rfl)]
      try simp only [Act.put, List.setIfInBounds_toArray, List.set_cons_zero, List.set_cons_succ]
      go_simp
      exact hK.out _ _ (fun j => if j = 11 then true else ℓ j) ⟨w'.heap.size, N2, x18, x19, x20, x21, x22, x23, x24, x25, x26, x27, x28, .pointer (some ⟨w'.heap.size, 0, none⟩), x6, (by simp only [Act.put, List.setIfInBounds_toArray, List.set_cons_zero, List.set_cons_succ]), ⟨(fun g => absurd (hl13.symm.trans g) Bool.false_ne_true), hr.c14, hr.gb.trans (hb9.mono hr.gb.size), (fun _ g e => by have h := (hr.f12 g).2.2; cases h13 : ℓ 14 <;> (first | (have q := (Array.getElem?_eq_some_iff.1 (h.1 h13)).1; omega) | (have q := (Array.getElem?_eq_some_iff.1 (h.2 h13)).1; omega))), hr.f0, hr.f1, hr.f2, hr.f3, hr.f4, hr.f5, hr.f6, hr.f7, hr.f8, hr.f9, hr.f10, (fun _ => ⟨rfl, hr.gb.size, fun _ => new_row w' _ _ _ rfl, fun g => absurd (hl13.symm.trans g) Bool.false_ne_true⟩), (fun g => ⟨(hr.f12 g).1, (hr.f12 g).2.1, fun s => row_below ((hr.f12 g).2.2.1 s) hb9, fun s => row_below ((hr.f12 g).2.2.2 s) hb9⟩)⟩⟩ (if_pos rfl) (fun j hj => if_neg hj)
    · revert hK
      obtain rfl := Option.some.inj ho
      clear hdep ho
      have hl13 : ℓ 13 = false := by
        cases h7 : ℓ 13
        · rfl
        · have := (hr.c13 h7).2; rw [this] at hL; cases hL
      have hl14 : ℓ 14 = false := by
        cases h7 : ℓ 14
        · rfl
        · have := hr.c14 h7; rw [this] at hl13; cases hl13
      have hb9 : Below w'.heap.size w' (w'.alloc (.cells #[.int .i64 0, .int .i64 0, .int .i64 0] 42)) := (Below.refl _ _).alloc (Nat.le_refl _) _
      intro hK
      rw [if_pos (by rfl)]
      try simp only [Act.put, List.setIfInBounds_toArray, List.set_cons_zero, List.set_cons_succ]
      go_simp
      exact hK.out _ _ (fun j => if j = 12 then true else ℓ j) ⟨N1, w'.heap.size, x18, x19, x20, x21, x22, x23, x24, x25, x26, x27, x28, x5, .pointer (some ⟨w'.heap.size, 0, none⟩), (by simp only [Act.put, List.setIfInBounds_toArray, List.set_cons_zero, List.set_cons_succ]), ⟨(fun g => absurd (hl13.symm.trans g) Bool.false_ne_true), hr.c14, hr.gb.trans (hb9.mono hr.gb.size), (fun g _ e => by have q := (Array.getElem?_eq_some_iff.1 ((hr.f11 g).2.2.1 hl13)).1; omega), hr.f0, hr.f1, hr.f2, hr.f3, hr.f4, hr.f5, hr.f6, hr.f7, hr.f8, hr.f9, hr.f10, (fun g => ⟨(hr.f11 g).1, (hr.f11 g).2.1, fun s => row_below ((hr.f11 g).2.2.1 s) hb9, fun s => row_below ((hr.f11 g).2.2.2 s) hb9⟩), (fun _ => ⟨rfl, hr.gb.size, fun _ => new_row w' _ _ _ rfl, fun g => absurd (hl14.symm.trans g) Bool.false_ne_true⟩)⟩⟩ (if_pos rfl) (fun j hj => if_neg hj)
    · replace ho : some ({ dst := none, op := Op.store 42 (Operand.tmp 5) (Operand.tmp 22), type := 0, pos := "l23_plan.go:59", after := #[{ on := 11, ground := Ground.data }, { on := 4, ground := Ground.data }, { on := 0, ground := Ground.phase }, { on := 1, ground := Ground.phase }, { on := 2, ground := Ground.phase }, { on := 3, ground := Ground.phase }, { on := 4, ground := Ground.phase }, { on := 5, ground := Ground.textOnly Departure.lateStores }, { on := 6, ground := Ground.textOnly Departure.lateStores }, { on := 7, ground := Ground.textOnly Departure.lateStores }, { on := 8, ground := Ground.textOnly Departure.lateStores }, { on := 9, ground := Ground.textOnly Departure.lateStores }, { on := 10, ground := Ground.textOnly Departure.lateStores }, { on := 11, ground := Ground.phase }, { on := 12, ground := Ground.phase }], guard := none } : Oper) = some o := ho
      revert hK
      obtain rfl := Option.some.inj ho
      have g11 : ℓ 11 = true := hdep { on := 11, ground := Ground.data } (by simp) rfl
      have g4 : ℓ 4 = true := hdep { on := 4, ground := Ground.data } (by simp) rfl
      have g12 : ℓ 12 = true := hdep { on := 12, ground := Ground.phase } (by simp) rfl
      clear hdep ho
      obtain ⟨rfl, hn1, hz1, _⟩ := hr.f11 g11
      obtain rfl := hr.f4 g4
      have hne := hr.ne g11 g12
      have hrow := hz1 hL
      have hl14 : ℓ 14 = false := by
        cases h7 : ℓ 14
        · rfl
        · have := hr.c14 h7; rw [this] at hL; cases hL
      intro hK
      rw [if_pos (by rfl)]
      try simp only [Act.put, List.setIfInBounds_toArray, List.set_cons_zero, List.set_cons_succ]
      refine wp_store_row (P := Tryz.prog) 42 (.tmp 5) (.tmp 22) rfl N1 #[.int .i64 z1, .int .i64 z2, .int .i64 z3] rfl rfl 42 #[.int .i64 0, .int .i64 0, .int .i64 0] hrow (by kernel_rfl) rfl (by simp [Value.oneCell']) ?_
      exact hK.out _ _ (fun j => if j = 13 then true else ℓ j) ⟨N1, N2, x18, x19, x20, x21, .agg #[.int .i64 z1, .int .i64 z2, .int .i64 z3], x23, x24, x25, x26, x27, x28, .pointer (some ⟨N1, 0, none⟩), x6, (by simp only [Act.put, List.setIfInBounds_toArray, List.set_cons_zero, List.set_cons_succ]), ⟨(fun _ => ⟨g11, g12⟩), (fun g => absurd (hl14.symm.trans g) Bool.false_ne_true), below_setRow hr.gb hn1 _, hr.ne, hr.f0, hr.f1, hr.f2, hr.f3, hr.f4, hr.f5, hr.f6, hr.f7, hr.f8, hr.f9, hr.f10, (fun _ => ⟨rfl, hn1, (fun g => by cases g), fun _ => setRow_heap _ _ _ _ _ _ hrow⟩), (fun g => ⟨(hr.f12 g).1, (hr.f12 g).2.1, fun s => (setRow_other _ _ _ _ (fun e => hne e.symm)).trans ((hr.f12 g).2.2.1 s), fun s => absurd (hl14.symm.trans s) Bool.false_ne_true⟩)⟩⟩ (if_pos rfl) (fun j hj => if_neg hj)
    · replace ho : some ({ dst := none, op := Op.store 42 (Operand.tmp 6) (Operand.tmp 28), type := 0, pos := "l23_plan.go:59", after := #[{ on := 12, ground := Ground.data }, { on := 10, ground := Ground.data }, { on := 13, ground := Ground.chain }, { on := 0, ground := Ground.phase }, { on := 1, ground := Ground.phase }, { on := 2, ground := Ground.phase }, { on := 3, ground := Ground.phase }, { on := 4, ground := Ground.phase }, { on := 5, ground := Ground.phase }, { on := 6, ground := Ground.phase }, { on := 7, ground := Ground.phase }, { on := 8, ground := Ground.phase }, { on := 9, ground := Ground.phase }, { on := 10, ground := Ground.phase }, { on := 11, ground := Ground.phase }, { on := 12, ground := Ground.phase }, { on := 13, ground := Ground.phase }], guard := none } : Oper) = some o := ho
      revert hK
      obtain rfl := Option.some.inj ho
      have g12 : ℓ 12 = true := hdep { on := 12, ground := Ground.data } (by simp) rfl
      have g10 : ℓ 10 = true := hdep { on := 10, ground := Ground.data } (by simp) rfl
      have g13 : ℓ 13 = true := hdep { on := 13, ground := Ground.chain } (by simp) rfl
      have g11 : ℓ 11 = true := hdep { on := 11, ground := Ground.phase } (by simp) rfl
      clear hdep ho
      obtain ⟨rfl, hn2, hz2, _⟩ := hr.f12 g12
      obtain rfl := hr.f10 g10
      have hne := hr.ne g11 g12
      have hrow := hz2 hL
      intro hK
      rw [if_pos (by rfl)]
      try simp only [Act.put, List.setIfInBounds_toArray, List.set_cons_zero, List.set_cons_succ]
      refine wp_store_row (P := Tryz.prog) 42 (.tmp 6) (.tmp 28) rfl N2 #[.int .i64 y1, .int .i64 y2, .int .i64 y3] rfl rfl 42 #[.int .i64 0, .int .i64 0, .int .i64 0] hrow (by kernel_rfl) rfl (by simp [Value.oneCell']) ?_
      exact hK.out _ _ (fun j => if j = 14 then true else ℓ j) ⟨N1, N2, x18, x19, x20, x21, x22, x23, x24, x25, x26, x27, .agg #[.int .i64 y1, .int .i64 y2, .int .i64 y3], x5, .pointer (some ⟨N2, 0, none⟩), (by simp only [Act.put, List.setIfInBounds_toArray, List.set_cons_zero, List.set_cons_succ]), ⟨hr.c13, (fun _ => g13), below_setRow hr.gb hn2 _, hr.ne, hr.f0, hr.f1, hr.f2, hr.f3, hr.f4, hr.f5, hr.f6, hr.f7, hr.f8, hr.f9, hr.f10, (fun g => ⟨(hr.f11 g).1, (hr.f11 g).2.1, fun s => (setRow_other _ _ _ _ hne).trans ((hr.f11 g).2.2.1 s), fun s => (setRow_other _ _ _ _ hne).trans ((hr.f11 g).2.2.2 s)⟩), (fun _ => ⟨rfl, hn2, (fun g => by cases g), fun _ => setRow_heap _ _ _ _ _ _ hrow⟩)⟩⟩ (if_pos rfl) (fun j hj => if_neg hj)
  · rintro a' w' ℓ ℓ' hℓ hI
    rw [← show ℓ = ℓ' from funext hℓ]
    exact hI
end Go.Proofs.YtlomcdgfcocmmaaGreatDoor
namespace Go.Proofs.YtlomcdgfcocmmaaGreatDoor
open Go.ChangeShapes Go.WideShapes Go.ChangeAt Go.RowKit Go.Deep Go.Joins
set_option linter.unusedVariables false

set_option maxRecDepth 40000 in
set_option maxHeartbeats 4000000 in
theorem res_imw {W : World} {B : Nat} {cs : Array Value} {b : Bool} {tmps : Array Value} (h : W.heap[B]? = some (.cells cs 33 (0, 0))) (hl : cs.size = 19) (ht : tmps[4]? = some (.pointer (some ⟨B, 0, none⟩))) (hq : tmps[5]? = some (.bool b)) : (results Tryz.f11 tmps).run Tryz.prog W = .ok (.tuple #[.agg cs, .bool b]) W := by
  have hld : (loadVar 33 ⟨B, 0, none⟩).run Tryz.prog W = .ok (.agg cs) W := run_loadVar_row (P := Tryz.prog) W B 33 33 cs (0, 0) _ h Tryz.underlying33 rfl (by rw [hl]; kernel_rfl)
  unfold results
  rw [Tryz.results11]
  simp [ht, hq, asAddr, hld]
set_option maxRecDepth 40000 in
set_option maxHeartbeats 16000000 in
theorem impl_merge (t : Tb) (a : Ad) (x : Int) (w : World) (hm : TM 0 w t a) (hw : TW t a) (hs : TS a) (he : TabE w) (hcp : a.pn ≤ a.pc) (hcs : a.sn ≤ a.sc) :
    Calls Tryz.prog 11 #[tbV t a, .int .i64 x] w fun e w' => ∃ R ar q, e = .returned (.tuple #[tbV R ar, .bool q]) ∧ MgA t x R q ∧ Below w.heap.size w w' ∧ OTR w.heap.size w' R ar := by
  obtain ⟨q, hq⟩ := told (Sd t)
  have HB : Hid (Below w.heap.size w ((w.alloc (.cells (tbA t a) 33)).alloc (.cells #[.int .i64 0, .int .i64 0, .int .i64 0, .int .i64 0, .int .i64 0, .int .i64 0, .int .i64 0, .int .i64 0, .int .i64 0, .int .i64 0, .int .i64 0, .int .i64 0, .int .i64 0, .int .i64 0, .int .i64 0, .slice none 0 0, .slice none 0 0, .slice none 0 0, .slice none 0 0] 33))) := ((Below.refl _ _).alloc (Nat.le_refl _) _).alloc (by simp) _
  have HX : Hid (TBx ((w.alloc (.cells (tbA t a) 33)).alloc (.cells #[.int .i64 0, .int .i64 0, .int .i64 0, .int .i64 0, .int .i64 0, .int .i64 0, .int .i64 0, .int .i64 0, .int .i64 0, .int .i64 0, .int .i64 0, .int .i64 0, .int .i64 0, .int .i64 0, .int .i64 0, .slice none 0 0, .slice none 0 0, .slice none 0 0, .slice none 0 0] 33)) w.heap.size t a) := (TBx.new w t a _ rfl).below ((Below.refl _ _).alloc (Nat.le_refl _) _)
  have HR : Hid (((w.alloc (.cells (tbA t a) 33)).alloc (.cells #[.int .i64 0, .int .i64 0, .int .i64 0, .int .i64 0, .int .i64 0, .int .i64 0, .int .i64 0, .int .i64 0, .int .i64 0, .int .i64 0, .int .i64 0, .int .i64 0, .int .i64 0, .int .i64 0, .int .i64 0, .slice none 0 0, .slice none 0 0, .slice none 0 0, .slice none 0 0] 33)).heap[w.heap.size + 1]? = some (.cells #[.int .i64 0, .int .i64 0, .int .i64 0, .int .i64 0, .int .i64 0, .int .i64 0, .int .i64 0, .int .i64 0, .int .i64 0, .int .i64 0, .int .i64 0, .int .i64 0, .int .i64 0, .int .i64 0, .int .i64 0, .slice none 0 0, .slice none 0 0, .slice none 0 0, .slice none 0 0] 33 (0, 0))) := new_row (w.alloc (.cells (tbA t a) 33)) _ _ _ (by simp)
  have HS : Hid (∀ X, Below w.heap.size w X → Calls Tryz.prog 13 #[tbV t a] X fun e w' => e = .returned (.bool q) ∧ Below X.heap.size X w') := fun X hX => impl_sound t a q X (hm.below hX) hw hs (he.below hX) hcp hq
  have HMW : Hid (∀ X, Below w.heap.size w X → TM 0 X t a) := fun X hX => hm.below hX
  have HC : Hid (TW t a ∧ TS a ∧ a.sn ≤ a.sc) := ⟨hw, hs, hcs⟩
  have HQ : Hid (q = true ↔ Sd t) := hq
  clear hq hm hw hs he hcp hcs
  go_enter Tryz.func11, Tryz.ntmps11
  go_wp2_with (first | (refine wpList_load_row rfl 33 (.tmp 2) rfl w.heap.size rfl 33 (tbA t a) (0, 0) _ HX.out Tryz.underlying33 rfl (by kernel_rfl) ?_) | (refine wpList_load_row_w (by rfl) 33 (.tmp 2) rfl w.heap.size rfl 33 (tbA t a) (0, 0) _ HX.out Tryz.underlying33 rfl (by kernel_rfl) ?_) | fail)
  revert HB HX HR
  generalize ((w.alloc (.cells (tbA t a) 33)).alloc (.cells #[.int .i64 0, .int .i64 0, .int .i64 0, .int .i64 0, .int .i64 0, .int .i64 0, .int .i64 0, .int .i64 0, .int .i64 0, .int .i64 0, .int .i64 0, .int .i64 0, .int .i64 0, .int .i64 0, .int .i64 0, .slice none 0 0, .slice none 0 0, .slice none 0 0, .slice none 0 0] 33)) = WA
  intro HB HX HR
  refine Calls.mono (HS.out _ HB.out) ?_
  rintro e w9 ⟨rfl, hb9⟩
  replace HR : Hid (w9.heap[w.heap.size + 1]? = some (.cells #[.int .i64 0, .int .i64 0, .int .i64 0, .int .i64 0, .int .i64 0, .int .i64 0, .int .i64 0, .int .i64 0, .int .i64 0, .int .i64 0, .int .i64 0, .int .i64 0, .int .i64 0, .int .i64 0, .int .i64 0, .slice none 0 0, .slice none 0 0, .slice none 0 0, .slice none 0 0] 33 (0, 0))) := row_below HR.out hb9
  replace HX : Hid (TBx w9 w.heap.size t a) := HX.out.below hb9
  replace HB : Hid (Below w.heap.size w w9) := HB.out.trans (hb9.mono HB.out.size)
  clear hb9
  cases q
  · have HNO : Hid (¬ CanG t x) := fun h => absurd (HQ.out.2 h.1) (by simp)
    clear HS HC
    go_wp2_with (first | (refine wpList_load_row rfl 33 (.tmp 2) rfl w.heap.size rfl 33 (tbA t a) (0, 0) _ HX.out Tryz.underlying33 rfl (by kernel_rfl) ?_) | (refine wpList_load_row_w (by rfl) 33 (.tmp 2) rfl w.heap.size rfl 33 (tbA t a) (0, 0) _ HX.out Tryz.underlying33 rfl (by kernel_rfl) ?_) | (refine wpList_store_row rfl 33 (.tmp 4) (.tmp 15) rfl (w.heap.size + 1) #[.int .i64 0, .int .i64 0, .int .i64 0, .int .i64 0, .int .i64 0, .int .i64 0, .int .i64 0, .int .i64 0, .int .i64 0, .int .i64 0, .int .i64 0, .int .i64 0, .int .i64 0, .int .i64 0, .int .i64 0, .slice none 0 0, .slice none 0 0, .slice none 0 0, .slice none 0 0] rfl rfl 33 #[.int .i64 0, .int .i64 0, .int .i64 0, .int .i64 0, .int .i64 0, .int .i64 0, .int .i64 0, .int .i64 0, .int .i64 0, .int .i64 0, .int .i64 0, .int .i64 0, .int .i64 0, .int .i64 0, .int .i64 0, .slice none 0 0, .slice none 0 0, .slice none 0 0, .slice none 0 0] HR.out (by kernel_rfl) rfl (by simp [Value.oneCell']) ?_) | fail)
    refine bodyPost_ret (v := .tuple #[tbV tz az, .bool false]) (res_imw (setRow_heap _ _ _ _ _ _ HR.out) rfl rfl rfl) rfl ⟨tz, az, false, rfl, Or.inl ⟨HNO.out, rfl, rfl⟩, below_setRow HB.out (Nat.le_succ _) _, otr_zero (by show w.heap.size ≤ (World.setRow _ _ _).heap.size; have := HB.out.size; simpa using this)⟩
  have HSD : Hid (Sd t) := HQ.out.1 rfl
  obtain ⟨q3, hq3⟩ := told (CanG t x)
  have HQ3 : Hid (q3 = true ↔ CanG t x) := hq3
  clear hq3 HQ HS
  go_wp2_with (first | (refine wpList_load_row rfl 33 (.tmp 2) rfl w.heap.size rfl 33 (tbA t a) (0, 0) _ HX.out Tryz.underlying33 rfl (by kernel_rfl) ?_) | (refine wpList_load_row_w (by rfl) 33 (.tmp 2) rfl w.heap.size rfl 33 (tbA t a) (0, 0) _ HX.out Tryz.underlying33 rfl (by kernel_rfl) ?_) | fail)
  refine Calls.mono (can_merge t a x q3 _ (HMW.out _ HB.out) HC.out.1 HSD.out HQ3.out) ?_
  rintro e w9c ⟨rfl, hb9⟩
  replace HR : Hid (w9c.heap[w.heap.size + 1]? = some (.cells #[.int .i64 0, .int .i64 0, .int .i64 0, .int .i64 0, .int .i64 0, .int .i64 0, .int .i64 0, .int .i64 0, .int .i64 0, .int .i64 0, .int .i64 0, .int .i64 0, .int .i64 0, .int .i64 0, .int .i64 0, .slice none 0 0, .slice none 0 0, .slice none 0 0, .slice none 0 0] 33 (0, 0))) := row_below HR.out hb9
  replace HX : Hid (TBx w9c w.heap.size t a) := HX.out.below hb9
  replace HB : Hid (Below w.heap.size w w9c) := HB.out.trans (hb9.mono HB.out.size)
  clear hb9
  cases q3
  · have HNO : Hid (¬ CanG t x) := fun h => absurd (HQ3.out.2 h) (by simp)
    have HS : True := trivial
    clear HS HC
    go_wp2_with (first | (refine wpList_load_row rfl 33 (.tmp 2) rfl w.heap.size rfl 33 (tbA t a) (0, 0) _ HX.out Tryz.underlying33 rfl (by kernel_rfl) ?_) | (refine wpList_load_row_w (by rfl) 33 (.tmp 2) rfl w.heap.size rfl 33 (tbA t a) (0, 0) _ HX.out Tryz.underlying33 rfl (by kernel_rfl) ?_) | (refine wpList_store_row rfl 33 (.tmp 4) (.tmp 15) rfl (w.heap.size + 1) #[.int .i64 0, .int .i64 0, .int .i64 0, .int .i64 0, .int .i64 0, .int .i64 0, .int .i64 0, .int .i64 0, .int .i64 0, .int .i64 0, .int .i64 0, .int .i64 0, .int .i64 0, .int .i64 0, .int .i64 0, .slice none 0 0, .slice none 0 0, .slice none 0 0, .slice none 0 0] rfl rfl 33 #[.int .i64 0, .int .i64 0, .int .i64 0, .int .i64 0, .int .i64 0, .int .i64 0, .int .i64 0, .int .i64 0, .int .i64 0, .int .i64 0, .int .i64 0, .int .i64 0, .int .i64 0, .int .i64 0, .int .i64 0, .slice none 0 0, .slice none 0 0, .slice none 0 0, .slice none 0 0] HR.out (by kernel_rfl) rfl (by simp [Value.oneCell']) ?_) | fail)
    refine bodyPost_ret (v := .tuple #[tbV tz az, .bool false]) (res_imw (setRow_heap _ _ _ _ _ _ HR.out) rfl rfl rfl) rfl ⟨tz, az, false, rfl, Or.inl ⟨HNO.out, rfl, rfl⟩, below_setRow HB.out (Nat.le_succ _) _, otr_zero (by show w.heap.size ≤ (World.setRow _ _ _).heap.size; have := HB.out.size; simpa using this)⟩
  have HCX : Hid (CanG t x) := HQ3.out.1 rfl
  obtain ⟨k, rfl⟩ : ∃ k : Nat, x = (k : Int) := ⟨x.toNat, by have := HCX.out.2.1.1; omega⟩
  have HCN : Hid (CanG t (k : Int)) := HCX.out
  clear HQ3 HSD HCX
  go_wp2_with (first | (refine wpList_load_row rfl 33 (.tmp 2) rfl w.heap.size rfl 33 (tbA t a) (0, 0) _ HX.out Tryz.underlying33 rfl (by kernel_rfl) ?_) | (refine wpList_load_row_w (by rfl) 33 (.tmp 2) rfl w.heap.size rfl 33 (tbA t a) (0, 0) _ HX.out Tryz.underlying33 rfl (by kernel_rfl) ?_) | fail)
  refine Calls.mono (impl_mg t a k _ (HMW.out _ HB.out) HC.out.1 HC.out.2.1 HC.out.2.2 HCN.out) ?_
  rintro e w4 ⟨a4, rfl, hb4, hm4, hw4, hs4, hc4⟩
  have HR4 : Hid (w4.heap[w.heap.size + 1]? = some (.cells #[.int .i64 0, .int .i64 0, .int .i64 0, .int .i64 0, .int .i64 0, .int .i64 0, .int .i64 0, .int .i64 0, .int .i64 0, .int .i64 0, .int .i64 0, .int .i64 0, .int .i64 0, .int .i64 0, .int .i64 0, .slice none 0 0, .slice none 0 0, .slice none 0 0, .slice none 0 0] 33 (0, 0))) := row_below HR.out hb4
  have HB4 : Hid (Below w.heap.size w w4) := HB.out.trans (hb4.mono HB.out.size)
  clear HB HX HR hb4
  go_wp2_with fail
  refine Calls.mono (impl_cptab _ a4 w4 hm4 hw4 hs4) ?_
  rintro e w5 ⟨a5, rfl, hb5, ho5, _⟩
  have HR5 : Hid (w5.heap[w.heap.size + 1]? = some (.cells #[.int .i64 0, .int .i64 0, .int .i64 0, .int .i64 0, .int .i64 0, .int .i64 0, .int .i64 0, .int .i64 0, .int .i64 0, .int .i64 0, .int .i64 0, .int .i64 0, .int .i64 0, .int .i64 0, .int .i64 0, .slice none 0 0, .slice none 0 0, .slice none 0 0, .slice none 0 0] 33 (0, 0))) := row_below HR4.out hb5
  have HB5 : Hid (Below w.heap.size w w5) := HB4.out.trans (hb5.mono HB4.out.size)
  have HRF : Hid ((w5.setRow (w.heap.size + 1) (tbA t a5)).heap[w.heap.size + 1]? = some (.cells (tbA t a5) 33 (0, 0))) := setRow_heap _ _ _ _ _ _ HR5.out
  have HBF : Hid (Below w.heap.size w (w5.setRow (w.heap.size + 1) (tbA t a5))) := below_setRow HB5.out (Nat.le_succ _) _
  have hlt : w.heap.size + 1 < w4.heap.size := (Array.getElem?_eq_some_iff.1 HR4.out).1
  have HOF : Hid (OTR w.heap.size (w5.setRow (w.heap.size + 1) (tbA t a5)) { t with ss := mrgL t.ss k } a5) := by
    have h := ho5.setRow (cs := tbA t a5) hlt
    exact ⟨h.m, h.o.wide (Nat.le_of_lt (Nat.lt_of_succ_lt hlt)) (Nat.le_refl _), h.w, h.s, h.cp, h.cs⟩
  clear hb5 ho5 hm4 hw4 hs4 hc4 HR4 HB4 hlt HB5
  go_wp2_with (first | (refine wpList_store_row rfl 33 (.tmp 4) (.tmp 19) rfl (w.heap.size + 1) (tbA t a5) rfl rfl 33 #[.int .i64 0, .int .i64 0, .int .i64 0, .int .i64 0, .int .i64 0, .int .i64 0, .int .i64 0, .int .i64 0, .int .i64 0, .int .i64 0, .int .i64 0, .int .i64 0, .int .i64 0, .int .i64 0, .int .i64 0, .slice none 0 0, .slice none 0 0, .slice none 0 0, .slice none 0 0] HR5.out (by kernel_rfl) rfl (by simp [Value.oneCell']) ?_) | fail)
  revert HRF HBF HOF
  generalize w5.setRow (w.heap.size + 1) (tbA t a5) = WF
  intro HRF HBF HOF
  go_wp2
  refine bodyPost_ret (v := .tuple #[tbV t a5, .bool true]) (res_imw HRF.out rfl rfl rfl) rfl ⟨{ t with ss := mrgL t.ss k }, a5, true, rfl, Or.inr ⟨HCN.out, by rw [Int.toNat_natCast], rfl⟩, HBF.out, HOF.out⟩
end Go.Proofs.YtlomcdgfcocmmaaGreatDoor
