/-
  A slot split in two, by the program: the tables with the new list of slots. Conditions: the lists lie in memory; the slot is there.
  Whether there is a slot, and whether it can be split, by the program. Conditions: the tables are sound; the lists lie in memory; the slot is there.
  A slot split, by the program: whole. Conditions: the lists lie in memory; the numbers fit; the table opExtras lies as its text lays it.
-/
import Derived.Test.YtlomcdgfcocmmaaGreatDoorBas
import Derived.Test.YtlomcdgfcocmmaaGreatDoorJb2
import Derived.Test.YtlomcdgfcocmmaaGreatDoorRul
import Derived.Great.BuildSlice
import Derived.Test.YtlomcdgfcocmmaaGreatDoorClo6
import Derived.Test.YtlomcdgfcocmmaaGreatDoorRl3
import Derived.Test.YtlomcdgfcocmmaaGreatDoorJb1
namespace Go.Proofs.YtlomcdgfcocmmaaGreatDoor
open Go.ChangeShapes Go.WideShapes Go.ChangeAt Go.RowKit Go.Deep Go.Joins
set_option linter.unusedVariables false

set_option maxRecDepth 20000
theorem r3_set {V : World} {B : Nat} {cs cs' : Array Value} {T : TypeId} (h : V.heap[B]? = some (.cells cs T (0, 0))) (j : Nat) (v : Value) (he : cs.setIfInBounds j v = cs') : (V.setCell ⟨B, j, none⟩ v).heap[B]? = some (.cells cs' T (0, 0)) := by
  rw [setCell_eq_setRow V B j cs T (0, 0) v h, setRow_heap V B _ _ T (0, 0) h, he]
theorem row_cell {V : World} {B : Nat} {cs : Array Value} {T : TypeId} (h : V.heap[B]? = some (.cells cs T (0, 0))) (j : Nat) (v : Value) (hj : cs[j]? = some v) : V.cell? ⟨B, j, none⟩ = some v := by simp [World.cell?, h, hj]
theorem row_free {V : World} {B : Nat} {cs : Array Value} {T : TypeId} (h : V.heap[B]? = some (.cells cs T (0, 0))) (j : Nat) : V.frozen? ⟨B, j, none⟩ = false := by simp [World.frozen?, h]
theorem slX_take {ss : List slT} {k i : Nat} (h : i < k) : slX (ss.take k) i = slX ss i := by
  unfold slX
  rw [List.getD_eq_getElem?_getD, List.getD_eq_getElem?_getD, List.getElem?_take, if_pos h]
theorem slX_drop {ss : List slT} {k i : Nat} : slX (ss.drop k) i = slX ss (k + i) := by
  unfold slX
  rw [List.getD_eq_getElem?_getD, List.getD_eq_getElem?_getD, List.getElem?_drop]
theorem e_sl : ∀ w, (sizeOf (Tryz.prog.elem 31)).run Tryz.prog w = .ok 3 w := fun w => by kernel_rfl
theorem sl_to (b o n c k : Nat) (hk : k ≤ n) (hnc : n ≤ c) (ss : List slT) : ∃ aL, (∀ w, (Instr.slice 31 (.slice (some ⟨b, o, none⟩) n c) none (some (.int .i64 (k : Int))) none).run Tryz.prog w = .ok (.slice aL k c) w) ∧ ∀ X, GSeg 3 X (some ⟨b, o, none⟩) n (slX ss) → GSeg 3 X aL k (slX (ss.take k)) := by
  refine ⟨some ⟨b, o, none⟩, fun w => ?_, fun X h h0 => ?_⟩
  · rw [run_slice_h w 31 _ n c Tryz.underlying31 .i64 (k : Int) (by omega) (by omega)]
    simp [e_sl, sliced, Addr.add]
  · obtain ⟨b', o', e', hlt, hc⟩ := h (by omega)
    exact ⟨b', o', e', hlt, fun i hi => by rw [slX_take hi]; exact hc i (by omega)⟩
theorem sl_from (b o n c k : Nat) (hk : k + 1 ≤ n) (hnc : n ≤ c) (ss : List slT) : ∃ aR, (∀ w, (Instr.slice 31 (.slice (some ⟨b, o, none⟩) n c) (some (.int .i64 ((k : Int) + 1))) none none).run Tryz.prog w = .ok (.slice aR (n - (k + 1)) (c - (k + 1))) w) ∧ ∀ X, GSeg 3 X (some ⟨b, o, none⟩) n (slX ss) → GSeg 3 X aR (n - (k + 1)) (slX (ss.drop (k + 1))) := by
  have ek : ((k : Int) + 1).toNat = k + 1 := by omega
  by_cases h1 : c = k + 1
  · refine ⟨some ⟨b, o, none⟩, fun w => ?_, fun X h h0 => absurd h0 (by omega)⟩
    rw [run_slice_l w 31 _ n c Tryz.underlying31 .i64 ((k : Int) + 1) (by omega) (by omega), ek]
    simp [e_sl, sliced, h1]
  · refine ⟨some ⟨b, o + (k + 1) * 3, none⟩, fun w => ?_, fun X h h0 => ?_⟩
    · rw [run_slice_l w 31 _ n c Tryz.underlying31 .i64 ((k : Int) + 1) (by omega) (by omega), ek]
      simp [e_sl, sliced, Addr.add, h1]
    · obtain ⟨b', o', e', hlt, hc⟩ := h (by omega)
      injection e' with e'
      injection e' with e1 e2
      subst e1 e2
      exact ⟨_, _, rfl, hlt, fun i hi => by
        have := hc (k + 1 + i) (by omega)
        rw [slX_drop, show o + (k + 1) * 3 + i * 3 = o + (k + 1 + i) * 3 by omega]
        exact this⟩
theorem wp_slice_of {o : Oper} {a : Act} {w : World} {K : Act → World → Prop} {Q : Exit → Act → World → Prop} (x : Operand) (lo hi : Option Operand) (ho : o.op = .slice 31 x lo hi none) (v : Value) (d : Option Tmp) (hd : o.dst = d)
    (h : (Instr.slice 31 (a.eval x) (lo.map a.eval) (hi.map a.eval) none).run Tryz.prog w = .ok v w) (hK : K (a.put d v) w) : o.wp Tryz.prog a w K Q := by
  subst hd
  unfold Oper.wp execOp
  simp only [ho, Sem.run_bind]
  have e := run_sliceAt_slice (P := Tryz.prog) w 31 (a.eval x) (lo.map a.eval) (hi.map a.eval) none Tryz.underlying31
  simp only [Option.map_none] at *
  rw [e, h]
  exact hK
theorem slj : ∃ i, Tryz.prog.info? 31 = some i ∧ i.zero = some (.slice none 0 0) ∧ i.size = 1 := by
  have h : (Tryz.prog.info? 31).map (fun i => (i.zero, i.size)) = some (some (.slice none 0 0), 1) := by kernel_rfl
  cases e : Tryz.prog.info? 31 with
  | none => rw [e] at h; cases h
  | some i => rw [e] at h; injection h with h; injection h with h1 h2; exact ⟨i, rfl, h1, h2⟩
/-- Two slots in a row of their own. -/
theorem two_seg {X : World} {M : Nat} {x1 x2 : slT} (h : X.heap[M]? = some (.cells #[.int .i64 x1.1, .int .i64 x1.2.1, .int .i64 x1.2.2, .int .i64 x2.1, .int .i64 x2.2.1, .int .i64 x2.2.2] 42 (0, 0))) : GSeg 3 X (some ⟨M, 0, none⟩) 2 (slX [x1, x2]) := fun _ => by
  refine ⟨M, 0, rfl, (Array.getElem?_eq_some_iff.1 h).1, fun i hi j v hj => ?_⟩
  have hj3 : j < 3 := (List.getElem?_eq_some_iff.1 hj).1
  have hi2 : i = 0 ∨ i = 1 := by omega
  have hj2 : j = 0 ∨ j = 1 ∨ j = 2 := by omega
  rcases hi2 with rfl | rfl <;> rcases hj2 with rfl | rfl | rfl <;> (injection hj with hj; subst hj; exact row_cell h _ _ rfl)
theorem res_sp {W : World} {B : Nat} {cs : Array Value} {tmps : Array Value} (h : W.heap[B]? = some (.cells cs 33 (0, 0))) (hl : cs.size = 19) (ht : tmps[6]? = some (.pointer (some ⟨B, 0, none⟩))) : (results Tryz.f37 tmps).run Tryz.prog W = .ok (.agg cs) W := by
  have hld : (loadVar 33 ⟨B, 0, none⟩).run Tryz.prog W = .ok (.agg cs) W := run_loadVar_row (P := Tryz.prog) W B 33 33 cs (0, 0) _ h Tryz.underlying33 rfl (by rw [hl]; kernel_rfl)
  unfold results
  rw [Tryz.results37]
  simp [ht, asAddr, hld]
/-- Both copies of the slot, in whatever order they are read and made. -/
structure Is1 (W0 : World) (T0 : Nat) (sa : Option Addr) (sn sc : Nat) (k : Nat) (P : Addr) (z1 z2 z3 : Int) (w' : World) (N1 N2 : Nat) (b0 b1 b2 b3 b4 b5 b6 b7 b8 b9 b10 b11 b12 b13 : Bool) (x9 x10 x11 x12 x13 x14 x15 x16 x17 x18 x7 x8 : Value) : Prop where
  c12 : b12 = true → b10 = true ∧ b11 = true
  c13 : b13 = true → b12 = true
  gb : Below W0.heap.size W0 w'
  ne : b10 = true → b11 = true → N1 ≠ N2
  f0 : b0 = true → x9 = .pointer (some ⟨T0, 18, none⟩)
  f1 : b1 = true → x10 = .slice sa sn sc
  f2 : b2 = true → x11 = .int .i64 (k : Int)
  f3 : b3 = true → x12 = .pointer (some P)
  f4 : b4 = true → x13 = .agg #[.int .i64 z1, .int .i64 z2, .int .i64 z3]
  f5 : b5 = true → x14 = .pointer (some ⟨T0, 18, none⟩)
  f6 : b6 = true → x15 = .slice sa sn sc
  f7 : b7 = true → x16 = .int .i64 (k : Int)
  f8 : b8 = true → x17 = .pointer (some P)
  f9 : b9 = true → x18 = .agg #[.int .i64 z1, .int .i64 z2, .int .i64 z3]
  f10 : b10 = true → x7 = .pointer (some ⟨N1, 0, none⟩) ∧ W0.heap.size ≤ N1 ∧ (b12 = false → w'.heap[N1]? = some (.cells #[.int .i64 0, .int .i64 0, .int .i64 0] 42 (0, 0))) ∧ (b12 = true → w'.heap[N1]? = some (.cells #[.int .i64 z1, .int .i64 z2, .int .i64 z3] 42 (0, 0)))
  f11 : b11 = true → x8 = .pointer (some ⟨N2, 0, none⟩) ∧ W0.heap.size ≤ N2 ∧ (b13 = false → w'.heap[N2]? = some (.cells #[.int .i64 0, .int .i64 0, .int .i64 0] 42 (0, 0))) ∧ (b13 = true → w'.heap[N2]? = some (.cells #[.int .i64 z1, .int .i64 z2, .int .i64 z3] 42 (0, 0)))
/-- The ends of both slots said, in whatever order. -/
structure Is3 (WB : World) (N1 N2 : Nat) (z1 z2 z3 f : Int) (w' : World) (V : World) (b0 b1 b2 b3 b4 b5 b6 b7 b8 b9 : Bool) (x21 x22 x23 x24 x25 x26 x27 x28 : Value) : Prop where
  c7 : b7 = true → b0 = true ∧ b1 = true ∧ b2 = true ∧ b3 = true
  c9 : b9 = true → b7 = true
  gb : Below WB.heap.size WB V
  v0 : b7 = false → w' = V
  v1 : b7 = true → b9 = false → w' = V.setCell ⟨N2, 1, none⟩ (.int .i64 (z2 + f))
  v2 : b9 = true → w' = (V.setCell ⟨N2, 1, none⟩ (.int .i64 (z2 + f))).setCell ⟨N2, 2, none⟩ (.int .i64 (z3 - f))
  f0 : b0 = true → x21 = .agg #[.int .i64 z1, .int .i64 z2, .int .i64 f]
  f1 : b1 = true → x22 = .int .i64 (z2 + f)
  f2 : b2 = true → x23 = .pointer (some ⟨N2, 2, none⟩)
  f3 : b3 = true → x24 = .int .i64 z3
  f4 : b4 = true → x25 = .int .i64 f
  f5 : b5 = true → x26 = .int .i64 (z3 - f)
  f6 : b6 = true → x27 = .pointer (some ⟨N2, 1, none⟩)
  f8 : b8 = true → x28 = .pointer (some ⟨N2, 2, none⟩)
abbrev thA (aL : Option Addr) (M : Nat) (aR : Option Addr) : Nat → Option Addr := fun i => if i = 0 then aL else if i = 1 then some ⟨M, 0, none⟩ else aR
abbrev thN (x y z : Nat) : Nat → Nat := fun i => if i = 0 then x else if i = 1 then y else z
abbrev thX (x y z : List slT) : Nat → List slT := fun i => if i = 0 then x else if i = 1 then y else z
/-- The lists joined, in whatever order what they are made of comes up. -/
structure Is4 (WC : World) (T0 : Nat) (sa : Option Addr) (sn sc k : Nat) (aL aR : Option Addr) (N : Nat) (Xs : Nat → List slT) (z1 z2 z3 f : Int) (w' : World) (b0 b1 b2 b3 b4 b5 b6 b7 b8 b9 b10 b11 b12 b13 b14 b15 : Bool) (x29 x30 x31 x32 x33 x34 x35 x36 x37 x38 x39 x40 x41 x42 x43 : Value) : Prop where
  c15 : b15 = true → b0 = true ∧ b1 = true ∧ b2 = true ∧ b3 = true ∧ b4 = true ∧ b5 = true ∧ b6 = true ∧ b7 = true ∧ b8 = true ∧ b9 = true ∧ b10 = true ∧ b11 = true ∧ b12 = true ∧ b13 = true ∧ b14 = true
  gb : b15 = false → Below WC.heap.size WC w'
  v1 : b15 = true → ∃ V A' c, Below WC.heap.size WC V ∧ GSegL 3 WC.heap.size V A' N (slX (catN Xs 3)) ∧ N ≤ c ∧ w' = V.setCell ⟨T0, 18, none⟩ (.slice A' N c)
  f0 : b0 = true → x29 = .pointer (some ⟨T0, 18, none⟩)
  f1 : b1 = true → x30 = .slice sa sn sc
  f2 : b2 = true → x31 = .int .i64 (k : Int)
  f3 : b3 = true → x32 = .slice aL k sc
  f4 : b4 = true → x33 = .agg #[.int .i64 z1, .int .i64 z2, .int .i64 f]
  f5 : b5 = true → x34 = .agg #[.int .i64 z1, .int .i64 (z2 + f), .int .i64 (z3 - f)]
  f6 : b6 = true → ∃ M, x35 = .slice (some ⟨M, 0, none⟩) 2 2 ∧ (b15 = false → w'.heap[M]? = some (.cells #[.int .i64 z1, .int .i64 z2, .int .i64 f, .int .i64 z1, .int .i64 (z2 + f), .int .i64 (z3 - f)] 42 (0, 0)))
  f7 : b7 = true → x36 = .pointer (some ⟨T0, 18, none⟩)
  f8 : b8 = true → x37 = .slice sa sn sc
  f9 : b9 = true → x38 = .int .i64 (k : Int)
  f10 : b10 = true → x39 = .int .i64 ((k : Int) + 1)
  f11 : b11 = true → x40 = .slice aR (sn - (k + 1)) (sc - (k + 1))
  f12 : b12 = true → ∃ M C, x41 = .slice (some ⟨C, 0, none⟩) 3 3 ∧ (b15 = false → Thr w' C (thA aL M aR) (thN k 2 (sn - (k + 1))) (thN sc 2 (sc - (k + 1))) Xs N)
  f13 : b13 = true → ∃ A' c, x42 = .slice A' N c ∧ N ≤ c ∧ (b15 = false → GSegL 3 WC.heap.size w' A' N (slX (catN Xs 3)))
  f14 : b14 = true → x43 = .pointer (some ⟨T0, 18, none⟩)
set_option maxRecDepth 40000 in
set_option maxHeartbeats 16000000 in
theorem impl_sp (t : Tb) (a : Ad) (k : Nat) (f : Int) (w : World) (hm : TM 0 w t a) (hw : TW t a) (hs : TS a) (hcs : a.sn ≤ a.sc) (hc : CanS t k f) :
    Calls Tryz.prog 37 #[tbV t a, .int .i64 (k : Int), .int .i64 f] w fun e w' => ∃ a', e = .returned (tbV { t with ss := splL t.ss k f } a') ∧ Below w.heap.size w w' ∧ TM 0 w' { t with ss := splL t.ss k f } a' ∧ TW { t with ss := splL t.ss k f } a' ∧ TS a' ∧ a'.sn ≤ a'.sc ∧ a' = { a with sa := a'.sa, sn := a'.sn, sc := a'.sc } ∧ GSegL 3 w.heap.size w' a'.sa a'.sn (slX (splL t.ss k f)) := by
  have hkl : k < t.ss.length := by have := hc.2.1.2; omega
  have hk : k < a.sn := by rw [← hw.sl]; exact hkl
  have HTM : Hid (Tm t) := sd_tm hc.1
  have hf1 : t.pad + t.grd < f := hc.2.2.2.1
  have hf2 : t.pad + t.grd < (t.ss.getD k sl0).2.2 - f := by have := hc.2.2.2.2; rw [Int.toNat_natCast] at this; exact this
  have hst := HTM.out.st k hkl
  have hln := HTM.out.ln k hkl
  have hen := HTM.out.en k hkl
  have hp1 := HTM.out.pad1
  have hg1 := HTM.out.grd1
  have hmj := HTM.out.maj2
  have hn16 : a.sn < 16 := by rw [← hw.sl]; exact hc.2.2.1
  have HMM : Hid (∀ X, Below w.heap.size w X → TM 0 X t a) := fun X hX => hm.below hX
  have HTW : Hid (TW t a ∧ TS a ∧ a.sn ≤ a.sc) := ⟨hw, hs, hcs⟩
  have HB2 : Hid (Below w.heap.size w ((w.alloc (.cells (tbA t a) 33)).alloc (.cells #[.int .i64 0, .int .i64 0, .int .i64 0, .int .i64 0, .int .i64 0, .int .i64 0, .int .i64 0, .int .i64 0, .int .i64 0, .int .i64 0, .int .i64 0, .int .i64 0, .int .i64 0, .int .i64 0, .int .i64 0, .slice none 0 0, .slice none 0 0, .slice none 0 0, .slice none 0 0] 33))) := ((Below.refl _ _).alloc (Nat.le_refl _) _).alloc (by simp) _
  have HX2 : Hid (TBx ((w.alloc (.cells (tbA t a) 33)).alloc (.cells #[.int .i64 0, .int .i64 0, .int .i64 0, .int .i64 0, .int .i64 0, .int .i64 0, .int .i64 0, .int .i64 0, .int .i64 0, .int .i64 0, .int .i64 0, .int .i64 0, .int .i64 0, .int .i64 0, .int .i64 0, .slice none 0 0, .slice none 0 0, .slice none 0 0, .slice none 0 0] 33)) w.heap.size t a) := (TBx.new w t a _ rfl).below ((Below.refl _ _).alloc (Nat.le_refl _) _)
  have HR2 : Hid (((w.alloc (.cells (tbA t a) 33)).alloc (.cells #[.int .i64 0, .int .i64 0, .int .i64 0, .int .i64 0, .int .i64 0, .int .i64 0, .int .i64 0, .int .i64 0, .int .i64 0, .int .i64 0, .int .i64 0, .int .i64 0, .int .i64 0, .int .i64 0, .int .i64 0, .slice none 0 0, .slice none 0 0, .slice none 0 0, .slice none 0 0] 33)).heap[w.heap.size + 1]? = some (.cells #[.int .i64 0, .int .i64 0, .int .i64 0, .int .i64 0, .int .i64 0, .int .i64 0, .int .i64 0, .int .i64 0, .int .i64 0, .int .i64 0, .int .i64 0, .int .i64 0, .int .i64 0, .int .i64 0, .int .i64 0, .slice none 0 0, .slice none 0 0, .slice none 0 0, .slice none 0 0] 33 (0, 0))) := new_row (w.alloc (.cells (tbA t a) 33)) _ _ _ (by simp)
  obtain ⟨b1, o1, hsa, hbl1, p1⟩ := (hm.below HB2.out).s.seg.at k hk
  obtain ⟨y, HY⟩ : ∃ y, Hid (t.ss.getD k sl0 = y) := ⟨_, rfl⟩
  simp only [slX] at p1
  rw [HY.out] at p1 hst hln hen hf2
  obtain ⟨z1, z2, z3⟩ := y
  simp only at hst hln hen hf2
  obtain ⟨sn, HSN⟩ : ∃ n, Hid (a.sn = n) := ⟨_, rfl⟩
  obtain ⟨sc, HSC⟩ : ∃ n, Hid (a.sc = n) := ⟨_, rfl⟩
  have HTX : Hid (∀ X, Below ((w.alloc (.cells (tbA t a) 33)).alloc (.cells #[.int .i64 0, .int .i64 0, .int .i64 0, .int .i64 0, .int .i64 0, .int .i64 0, .int .i64 0, .int .i64 0, .int .i64 0, .int .i64 0, .int .i64 0, .int .i64 0, .int .i64 0, .int .i64 0, .int .i64 0, .slice none 0 0, .slice none 0 0, .slice none 0 0, .slice none 0 0] 33)).heap.size ((w.alloc (.cells (tbA t a) 33)).alloc (.cells #[.int .i64 0, .int .i64 0, .int .i64 0, .int .i64 0, .int .i64 0, .int .i64 0, .int .i64 0, .int .i64 0, .int .i64 0, .int .i64 0, .int .i64 0, .int .i64 0, .int .i64 0, .int .i64 0, .int .i64 0, .slice none 0 0, .slice none 0 0, .slice none 0 0, .slice none 0 0] 33)) X → X.cell? ⟨w.heap.size, 18, none⟩ = some (.slice (some ⟨b1, o1, none⟩) sn sc) ∧ X.cell? ⟨b1, o1 + k * 3, none⟩ = some (.int .i64 z1) ∧ X.cell? ⟨b1, o1 + k * 3 + 1, none⟩ = some (.int .i64 z2) ∧ X.cell? ⟨b1, o1 + k * 3 + 2, none⟩ = some (.int .i64 z3)) := fun X hX => by
    have h1 := (HX2.out.below hX).cell 18 (v := .slice a.sa a.sn a.sc) rfl
    rw [hsa, HSN.out, HSC.out] at h1
    have h2 := sl_cells (p1.below hX)
    exact ⟨h1, h2⟩
  have HSG : Hid (∀ X, Below w.heap.size w X → GSeg 3 X (some ⟨b1, o1, none⟩) sn (slX t.ss)) := fun X hX => by
    have h1 := (hm.below hX).s.seg
    rw [hsa, HSN.out] at h1
    exact h1
  have hnc : sn ≤ sc := by have := HSN.out; have := HSC.out; omega
  have hn15 : sn < 16 := by have := HSN.out; omega
  have HLN : Hid (t.ss.length = sn) := hw.sl.trans HSN.out
  have hks : (k : Int) < (sn : Int) := by have := HSN.out; omega
  have hkn : k < sn := by have := HSN.out; omega
  clear hm hw hs hcs hc p1 hbl1 hsa
  go_enter Tryz.func37, Tryz.ntmps37
  go_wp2
  revert HB2 HX2 HR2 HTX
  generalize ((w.alloc (.cells (tbA t a) 33)).alloc (.cells #[.int .i64 0, .int .i64 0, .int .i64 0, .int .i64 0, .int .i64 0, .int .i64 0, .int .i64 0, .int .i64 0, .int .i64 0, .int .i64 0, .int .i64 0, .int .i64 0, .int .i64 0, .int .i64 0, .int .i64 0, .slice none 0 0, .slice none 0 0, .slice none 0 0, .slice none 0 0] 33)) = WA
  intro HB2 HX2 HR2 HTX
  refine wp_region_inv (by kernel_rfl) (by kernel_rfl) (fun A ℓ a' w' => ∃ (N1 : Nat) (N2 : Nat) (x9 x10 x11 x12 x13 x14 x15 x16 x17 x18 x7 x8 : Value), a' = ((((((((((((A.put (some 9) x9).put (some 10) x10).put (some 11) x11).put (some 12) x12).put (some 13) x13).put (some 14) x14).put (some 15) x15).put (some 16) x16).put (some 17) x17).put (some 18) x18).put (some 7) x7).put (some 8) x8) ∧ Is1 WA w.heap.size (some ⟨b1, o1, none⟩) sn sc k ⟨b1, o1 + k * 3, none⟩ z1 z2 z3 w' N1 N2 (ℓ 0) (ℓ 1) (ℓ 2) (ℓ 3) (ℓ 4) (ℓ 5) (ℓ 6) (ℓ 7) (ℓ 8) (ℓ 9) (ℓ 10) (ℓ 11) (ℓ 12) (ℓ 13) x9 x10 x11 x12 x13 x14 x15 x16 x17 x18 x7 x8) ?_ ?_ ?_ ?_
  · exact ⟨0, 0, undef, undef, undef, undef, undef, undef, undef, undef, undef, undef, undef, undef, (by simp only [Act.put, List.setIfInBounds_toArray, List.set_cons_zero, List.set_cons_succ]), ⟨(fun g => by cases g), (fun g => by cases g), (Below.refl _ _).drew, (fun g => by cases g), (fun g => by cases g), (fun g => by cases g), (fun g => by cases g), (fun g => by cases g), (fun g => by cases g), (fun g => by cases g), (fun g => by cases g), (fun g => by cases g), (fun g => by cases g), (fun g => by cases g), (fun g => by cases g), (fun g => by cases g)⟩⟩
  · intro ℓ a' w' hI hall
    obtain ⟨N1, N2, x9, x10, x11, x12, x13, x14, x15, x16, x17, x18, x7, x8, rfl, hr⟩ := hI
    have hall' : ∀ i, i < 14 → ℓ i = true := hall
    obtain ⟨rfl, hn1, _, hr1⟩ := hr.f10 (hall' 10 (by decide))
    obtain ⟨rfl, hn2, _, hr2⟩ := hr.f11 (hall' 11 (by decide))
    have HF1 : Hid (w'.heap[N1]? = some (.cells #[.int .i64 z1, .int .i64 z2, .int .i64 z3] 42 (0, 0))) := hr1 (hall' 12 (by decide))
    have HF2 : Hid (w'.heap[N2]? = some (.cells #[.int .i64 z1, .int .i64 z2, .int .i64 z3] 42 (0, 0))) := hr2 (hall' 13 (by decide))
    have HNE : Hid (N1 ≠ N2) := hr.ne (hall' 10 (by decide)) (hall' 11 (by decide))
    have HG1 : Hid (Below WA.heap.size WA w') := hr.gb
    have HN12 : Hid (WA.heap.size ≤ N1 ∧ WA.heap.size ≤ N2) := ⟨hn1, hn2⟩
    clear hr hall hall' hr1 hr2 hn1 hn2
    have HV1 : Hid ((w'.setCell ⟨N1, 2, none⟩ (.int .i64 f)).heap[N1]? = some (.cells #[.int .i64 z1, .int .i64 z2, .int .i64 f] 42 (0, 0))) := r3_set HF1.out 2 _ rfl
    have HV2 : Hid ((w'.setCell ⟨N1, 2, none⟩ (.int .i64 f)).heap[N2]? = some (.cells #[.int .i64 z1, .int .i64 z2, .int .i64 z3] 42 (0, 0))) := by
      show _ = _
      rw [block_set_other _ _ _ _ _ HNE.out]
      exact HF2.out
    have HGV : Hid (Below WA.heap.size WA (w'.setCell ⟨N1, 2, none⟩ (.int .i64 f))) := HG1.out.setCell (p := ⟨N1, 2, none⟩) HN12.out.1 _
    have cc := row_cell HF1.out 2 (.int .i64 z3) rfl
    have cf := row_free HF1.out 2
    simp only [Act.put, List.setIfInBounds_toArray, List.set_cons_zero, List.set_cons_succ]
    clear HF1 HF2 HG1
    go_wp2
    revert HV1 HV2 HGV
    generalize w'.setCell ⟨N1, 2, none⟩ (.int .i64 f) = WB
    intro HV1 HV2 HGV
    clear cc cf
    have HQ : Hid (∀ X, Below WB.heap.size WB X → (X.cell? ⟨N1, 0, none⟩ = some (.int .i64 z1) ∧ X.cell? ⟨N1, 1, none⟩ = some (.int .i64 z2) ∧ X.cell? ⟨N1, 2, none⟩ = some (.int .i64 f)) ∧ X.cell? ⟨N2, 1, none⟩ = some (.int .i64 z2) ∧ X.cell? ⟨N2, 2, none⟩ = some (.int .i64 z3) ∧ X.frozen? ⟨N2, 1, none⟩ = false ∧ X.frozen? ⟨N2, 2, none⟩ = false) := fun X hX => by
      have h1 := row_below HV1.out hX
      have h2 := row_below HV2.out hX
      exact ⟨⟨row_cell h1 0 _ rfl, row_cell h1 1 _ rfl, row_cell h1 2 _ rfl⟩, row_cell h2 1 _ rfl, row_cell h2 2 _ rfl, row_free h2 1, row_free h2 2⟩
    have HWR : Hid (IntKind.i64.wrap (z2 + f) = z2 + f ∧ IntKind.i64.wrap (z3 - f) = z3 - f ∧ IntKind.i64.wrap ((k : Int) + 1) = (k : Int) + 1) := by
      refine ⟨?_, ?_, ?_⟩ <;> (rw [IntKind.wrap_i64]; omega)
    have HE : Hid (∀ Y, Calls Tryz.prog 65 #[.agg #[.int .i64 z1, .int .i64 z2, .int .i64 f]] Y fun e w' => e = .returned (.int .i64 (z2 + f)) ∧ Below Y.heap.size Y w') := fun Y => slot_end z1 z2 f Y HWR.out.1
    refine wp_region_inv (by kernel_rfl) (by kernel_rfl) (fun A ℓ a' w' => ∃ (V : World) (x21 x22 x23 x24 x25 x26 x27 x28 : Value), a' = ((((((((A.put (some 21) x21).put (some 22) x22).put (some 23) x23).put (some 24) x24).put (some 25) x25).put (some 26) x26).put (some 27) x27).put (some 28) x28) ∧ Is3 WB N1 N2 z1 z2 z3 f w' V (ℓ 0) (ℓ 1) (ℓ 2) (ℓ 3) (ℓ 4) (ℓ 5) (ℓ 6) (ℓ 7) (ℓ 8) (ℓ 9) x21 x22 x23 x24 x25 x26 x27 x28) ?_ ?_ ?_ ?_
    · exact ⟨WB.drew, undef, undef, undef, undef, undef, undef, undef, undef, (by simp only [Act.put, List.setIfInBounds_toArray, List.set_cons_zero, List.set_cons_succ]), ⟨(fun g => by cases g), (fun g => by cases g), (Below.refl _ _).drew, (fun _ => rfl), (fun g => by cases g), (fun g => by cases g), (fun g => by cases g), (fun g => by cases g), (fun g => by cases g), (fun g => by cases g), (fun g => by cases g), (fun g => by cases g), (fun g => by cases g), (fun g => by cases g)⟩⟩
    · intro ℓ a' w' hI hall
      obtain ⟨V, x21, x22, x23, x24, x25, x26, x27, x28, rfl, hr⟩ := hI
      have hall' : ∀ i, i < 10 → ℓ i = true := hall
      have hv := hr.v2 (hall' 9 (by decide))
      have hbV := hr.gb
      clear hr hall hall'
      subst hv
      have HW1 : Hid (((V.setCell ⟨N2, 1, none⟩ (.int .i64 (z2 + f))).setCell ⟨N2, 2, none⟩ (.int .i64 (z3 - f))).heap[N1]? = some (.cells #[.int .i64 z1, .int .i64 z2, .int .i64 f] 42 (0, 0))) := by
        show _ = _
        rw [block_set_other _ _ _ _ _ (fun e => HNE.out e.symm), block_set_other _ _ _ _ _ (fun e => HNE.out e.symm)]
        exact row_below HV1.out hbV
      have HW2 : Hid (((V.setCell ⟨N2, 1, none⟩ (.int .i64 (z2 + f))).setCell ⟨N2, 2, none⟩ (.int .i64 (z3 - f))).heap[N2]? = some (.cells #[.int .i64 z1, .int .i64 (z2 + f), .int .i64 (z3 - f)] 42 (0, 0))) := r3_set (r3_set (row_below HV2.out hbV) 1 _ rfl) 2 _ rfl
      have HGW : Hid (Below WA.heap.size WA ((V.setCell ⟨N2, 1, none⟩ (.int .i64 (z2 + f))).setCell ⟨N2, 2, none⟩ (.int .i64 (z3 - f)))) := ((HGV.out.trans (hbV.mono HGV.out.size)).setCell (p := ⟨N2, 1, none⟩) HN12.out.2 _).setCell (p := ⟨N2, 2, none⟩) HN12.out.2 _
      simp only [Act.put, List.setIfInBounds_toArray, List.set_cons_zero, List.set_cons_succ]
      revert HW1 HW2 HGW
      generalize (V.setCell ⟨N2, 1, none⟩ (.int .i64 (z2 + f))).setCell ⟨N2, 2, none⟩ (.int .i64 (z3 - f)) = WC
      intro HW1 HW2 HGW
      clear HQ HE HV1 HV2 HGV hbV
      have HBC : Hid (Below w.heap.size w WC) := HB2.out.trans (HGW.out.mono HB2.out.size)
      have HXC : Hid (TBx WC w.heap.size t a) := HX2.out.below HGW.out
      have HRC : Hid (WC.heap[w.heap.size + 1]? = some (.cells #[.int .i64 0, .int .i64 0, .int .i64 0, .int .i64 0, .int .i64 0, .int .i64 0, .int .i64 0, .int .i64 0, .int .i64 0, .int .i64 0, .int .i64 0, .int .i64 0, .int .i64 0, .int .i64 0, .int .i64 0, .slice none 0 0, .slice none 0 0, .slice none 0 0, .slice none 0 0] 33 (0, 0))) := row_below HR2.out HGW.out
      have HT01 : Hid (w.heap.size < WC.heap.size ∧ w.heap.size + 1 < WC.heap.size) := ⟨(Array.getElem?_eq_some_iff.1 HXC.out).1, (Array.getElem?_eq_some_iff.1 HRC.out).1⟩
      have HT4 : Hid (∀ X, Below WC.heap.size WC X → (X.cell? ⟨w.heap.size, 18, none⟩ = some (.slice (some ⟨b1, o1, none⟩) sn sc) ∧ X.frozen? ⟨w.heap.size, 18, none⟩ = false) ∧ (X.cell? ⟨N1, 0, none⟩ = some (.int .i64 z1) ∧ X.cell? ⟨N1, 1, none⟩ = some (.int .i64 z2) ∧ X.cell? ⟨N1, 2, none⟩ = some (.int .i64 f)) ∧ X.cell? ⟨N2, 0, none⟩ = some (.int .i64 z1) ∧ X.cell? ⟨N2, 1, none⟩ = some (.int .i64 (z2 + f)) ∧ X.cell? ⟨N2, 2, none⟩ = some (.int .i64 (z3 - f))) := fun X hX => by
        have h1 := row_below HW1.out hX
        have h2 := row_below HW2.out hX
        have h3 := HXC.out.below hX
        unfold TBx at h3
        exact ⟨⟨(HTX.out X (HGW.out.trans (hX.mono HGW.out.size))).1, row_free h3 18⟩, ⟨row_cell h1 0 _ rfl, row_cell h1 1 _ rfl, row_cell h1 2 _ rfl⟩, row_cell h2 0 _ rfl, row_cell h2 1 _ rfl, row_cell h2 2 _ rfl⟩
      obtain ⟨aL, hL1, hL2⟩ := sl_to b1 o1 sn sc k (by omega) hnc t.ss
      obtain ⟨aR, hR1, hR2⟩ := sl_from b1 o1 sn sc k (by omega) hnc t.ss
      have HSL : Hid (∀ W, (Instr.slice 31 (.slice (some ⟨b1, o1, none⟩) sn sc) none (some (.int .i64 (k : Int))) none).run Tryz.prog W = .ok (.slice aL k sc) W) := hL1
      have HSR : Hid (∀ W, (Instr.slice 31 (.slice (some ⟨b1, o1, none⟩) sn sc) (some (.int .i64 ((k : Int) + 1))) none none).run Tryz.prog W = .ok (.slice aR (sn - (k + 1)) (sc - (k + 1))) W) := hR1
      obtain ⟨Xs, HXS⟩ : ∃ Xs, Hid (Xs = thX (t.ss.take k) [(z1, z2, f), (z1, z2 + f, z3 - f)] (t.ss.drop (k + 1))) := ⟨_, rfl⟩
      obtain ⟨N, HNN⟩ : ∃ N, Hid (N = sn + 1) := ⟨_, rfl⟩
      have HCN : Hid (catN Xs 3 = splL t.ss k f) := by
        show _ = _
        rw [HXS.out]
        unfold splL
        rw [HY.out]
        simp [catN, thX]
      have HTH : Hid (∀ X M C, Below WC.heap.size WC X → X.heap[M]? = some (.cells #[.int .i64 z1, .int .i64 z2, .int .i64 f, .int .i64 z1, .int .i64 (z2 + f), .int .i64 (z3 - f)] 42 (0, 0)) → X.heap[C]? = some (.cells #[.slice aL k sc, .slice (some ⟨M, 0, none⟩) 2 2, .slice aR (sn - (k + 1)) (sc - (k + 1))] 31 (0, 0)) → Thr X C (thA aL M aR) (thN k 2 (sn - (k + 1))) (thN sc 2 (sc - (k + 1))) Xs N) := fun X M C hX h1 h2 => by
        have hbw : Below w.heap.size w X := HBC.out.trans (hX.mono HBC.out.size)
        have hl := HLN.out
        rw [HXS.out, HNN.out]
        have hi3 : ∀ i, i < 3 → i = 0 ∨ i = 1 ∨ i = 2 := fun i hi => by omega
        refine ⟨fun i hi => ?_, fun i hi => ?_, ?_, fun i hi => ?_⟩
        · rcases hi3 i hi with rfl | rfl | rfl <;> exact row_cell h2 _ _ rfl
        · rcases hi3 i hi with rfl | rfl | rfl
          · show (t.ss.take k).length = k
            rw [List.length_take]
            omega
          · rfl
          · show (t.ss.drop (k + 1)).length = sn - (k + 1)
            rw [List.length_drop]
            omega
        · show k + 2 + (sn - (k + 1)) = sn + 1
          omega
        · rcases hi3 i hi with rfl | rfl | rfl
          · exact hL2 X (HSG.out X hbw)
          · exact two_seg h1
          · exact hR2 X (HSG.out X hbw)
      have hN1 : 1 ≤ N := by have := HNN.out; omega
      have hN60 : N ≤ 60 := by have := HNN.out; omega
      obtain ⟨iS, hi1, hi2, hi3, hi4⟩ := sli
      have HIS : Hid (Tryz.prog.info? 42 = some iS ∧ iS.zero = some (.agg #[.int .i64 0, .int .i64 0, .int .i64 0]) ∧ iS.size = 3) := ⟨hi1, hi2, hi3⟩
      obtain ⟨iT, hj1, hj2, hj3⟩ := slj
      have HIT : Hid (Tryz.prog.info? 31 = some iT ∧ iT.zero = some (.slice none 0 0) ∧ iT.size = 1) := ⟨hj1, hj2, hj3⟩
      clear hL1 hL2 hR1 hR2 hi1 hi2 hi3 hi4 hj1 hj2 hj3
      go_wp2
      refine wp_region_inv (by kernel_rfl) (by kernel_rfl) (fun A ℓ a' w' => ∃ (x29 x30 x31 x32 x33 x34 x35 x36 x37 x38 x39 x40 x41 x42 x43 : Value), a' = (((((((((((((((A.put (some 29) x29).put (some 30) x30).put (some 31) x31).put (some 32) x32).put (some 33) x33).put (some 34) x34).put (some 35) x35).put (some 36) x36).put (some 37) x37).put (some 38) x38).put (some 39) x39).put (some 40) x40).put (some 41) x41).put (some 42) x42).put (some 43) x43) ∧ Is4 WC w.heap.size (some ⟨b1, o1, none⟩) sn sc k aL aR N Xs z1 z2 z3 f w'  (ℓ 0) (ℓ 1) (ℓ 2) (ℓ 3) (ℓ 4) (ℓ 5) (ℓ 6) (ℓ 7) (ℓ 8) (ℓ 9) (ℓ 10) (ℓ 11) (ℓ 12) (ℓ 13) (ℓ 14) (ℓ 15) x29 x30 x31 x32 x33 x34 x35 x36 x37 x38 x39 x40 x41 x42 x43) ?_ ?_ ?_ ?_
      · exact ⟨undef, undef, undef, undef, undef, undef, undef, undef, undef, undef, undef, undef, undef, undef, undef, (by simp only [Act.put, List.setIfInBounds_toArray, List.set_cons_zero, List.set_cons_succ]), ⟨(fun g => by cases g), (fun _ => (Below.refl _ _).drew), (fun g => by cases g), (fun g => by cases g), (fun g => by cases g), (fun g => by cases g), (fun g => by cases g), (fun g => by cases g), (fun g => by cases g), (fun g => by cases g), (fun g => by cases g), (fun g => by cases g), (fun g => by cases g), (fun g => by cases g), (fun g => by cases g), (fun g => by cases g), (fun g => by cases g), (fun g => by cases g)⟩⟩
      · intro ℓ a' w' hI hall
        obtain ⟨x29, x30, x31, x32, x33, x34, x35, x36, x37, x38, x39, x40, x41, x42, x43, rfl, hr⟩ := hI
        have hall' : ∀ i, i < 16 → ℓ i = true := hall
        obtain ⟨V, A', c, hbV, hsg, hcc, rfl⟩ := hr.v1 (hall' 15 (by decide))
        clear hr hall hall'
        obtain ⟨af, HAF⟩ : ∃ af : Ad, Hid (af = { a with sa := A', sn := N, sc := c }) := ⟨_, rfl⟩
        have HX5 : Hid ((V.setCell ⟨w.heap.size, 18, none⟩ (.slice A' N c)).heap[w.heap.size]? = some (.cells (tbA t af) 33 (0, 0))) := by
          have h := tbx_set (b := { a with sa := A', sn := N, sc := c }) (HXC.out.below hbV) 18 (.slice A' N c) rfl
          rw [← HAF.out] at h
          exact h
        have HR5 : Hid ((V.setCell ⟨w.heap.size, 18, none⟩ (.slice A' N c)).heap[w.heap.size + 1]? = some (.cells #[.int .i64 0, .int .i64 0, .int .i64 0, .int .i64 0, .int .i64 0, .int .i64 0, .int .i64 0, .int .i64 0, .int .i64 0, .int .i64 0, .int .i64 0, .int .i64 0, .int .i64 0, .int .i64 0, .int .i64 0, .slice none 0 0, .slice none 0 0, .slice none 0 0, .slice none 0 0] 33 (0, 0))) := by
          show _ = _
          rw [block_set_other _ _ _ _ _ (by omega)]
          exact row_below HRC.out hbV
        have HB5 : Hid (Below w.heap.size w (V.setCell ⟨w.heap.size, 18, none⟩ (.slice A' N c))) := (HBC.out.trans (hbV.mono HBC.out.size)).setCell (p := ⟨w.heap.size, 18, none⟩) (Nat.le_refl _) _
        have HS5 : Hid (GSegL 3 WC.heap.size ((V.setCell ⟨w.heap.size, 18, none⟩ (.slice A' N c)).setRow (w.heap.size + 1) (tbA t af)) A' N (slX (catN Xs 3))) := (hsg.other HT01.out.1).setRow _ HT01.out.2
        have HRF : Hid (((V.setCell ⟨w.heap.size, 18, none⟩ (.slice A' N c)).setRow (w.heap.size + 1) (tbA t af)).heap[w.heap.size + 1]? = some (.cells (tbA t af) 33 (0, 0))) := setRow_heap _ _ _ _ _ _ HR5.out
        have HBF : Hid (Below w.heap.size w ((V.setCell ⟨w.heap.size, 18, none⟩ (.slice A' N c)).setRow (w.heap.size + 1) (tbA t af))) := below_setRow HB5.out (by omega) _
        have HCC : Hid (N ≤ c) := hcc
        simp only [Act.put, List.setIfInBounds_toArray, List.set_cons_zero, List.set_cons_succ]
        clear hbV hsg hcc HT4 HTH HSL HSR HIS HIT HB5 HXC HRC HW1 HW2 HGW
        go_wp2_with (first | (refine wpList_load_row rfl 33 (.tmp 3) rfl w.heap.size rfl 33 (tbA t af) (0, 0) _ HX5.out Tryz.underlying33 rfl (by kernel_rfl) ?_) | (refine wpList_store_row rfl 33 (.tmp 6) (.tmp 44) rfl (w.heap.size + 1) (tbA t af) rfl rfl 33 #[.int .i64 0, .int .i64 0, .int .i64 0, .int .i64 0, .int .i64 0, .int .i64 0, .int .i64 0, .int .i64 0, .int .i64 0, .int .i64 0, .int .i64 0, .int .i64 0, .int .i64 0, .int .i64 0, .int .i64 0, .slice none 0 0, .slice none 0 0, .slice none 0 0, .slice none 0 0] HR5.out (by kernel_rfl) rfl (by simp [Value.oneCell']) ?_) | fail)
        revert HRF HBF HS5
        generalize (V.setCell ⟨w.heap.size, 18, none⟩ (.slice A' N c)).setRow (w.heap.size + 1) (tbA t af) = WF
        intro HS5 HRF HBF
        go_wp2
        refine bodyPost_ret (v := tbV t af) (res_sp HRF.out rfl rfl) rfl ⟨af, rfl, HBF.out, ?_, ?_, ?_, ?_, ?_, ?_⟩
        · have h := HMM.out _ HBF.out
          have h5 := HS5.out.wide (Nat.zero_le _)
          rw [HCN.out] at h5
          rw [HAF.out]
          exact ⟨h.p, h.d, h.c, h5⟩
        · have h := HTW.out.1
          have hsl : (splL t.ss k f).length = t.ss.length + 1 := by
            have e := splM_len t.ss k f t.ss.length
            rw [splM_all hkl, if_pos hkl] at e
            exact e
          have hl := HLN.out
          have hnn := HNN.out
          rw [HAF.out]
          refine ⟨h.pl, h.dl, h.cl, ?_, h.pb, h.db, h.cb, ?_, h.wb, h.wf, fun i hi => ?_⟩
          · show (splL t.ss k f).length = N
            omega
          · show N ≤ 9223372036854775807
            omega
          · have hi' : i < N := hi
            have e := splM_rng HTM.out hkl (f := f) (by omega) (by omega) t.ss.length (Nat.le_refl _) i (by rw [splM_all hkl]; omega)
            rw [splM_all hkl] at e
            exact ⟨by have := e.2; show (((splL t.ss k f).getD i sl0).2.1) ≤ _; omega, by have := e.1; show _ ≤ (((splL t.ss k f).getD i sl0).2.1); omega⟩
        · have h := HTW.out.2.1
          rw [HAF.out]
          exact ⟨h.p, h.d, h.c, by show N ≤ 1048576; omega, h.w⟩
        · rw [HAF.out]
          exact HCC.out
        · have h := HAF.out
          subst h
          rfl
        · have h5 := HS5.out
          rw [HCN.out] at h5
          have h := HAF.out
          subst h
          exact h5.wide (by have := HT01.out.1; omega)
      · intro ℓ a' w' q o hI ho hi hL hdep K hK
        obtain ⟨x29, x30, x31, x32, x33, x34, x35, x36, x37, x38, x39, x40, x41, x42, x43, rfl, hr⟩ := hI
        have hi7 : q < 16 := hi
        have hcs : q = 0 ∨ q = 1 ∨ q = 2 ∨ q = 3 ∨ q = 4 ∨ q = 5 ∨ q = 6 ∨ q = 7 ∨ q = 8 ∨ q = 9 ∨ q = 10 ∨ q = 11 ∨ q = 12 ∨ q = 13 ∨ q = 14 ∨ q = 15 := by omega
        clear hi hi7
        rcases hcs with rfl | rfl | rfl | rfl | rfl | rfl | rfl | rfl | rfl | rfl | rfl | rfl | rfl | rfl | rfl | rfl
        · revert hK
          obtain rfl := Option.some.inj ho
          clear hdep ho
          have hl15 : ℓ 15 = false := by
            cases h7 : ℓ 15
            · rfl
            · have := (hr.c15 h7).1; rw [this] at hL; cases hL
          intro hK
          rw [if_pos (by rfl)]
          try simp only [Act.put, List.setIfInBounds_toArray, List.set_cons_zero, List.set_cons_succ]
          go_simp
          exact hK.out _ _ (fun j => if j = 0 then true else ℓ j) ⟨.pointer (some ⟨w.heap.size, 18, none⟩), x30, x31, x32, x33, x34, x35, x36, x37, x38, x39, x40, x41, x42, x43, (by simp only [Act.put, List.setIfInBounds_toArray, List.set_cons_zero, List.set_cons_succ]), ⟨(fun g => absurd (hl15.symm.trans g) Bool.false_ne_true), hr.gb, (fun g => absurd (hl15.symm.trans g) Bool.false_ne_true), (fun _ => rfl), hr.f1, hr.f2, hr.f3, hr.f4, hr.f5, hr.f6, hr.f7, hr.f8, hr.f9, hr.f10, hr.f11, hr.f12, hr.f13, hr.f14⟩⟩ (if_pos rfl) (fun j hj => if_neg hj)
        · revert hK
          obtain rfl := Option.some.inj ho
          have g0 : ℓ 0 = true := hdep { on := 0, ground := Ground.data } (by simp) rfl
          clear hdep ho
          have hl15 : ℓ 15 = false := by
            cases h7 : ℓ 15
            · rfl
            · have := (hr.c15 h7).2.1; rw [this] at hL; cases hL
          obtain rfl := hr.f0 g0
          have cc := (HT4.out _ (hr.gb hl15)).1.1
          intro hK
          rw [if_pos (by rfl)]
          try simp only [Act.put, List.setIfInBounds_toArray, List.set_cons_zero, List.set_cons_succ]
          go_simp
          exact hK.out _ _ (fun j => if j = 1 then true else ℓ j) ⟨.pointer (some ⟨w.heap.size, 18, none⟩), .slice (some ⟨b1, o1, none⟩) sn sc, x31, x32, x33, x34, x35, x36, x37, x38, x39, x40, x41, x42, x43, (by simp only [Act.put, List.setIfInBounds_toArray, List.set_cons_zero, List.set_cons_succ]), ⟨(fun g => absurd (hl15.symm.trans g) Bool.false_ne_true), hr.gb, (fun g => absurd (hl15.symm.trans g) Bool.false_ne_true), hr.f0, (fun _ => rfl), hr.f2, hr.f3, hr.f4, hr.f5, hr.f6, hr.f7, hr.f8, hr.f9, hr.f10, hr.f11, hr.f12, hr.f13, hr.f14⟩⟩ (if_pos rfl) (fun j hj => if_neg hj)
        · revert hK
          obtain rfl := Option.some.inj ho
          clear hdep ho
          have hl15 : ℓ 15 = false := by
            cases h7 : ℓ 15
            · rfl
            · have := (hr.c15 h7).2.2.1; rw [this] at hL; cases hL
          intro hK
          rw [if_pos (by rfl)]
          try simp only [Act.put, List.setIfInBounds_toArray, List.set_cons_zero, List.set_cons_succ]
          go_simp
          exact hK.out _ _ (fun j => if j = 2 then true else ℓ j) ⟨x29, x30, .int .i64 (k : Int), x32, x33, x34, x35, x36, x37, x38, x39, x40, x41, x42, x43, (by simp only [Act.put, List.setIfInBounds_toArray, List.set_cons_zero, List.set_cons_succ]), ⟨(fun g => absurd (hl15.symm.trans g) Bool.false_ne_true), hr.gb, (fun g => absurd (hl15.symm.trans g) Bool.false_ne_true), hr.f0, hr.f1, (fun _ => rfl), hr.f3, hr.f4, hr.f5, hr.f6, hr.f7, hr.f8, hr.f9, hr.f10, hr.f11, hr.f12, hr.f13, hr.f14⟩⟩ (if_pos rfl) (fun j hj => if_neg hj)
        · replace ho : some ({ dst := some 32, op := Op.slice 31 (Operand.tmp 30) none (some (Operand.tmp 31)) none, type := 31, pos := "l23_plan.go:50", after := #[{ on := 1, ground := Ground.data }, { on := 2, ground := Ground.data }], guard := none } : Oper) = some o := ho
          revert hK
          obtain rfl := Option.some.inj ho
          have g1 : ℓ 1 = true := hdep { on := 1, ground := Ground.data } (by simp) rfl
          have g2 : ℓ 2 = true := hdep { on := 2, ground := Ground.data } (by simp) rfl
          clear hdep ho
          have hl15 : ℓ 15 = false := by
            cases h7 : ℓ 15
            · rfl
            · have := (hr.c15 h7).2.2.2.1; rw [this] at hL; cases hL
          obtain rfl := hr.f1 g1
          obtain rfl := hr.f2 g2
          intro hK
          rw [if_pos (by rfl)]
          try simp only [Act.put, List.setIfInBounds_toArray, List.set_cons_zero, List.set_cons_succ]
          refine wp_slice_of (.tmp 30) none (some (.tmp 31)) rfl (.slice aL k sc) (some 32) rfl (HSL.out _) ?_
          try simp only [Act.put, List.setIfInBounds_toArray, List.set_cons_zero, List.set_cons_succ]
          exact hK.out _ _ (fun j => if j = 3 then true else ℓ j) ⟨x29, .slice (some ⟨b1, o1, none⟩) sn sc, .int .i64 (k : Int), .slice aL k sc, x33, x34, x35, x36, x37, x38, x39, x40, x41, x42, x43, (by simp only [Act.put, List.setIfInBounds_toArray, List.set_cons_zero, List.set_cons_succ]), ⟨(fun g => absurd (hl15.symm.trans g) Bool.false_ne_true), hr.gb, (fun g => absurd (hl15.symm.trans g) Bool.false_ne_true), hr.f0, hr.f1, hr.f2, (fun _ => rfl), hr.f4, hr.f5, hr.f6, hr.f7, hr.f8, hr.f9, hr.f10, hr.f11, hr.f12, hr.f13, hr.f14⟩⟩ (if_pos rfl) (fun j hj => if_neg hj)
        · revert hK
          obtain rfl := Option.some.inj ho
          clear hdep ho
          have hl15 : ℓ 15 = false := by
            cases h7 : ℓ 15
            · rfl
            · have := (hr.c15 h7).2.2.2.2.1; rw [this] at hL; cases hL
          have q := (HT4.out _ (hr.gb hl15)).2.1
          have cc0 := q.1
          have cc1 := q.2.1
          have cc2 := q.2.2
          clear q
          intro hK
          rw [if_pos (by rfl)]
          try simp only [Act.put, List.setIfInBounds_toArray, List.set_cons_zero, List.set_cons_succ]
          go_simp
          exact hK.out _ _ (fun j => if j = 4 then true else ℓ j) ⟨x29, x30, x31, x32, .agg #[.int .i64 z1, .int .i64 z2, .int .i64 f], x34, x35, x36, x37, x38, x39, x40, x41, x42, x43, (by simp only [Act.put, List.setIfInBounds_toArray, List.set_cons_zero, List.set_cons_succ]), ⟨(fun g => absurd (hl15.symm.trans g) Bool.false_ne_true), hr.gb, (fun g => absurd (hl15.symm.trans g) Bool.false_ne_true), hr.f0, hr.f1, hr.f2, hr.f3, (fun _ => rfl), hr.f5, hr.f6, hr.f7, hr.f8, hr.f9, hr.f10, hr.f11, hr.f12, hr.f13, hr.f14⟩⟩ (if_pos rfl) (fun j hj => if_neg hj)
        · revert hK
          obtain rfl := Option.some.inj ho
          clear hdep ho
          have hl15 : ℓ 15 = false := by
            cases h7 : ℓ 15
            · rfl
            · have := (hr.c15 h7).2.2.2.2.2.1; rw [this] at hL; cases hL
          have q := (HT4.out _ (hr.gb hl15)).2.2
          have cc0 := q.1
          have cc1 := q.2.1
          have cc2 := q.2.2
          clear q
          intro hK
          rw [if_pos (by rfl)]
          try simp only [Act.put, List.setIfInBounds_toArray, List.set_cons_zero, List.set_cons_succ]
          go_simp
          exact hK.out _ _ (fun j => if j = 5 then true else ℓ j) ⟨x29, x30, x31, x32, x33, .agg #[.int .i64 z1, .int .i64 (z2 + f), .int .i64 (z3 - f)], x35, x36, x37, x38, x39, x40, x41, x42, x43, (by simp only [Act.put, List.setIfInBounds_toArray, List.set_cons_zero, List.set_cons_succ]), ⟨(fun g => absurd (hl15.symm.trans g) Bool.false_ne_true), hr.gb, (fun g => absurd (hl15.symm.trans g) Bool.false_ne_true), hr.f0, hr.f1, hr.f2, hr.f3, hr.f4, (fun _ => rfl), hr.f6, hr.f7, hr.f8, hr.f9, hr.f10, hr.f11, hr.f12, hr.f13, hr.f14⟩⟩ (if_pos rfl) (fun j hj => if_neg hj)
        · replace ho : some ({ dst := some 35, op := Op.buildSlice 31 2 #[(0, Operand.tmp 33), (1, Operand.tmp 34)], type := 31, pos := "l23_plan.go:50", after := #[{ on := 4, ground := Ground.data }, { on := 5, ground := Ground.data }], guard := none } : Oper) = some o := ho
          revert hK
          obtain rfl := Option.some.inj ho
          have g4 : ℓ 4 = true := hdep { on := 4, ground := Ground.data } (by simp) rfl
          have g5 : ℓ 5 = true := hdep { on := 5, ground := Ground.data } (by simp) rfl
          clear hdep ho
          have hl15 : ℓ 15 = false := by
            cases h7 : ℓ 15
            · rfl
            · have := (hr.c15 h7).2.2.2.2.2.2.1; rw [this] at hL; cases hL
          obtain rfl := hr.f4 g4
          obtain rfl := hr.f5 g5
          have hb9 : Below w'.heap.size w' (w'.alloc (.cells #[.int .i64 z1, .int .i64 z2, .int .i64 f, .int .i64 z1, .int .i64 (z2 + f), .int .i64 (z3 - f)] 42)) := (Below.refl _ _).alloc (Nat.le_refl _) _
          intro hK
          rw [if_pos (by rfl)]
          try simp only [Act.put, List.setIfInBounds_toArray, List.set_cons_zero, List.set_cons_succ]
          refine wp_buildSlice 31 42 2 #[(0, .tmp 33), (1, .tmp 34)] rfl #[.int .i64 z1, .int .i64 z2, .int .i64 f, .int .i64 z1, .int .i64 (z2 + f), .int .i64 (z3 - f)] iS _ Tryz.underlying31 HIS.out.1 HIS.out.2.1 (by rw [HIS.out.2.2]; decide) (by rw [HIS.out.2.2]; decide) (by rw [HIS.out.2.2, Array.toList_map]; exact Great.fill_whole (s := 3) (by decide) [.agg #[.int .i64 z1, .int .i64 z2, .int .i64 f], .agg #[.int .i64 z1, .int .i64 (z2 + f), .int .i64 (z3 - f)]] _ (fun v hv => by simp only [List.mem_cons, List.not_mem_nil, or_false] at hv; rcases hv with rfl | rfl <;> rfl) (by simp)) ?_
          try simp only [Act.put, List.setIfInBounds_toArray, List.set_cons_zero, List.set_cons_succ]
          exact hK.out _ _ (fun j => if j = 6 then true else ℓ j) ⟨x29, x30, x31, x32, .agg #[.int .i64 z1, .int .i64 z2, .int .i64 f], .agg #[.int .i64 z1, .int .i64 (z2 + f), .int .i64 (z3 - f)], .slice (some ⟨w'.heap.size, 0, none⟩) 2 2, x36, x37, x38, x39, x40, x41, x42, x43, (by simp only [Act.put, List.setIfInBounds_toArray, List.set_cons_zero, List.set_cons_succ]), ⟨(fun g => absurd (hl15.symm.trans g) Bool.false_ne_true), (fun _ => (hr.gb hl15).trans (hb9.mono (hr.gb hl15).size)), (fun g => absurd (hl15.symm.trans g) Bool.false_ne_true), hr.f0, hr.f1, hr.f2, hr.f3, hr.f4, hr.f5, (fun _ => ⟨w'.heap.size, rfl, fun _ => new_row w' _ _ _ rfl⟩), hr.f7, hr.f8, hr.f9, hr.f10, hr.f11, (fun g => by obtain ⟨M2, C2, e2, h2⟩ := hr.f12 g; exact ⟨M2, C2, e2, fun _ => (h2 hl15).below hb9⟩), (fun g => by obtain ⟨A2, c2, e2, h2, h3⟩ := hr.f13 g; exact ⟨A2, c2, e2, h2, fun _ => (h3 hl15).below hb9⟩), hr.f14⟩⟩ (if_pos rfl) (fun j hj => if_neg hj)
        · revert hK
          obtain rfl := Option.some.inj ho
          clear hdep ho
          have hl15 : ℓ 15 = false := by
            cases h7 : ℓ 15
            · rfl
            · have := (hr.c15 h7).2.2.2.2.2.2.2.1; rw [this] at hL; cases hL
          intro hK
          rw [if_pos (by rfl)]
          try simp only [Act.put, List.setIfInBounds_toArray, List.set_cons_zero, List.set_cons_succ]
          go_simp
          exact hK.out _ _ (fun j => if j = 7 then true else ℓ j) ⟨x29, x30, x31, x32, x33, x34, x35, .pointer (some ⟨w.heap.size, 18, none⟩), x37, x38, x39, x40, x41, x42, x43, (by simp only [Act.put, List.setIfInBounds_toArray, List.set_cons_zero, List.set_cons_succ]), ⟨(fun g => absurd (hl15.symm.trans g) Bool.false_ne_true), hr.gb, (fun g => absurd (hl15.symm.trans g) Bool.false_ne_true), hr.f0, hr.f1, hr.f2, hr.f3, hr.f4, hr.f5, hr.f6, (fun _ => rfl), hr.f8, hr.f9, hr.f10, hr.f11, hr.f12, hr.f13, hr.f14⟩⟩ (if_pos rfl) (fun j hj => if_neg hj)
        · revert hK
          obtain rfl := Option.some.inj ho
          have g7 : ℓ 7 = true := hdep { on := 7, ground := Ground.data } (by simp) rfl
          clear hdep ho
          have hl15 : ℓ 15 = false := by
            cases h7 : ℓ 15
            · rfl
            · have := (hr.c15 h7).2.2.2.2.2.2.2.2.1; rw [this] at hL; cases hL
          obtain rfl := hr.f7 g7
          have cc := (HT4.out _ (hr.gb hl15)).1.1
          intro hK
          rw [if_pos (by rfl)]
          try simp only [Act.put, List.setIfInBounds_toArray, List.set_cons_zero, List.set_cons_succ]
          go_simp
          exact hK.out _ _ (fun j => if j = 8 then true else ℓ j) ⟨x29, x30, x31, x32, x33, x34, x35, .pointer (some ⟨w.heap.size, 18, none⟩), .slice (some ⟨b1, o1, none⟩) sn sc, x38, x39, x40, x41, x42, x43, (by simp only [Act.put, List.setIfInBounds_toArray, List.set_cons_zero, List.set_cons_succ]), ⟨(fun g => absurd (hl15.symm.trans g) Bool.false_ne_true), hr.gb, (fun g => absurd (hl15.symm.trans g) Bool.false_ne_true), hr.f0, hr.f1, hr.f2, hr.f3, hr.f4, hr.f5, hr.f6, hr.f7, (fun _ => rfl), hr.f9, hr.f10, hr.f11, hr.f12, hr.f13, hr.f14⟩⟩ (if_pos rfl) (fun j hj => if_neg hj)
        · revert hK
          obtain rfl := Option.some.inj ho
          clear hdep ho
          have hl15 : ℓ 15 = false := by
            cases h7 : ℓ 15
            · rfl
            · have := (hr.c15 h7).2.2.2.2.2.2.2.2.2.1; rw [this] at hL; cases hL
          intro hK
          rw [if_pos (by rfl)]
          try simp only [Act.put, List.setIfInBounds_toArray, List.set_cons_zero, List.set_cons_succ]
          go_simp
          exact hK.out _ _ (fun j => if j = 9 then true else ℓ j) ⟨x29, x30, x31, x32, x33, x34, x35, x36, x37, .int .i64 (k : Int), x39, x40, x41, x42, x43, (by simp only [Act.put, List.setIfInBounds_toArray, List.set_cons_zero, List.set_cons_succ]), ⟨(fun g => absurd (hl15.symm.trans g) Bool.false_ne_true), hr.gb, (fun g => absurd (hl15.symm.trans g) Bool.false_ne_true), hr.f0, hr.f1, hr.f2, hr.f3, hr.f4, hr.f5, hr.f6, hr.f7, hr.f8, (fun _ => rfl), hr.f10, hr.f11, hr.f12, hr.f13, hr.f14⟩⟩ (if_pos rfl) (fun j hj => if_neg hj)
        · revert hK
          obtain rfl := Option.some.inj ho
          have g9 : ℓ 9 = true := hdep { on := 9, ground := Ground.data } (by simp) rfl
          clear hdep ho
          have hl15 : ℓ 15 = false := by
            cases h7 : ℓ 15
            · rfl
            · have := (hr.c15 h7).2.2.2.2.2.2.2.2.2.2.1; rw [this] at hL; cases hL
          obtain rfl := hr.f9 g9
          have hwr := HWR.out.2.2
          intro hK
          rw [if_pos (by rfl)]
          try simp only [Act.put, List.setIfInBounds_toArray, List.set_cons_zero, List.set_cons_succ]
          go_simp
          try rw [hwr]
          exact hK.out _ _ (fun j => if j = 10 then true else ℓ j) ⟨x29, x30, x31, x32, x33, x34, x35, x36, x37, .int .i64 (k : Int), .int .i64 ((k : Int) + 1), x40, x41, x42, x43, (by simp only [Act.put, List.setIfInBounds_toArray, List.set_cons_zero, List.set_cons_succ]), ⟨(fun g => absurd (hl15.symm.trans g) Bool.false_ne_true), hr.gb, (fun g => absurd (hl15.symm.trans g) Bool.false_ne_true), hr.f0, hr.f1, hr.f2, hr.f3, hr.f4, hr.f5, hr.f6, hr.f7, hr.f8, hr.f9, (fun _ => rfl), hr.f11, hr.f12, hr.f13, hr.f14⟩⟩ (if_pos rfl) (fun j hj => if_neg hj)
        · replace ho : some ({ dst := some 40, op := Op.slice 31 (Operand.tmp 37) (some (Operand.tmp 39)) none none, type := 31, pos := "l23_plan.go:50", after := #[{ on := 8, ground := Ground.data }, { on := 10, ground := Ground.data }], guard := none } : Oper) = some o := ho
          revert hK
          obtain rfl := Option.some.inj ho
          have g8 : ℓ 8 = true := hdep { on := 8, ground := Ground.data } (by simp) rfl
          have g10 : ℓ 10 = true := hdep { on := 10, ground := Ground.data } (by simp) rfl
          clear hdep ho
          have hl15 : ℓ 15 = false := by
            cases h7 : ℓ 15
            · rfl
            · have := (hr.c15 h7).2.2.2.2.2.2.2.2.2.2.2.1; rw [this] at hL; cases hL
          obtain rfl := hr.f8 g8
          obtain rfl := hr.f10 g10
          intro hK
          rw [if_pos (by rfl)]
          try simp only [Act.put, List.setIfInBounds_toArray, List.set_cons_zero, List.set_cons_succ]
          refine wp_slice_of (.tmp 37) (some (.tmp 39)) none rfl (.slice aR (sn - (k + 1)) (sc - (k + 1))) (some 40) rfl (HSR.out _) ?_
          try simp only [Act.put, List.setIfInBounds_toArray, List.set_cons_zero, List.set_cons_succ]
          exact hK.out _ _ (fun j => if j = 11 then true else ℓ j) ⟨x29, x30, x31, x32, x33, x34, x35, x36, .slice (some ⟨b1, o1, none⟩) sn sc, x38, .int .i64 ((k : Int) + 1), .slice aR (sn - (k + 1)) (sc - (k + 1)), x41, x42, x43, (by simp only [Act.put, List.setIfInBounds_toArray, List.set_cons_zero, List.set_cons_succ]), ⟨(fun g => absurd (hl15.symm.trans g) Bool.false_ne_true), hr.gb, (fun g => absurd (hl15.symm.trans g) Bool.false_ne_true), hr.f0, hr.f1, hr.f2, hr.f3, hr.f4, hr.f5, hr.f6, hr.f7, hr.f8, hr.f9, hr.f10, (fun _ => rfl), hr.f12, hr.f13, hr.f14⟩⟩ (if_pos rfl) (fun j hj => if_neg hj)
        · replace ho : some ({ dst := some 41, op := Op.buildSlice 122 3 #[(0, Operand.tmp 32), (1, Operand.tmp 35), (2, Operand.tmp 40)], type := 122, pos := "l23_plan.go:50", after := #[{ on := 3, ground := Ground.data }, { on := 6, ground := Ground.data }, { on := 11, ground := Ground.data }], guard := none } : Oper) = some o := ho
          revert hK
          obtain rfl := Option.some.inj ho
          have g3 : ℓ 3 = true := hdep { on := 3, ground := Ground.data } (by simp) rfl
          have g6 : ℓ 6 = true := hdep { on := 6, ground := Ground.data } (by simp) rfl
          have g11 : ℓ 11 = true := hdep { on := 11, ground := Ground.data } (by simp) rfl
          clear hdep ho
          have hl15 : ℓ 15 = false := by
            cases h7 : ℓ 15
            · rfl
            · have := (hr.c15 h7).2.2.2.2.2.2.2.2.2.2.2.2.1; rw [this] at hL; cases hL
          obtain rfl := hr.f3 g3
          obtain rfl := hr.f11 g11
          obtain ⟨M, rfl, hM⟩ := hr.f6 g6
          have hb9 : Below w'.heap.size w' (w'.alloc (.cells #[.slice aL k sc, .slice (some ⟨M, 0, none⟩) 2 2, .slice aR (sn - (k + 1)) (sc - (k + 1))] 31)) := (Below.refl _ _).alloc (Nat.le_refl _) _
          intro hK
          rw [if_pos (by rfl)]
          try simp only [Act.put, List.setIfInBounds_toArray, List.set_cons_zero, List.set_cons_succ]
          refine wp_buildSlice 122 31 3 #[(0, .tmp 32), (1, .tmp 35), (2, .tmp 40)] rfl #[.slice aL k sc, .slice (some ⟨M, 0, none⟩) 2 2, .slice aR (sn - (k + 1)) (sc - (k + 1))] iT _ Tryz.underlying122 HIT.out.1 HIT.out.2.1 (by rw [HIT.out.2.2]; decide) (by rw [HIT.out.2.2]; decide) (by rw [HIT.out.2.2, Array.toList_map]; exact Great.fill_flat [.slice aL k sc, .slice (some ⟨M, 0, none⟩) 2 2, .slice aR (sn - (k + 1)) (sc - (k + 1))] _ (fun v hv => by simp only [List.mem_cons, List.not_mem_nil, or_false] at hv; rcases hv with rfl | rfl | rfl <;> rfl) (by simp)) ?_
          try simp only [Act.put, List.setIfInBounds_toArray, List.set_cons_zero, List.set_cons_succ]
          exact hK.out _ _ (fun j => if j = 12 then true else ℓ j) ⟨x29, x30, x31, .slice aL k sc, x33, x34, .slice (some ⟨M, 0, none⟩) 2 2, x36, x37, x38, x39, .slice aR (sn - (k + 1)) (sc - (k + 1)), .slice (some ⟨w'.heap.size, 0, none⟩) 3 3, x42, x43, (by simp only [Act.put, List.setIfInBounds_toArray, List.set_cons_zero, List.set_cons_succ]), ⟨(fun g => absurd (hl15.symm.trans g) Bool.false_ne_true), (fun _ => (hr.gb hl15).trans (hb9.mono (hr.gb hl15).size)), (fun g => absurd (hl15.symm.trans g) Bool.false_ne_true), hr.f0, hr.f1, hr.f2, hr.f3, hr.f4, hr.f5, (fun g => by obtain ⟨M2, e2, h2⟩ := hr.f6 g; exact ⟨M2, e2, fun _ => row_below (h2 hl15) hb9⟩), hr.f7, hr.f8, hr.f9, hr.f10, hr.f11, (fun _ => ⟨M, w'.heap.size, rfl, fun _ => HTH.out _ M _ ((hr.gb hl15).trans (hb9.mono (hr.gb hl15).size)) (row_below (hM hl15) hb9) (new_row w' _ _ _ rfl)⟩), (fun g => by obtain ⟨A2, c2, e2, h2, h3⟩ := hr.f13 g; exact ⟨A2, c2, e2, h2, fun _ => (h3 hl15).below hb9⟩), hr.f14⟩⟩ (if_pos rfl) (fun j hj => if_neg hj)
        · revert hK
          obtain rfl := Option.some.inj ho
          have g12 : ℓ 12 = true := hdep { on := 12, ground := Ground.data } (by simp) rfl
          clear hdep ho
          have hl15 : ℓ 15 = false := by
            cases h7 : ℓ 15
            · rfl
            · have := (hr.c15 h7).2.2.2.2.2.2.2.2.2.2.2.2.2.1; rw [this] at hL; cases hL
          obtain ⟨M, C, rfl, hth⟩ := hr.f12 g12
          have hthr := hth hl15
          have hgb := hr.gb hl15
          intro hK
          rw [if_pos (by rfl)]
          try simp only [Act.put, List.setIfInBounds_toArray, List.set_cons_zero, List.set_cons_succ]
          go_simp
          refine Calls.mono (concat_sl C N _ _ _ Xs w' hthr hN1 hN60) ?_
          rintro e w9 ⟨⟨A', c, rfl, hseg, hcc⟩, hb9⟩
          exact hK.out _ _ (fun j => if j = 13 then true else ℓ j) ⟨x29, x30, x31, x32, x33, x34, x35, x36, x37, x38, x39, x40, .slice (some ⟨C, 0, none⟩) 3 3, .slice A' N c, x43, (by simp only [Act.put, List.setIfInBounds_toArray, List.set_cons_zero, List.set_cons_succ]), ⟨(fun g => absurd (hl15.symm.trans g) Bool.false_ne_true), (fun _ => (hr.gb hl15).trans (hb9.mono (hr.gb hl15).size)), (fun g => absurd (hl15.symm.trans g) Bool.false_ne_true), hr.f0, hr.f1, hr.f2, hr.f3, hr.f4, hr.f5, (fun g => by obtain ⟨M2, e2, h2⟩ := hr.f6 g; exact ⟨M2, e2, fun _ => row_below (h2 hl15) hb9⟩), hr.f7, hr.f8, hr.f9, hr.f10, hr.f11, (fun g => by obtain ⟨M2, C2, e2, h2⟩ := hr.f12 g; exact ⟨M2, C2, e2, fun _ => (h2 hl15).below hb9⟩), (fun _ => ⟨A', c, rfl, hcc, fun _ => hseg.wide hgb.size⟩), hr.f14⟩⟩ (if_pos rfl) (fun j hj => if_neg hj)
        · revert hK
          obtain rfl := Option.some.inj ho
          clear hdep ho
          have hl15 : ℓ 15 = false := by
            cases h7 : ℓ 15
            · rfl
            · have := (hr.c15 h7).2.2.2.2.2.2.2.2.2.2.2.2.2.2; rw [this] at hL; cases hL
          intro hK
          rw [if_pos (by rfl)]
          try simp only [Act.put, List.setIfInBounds_toArray, List.set_cons_zero, List.set_cons_succ]
          go_simp
          exact hK.out _ _ (fun j => if j = 14 then true else ℓ j) ⟨x29, x30, x31, x32, x33, x34, x35, x36, x37, x38, x39, x40, x41, x42, .pointer (some ⟨w.heap.size, 18, none⟩), (by simp only [Act.put, List.setIfInBounds_toArray, List.set_cons_zero, List.set_cons_succ]), ⟨(fun g => absurd (hl15.symm.trans g) Bool.false_ne_true), hr.gb, (fun g => absurd (hl15.symm.trans g) Bool.false_ne_true), hr.f0, hr.f1, hr.f2, hr.f3, hr.f4, hr.f5, hr.f6, hr.f7, hr.f8, hr.f9, hr.f10, hr.f11, hr.f12, hr.f13, (fun _ => rfl)⟩⟩ (if_pos rfl) (fun j hj => if_neg hj)
        · revert hK
          obtain rfl := Option.some.inj ho
          have g14 : ℓ 14 = true := hdep { on := 14, ground := Ground.data } (by simp) rfl
          have g13 : ℓ 13 = true := hdep { on := 13, ground := Ground.data } (by simp) rfl
          have g0 : ℓ 0 = true := hdep { on := 0, ground := Ground.phase } (by simp) rfl
          have g1 : ℓ 1 = true := hdep { on := 1, ground := Ground.phase } (by simp) rfl
          have g2 : ℓ 2 = true := hdep { on := 2, ground := Ground.phase } (by simp) rfl
          have g3 : ℓ 3 = true := hdep { on := 3, ground := Ground.phase } (by simp) rfl
          have g4 : ℓ 4 = true := hdep { on := 4, ground := Ground.phase } (by simp) rfl
          have g5 : ℓ 5 = true := hdep { on := 5, ground := Ground.phase } (by simp) rfl
          have g6 : ℓ 6 = true := hdep { on := 6, ground := Ground.phase } (by simp) rfl
          have g7 : ℓ 7 = true := hdep { on := 7, ground := Ground.phase } (by simp) rfl
          have g8 : ℓ 8 = true := hdep { on := 8, ground := Ground.phase } (by simp) rfl
          have g9 : ℓ 9 = true := hdep { on := 9, ground := Ground.phase } (by simp) rfl
          have g10 : ℓ 10 = true := hdep { on := 10, ground := Ground.phase } (by simp) rfl
          have g11 : ℓ 11 = true := hdep { on := 11, ground := Ground.phase } (by simp) rfl
          have g12 : ℓ 12 = true := hdep { on := 12, ground := Ground.phase } (by simp) rfl
          clear hdep ho
          obtain rfl := hr.f14 g14
          obtain ⟨A', c, rfl, hcc, hseg⟩ := hr.f13 g13
          have cc := (HT4.out _ (hr.gb hL)).1.1
          have cf := (HT4.out _ (hr.gb hL)).1.2
          intro hK
          rw [if_pos (by rfl)]
          try simp only [Act.put, List.setIfInBounds_toArray, List.set_cons_zero, List.set_cons_succ]
          go_simp
          exact hK.out _ _ (fun j => if j = 15 then true else ℓ j) ⟨x29, x30, x31, x32, x33, x34, x35, x36, x37, x38, x39, x40, x41, .slice A' N c, .pointer (some ⟨w.heap.size, 18, none⟩), (by simp only [Act.put, List.setIfInBounds_toArray, List.set_cons_zero, List.set_cons_succ]), ⟨(fun _ => ⟨g0, g1, g2, g3, g4, g5, g6, g7, g8, g9, g10, g11, g12, g13, g14⟩), (fun g => by cases g), (fun _ => ⟨w', A', c, hr.gb hL, hseg hL, hcc, rfl⟩), hr.f0, hr.f1, hr.f2, hr.f3, hr.f4, hr.f5, (fun g => by obtain ⟨M2, e2, h2⟩ := hr.f6 g; exact ⟨M2, e2, fun q => by cases q⟩), hr.f7, hr.f8, hr.f9, hr.f10, hr.f11, (fun g => by obtain ⟨M2, C2, e2, h2⟩ := hr.f12 g; exact ⟨M2, C2, e2, fun q => by cases q⟩), (fun _ => ⟨A', c, rfl, hcc, fun q => by cases q⟩), hr.f14⟩⟩ (if_pos rfl) (fun j hj => if_neg hj)
      · rintro a' w' ℓ ℓ' hℓ hI
        rw [← show ℓ = ℓ' from funext hℓ]
        exact hI
    · intro ℓ a' w' q o hI ho hi hL hdep K hK
      obtain ⟨V, x21, x22, x23, x24, x25, x26, x27, x28, rfl, hr⟩ := hI
      have hi7 : q < 10 := hi
      have hcs : q = 0 ∨ q = 1 ∨ q = 2 ∨ q = 3 ∨ q = 4 ∨ q = 5 ∨ q = 6 ∨ q = 7 ∨ q = 8 ∨ q = 9 := by omega
      clear hi hi7
      rcases hcs with rfl | rfl | rfl | rfl | rfl | rfl | rfl | rfl | rfl | rfl
      · revert hK
        obtain rfl := Option.some.inj ho
        clear hdep ho
        have hl7 : ℓ 7 = false := by
          cases h7 : ℓ 7
          · rfl
          · have := (hr.c7 h7).1; rw [this] at hL; cases hL
        have hwv := hr.v0 hl7
        have q := (HQ.out _ hr.gb).1
        rw [← hwv] at q
        have cc0 := q.1
        have cc1 := q.2.1
        have cc2 := q.2.2
        clear q hwv
        intro hK
        rw [if_pos (by rfl)]
        try simp only [Act.put, List.setIfInBounds_toArray, List.set_cons_zero, List.set_cons_succ]
        go_simp
        exact hK.out _ _ (fun j => if j = 0 then true else ℓ j) ⟨V, .agg #[.int .i64 z1, .int .i64 z2, .int .i64 f], x22, x23, x24, x25, x26, x27, x28, (by simp only [Act.put, List.setIfInBounds_toArray, List.set_cons_zero, List.set_cons_succ]), ⟨(fun g => ⟨rfl, (hr.c7 g).2.1, (hr.c7 g).2.2.1, (hr.c7 g).2.2.2⟩), hr.c9, hr.gb, hr.v0, hr.v1, hr.v2, (fun _ => rfl), hr.f1, hr.f2, hr.f3, hr.f4, hr.f5, hr.f6, hr.f8⟩⟩ (if_pos rfl) (fun j hj => if_neg hj)
      · revert hK
        obtain rfl := Option.some.inj ho
        have g0 : ℓ 0 = true := hdep { on := 0, ground := Ground.data } (by simp) rfl
        clear hdep ho
        have hl7 : ℓ 7 = false := by
          cases h7 : ℓ 7
          · rfl
          · have := (hr.c7 h7).2.1; rw [this] at hL; cases hL
        obtain rfl := hr.f0 g0
        obtain rfl := hr.v0 hl7
        have hbV := hr.gb
        intro hK
        rw [if_pos (by rfl)]
        try simp only [Act.put, List.setIfInBounds_toArray, List.set_cons_zero, List.set_cons_succ]
        go_simp
        refine Calls.mono (HE.out _) ?_
        rintro e w9 ⟨rfl, hb9⟩
        have hb9' : Below WB.heap.size WB w9 := hbV.trans (hb9.mono hbV.size)
        exact hK.out _ _ (fun j => if j = 1 then true else ℓ j) ⟨w9, .agg #[.int .i64 z1, .int .i64 z2, .int .i64 f], .int .i64 (z2 + f), x23, x24, x25, x26, x27, x28, (by simp only [Act.put, List.setIfInBounds_toArray, List.set_cons_zero, List.set_cons_succ]), ⟨(fun g => ⟨(hr.c7 g).1, rfl, (hr.c7 g).2.2.1, (hr.c7 g).2.2.2⟩), hr.c9, hb9', (fun _ => rfl), (fun g => absurd (hl7.symm.trans g) Bool.false_ne_true), (fun g => absurd (hl7.symm.trans (hr.c9 g)) Bool.false_ne_true), hr.f0, (fun _ => rfl), hr.f2, hr.f3, hr.f4, hr.f5, hr.f6, hr.f8⟩⟩ (if_pos rfl) (fun j hj => if_neg hj)
      · revert hK
        obtain rfl := Option.some.inj ho
        clear hdep ho
        have hl7 : ℓ 7 = false := by
          cases h7 : ℓ 7
          · rfl
          · have := (hr.c7 h7).2.2.1; rw [this] at hL; cases hL
        intro hK
        rw [if_pos (by rfl)]
        try simp only [Act.put, List.setIfInBounds_toArray, List.set_cons_zero, List.set_cons_succ]
        go_simp
        exact hK.out _ _ (fun j => if j = 2 then true else ℓ j) ⟨V, x21, x22, .pointer (some ⟨N2, 2, none⟩), x24, x25, x26, x27, x28, (by simp only [Act.put, List.setIfInBounds_toArray, List.set_cons_zero, List.set_cons_succ]), ⟨(fun g => ⟨(hr.c7 g).1, (hr.c7 g).2.1, rfl, (hr.c7 g).2.2.2⟩), hr.c9, hr.gb, hr.v0, hr.v1, hr.v2, hr.f0, hr.f1, (fun _ => rfl), hr.f3, hr.f4, hr.f5, hr.f6, hr.f8⟩⟩ (if_pos rfl) (fun j hj => if_neg hj)
      · revert hK
        obtain rfl := Option.some.inj ho
        have g2 : ℓ 2 = true := hdep { on := 2, ground := Ground.data } (by simp) rfl
        clear hdep ho
        have hl7 : ℓ 7 = false := by
          cases h7 : ℓ 7
          · rfl
          · have := (hr.c7 h7).2.2.2; rw [this] at hL; cases hL
        obtain rfl := hr.f2 g2
        have hwv := hr.v0 hl7
        have cc := (HQ.out _ hr.gb).2.2.1
        rw [← hwv] at cc
        clear hwv
        intro hK
        rw [if_pos (by rfl)]
        try simp only [Act.put, List.setIfInBounds_toArray, List.set_cons_zero, List.set_cons_succ]
        go_simp
        exact hK.out _ _ (fun j => if j = 3 then true else ℓ j) ⟨V, x21, x22, .pointer (some ⟨N2, 2, none⟩), .int .i64 z3, x25, x26, x27, x28, (by simp only [Act.put, List.setIfInBounds_toArray, List.set_cons_zero, List.set_cons_succ]), ⟨(fun g => ⟨(hr.c7 g).1, (hr.c7 g).2.1, (hr.c7 g).2.2.1, rfl⟩), hr.c9, hr.gb, hr.v0, hr.v1, hr.v2, hr.f0, hr.f1, hr.f2, (fun _ => rfl), hr.f4, hr.f5, hr.f6, hr.f8⟩⟩ (if_pos rfl) (fun j hj => if_neg hj)
      · revert hK
        obtain rfl := Option.some.inj ho
        clear hdep ho
        intro hK
        rw [if_pos (by rfl)]
        try simp only [Act.put, List.setIfInBounds_toArray, List.set_cons_zero, List.set_cons_succ]
        go_simp
        exact hK.out _ _ (fun j => if j = 4 then true else ℓ j) ⟨V, x21, x22, x23, x24, .int .i64 f, x26, x27, x28, (by simp only [Act.put, List.setIfInBounds_toArray, List.set_cons_zero, List.set_cons_succ]), ⟨hr.c7, hr.c9, hr.gb, hr.v0, hr.v1, hr.v2, hr.f0, hr.f1, hr.f2, hr.f3, (fun _ => rfl), hr.f5, hr.f6, hr.f8⟩⟩ (if_pos rfl) (fun j hj => if_neg hj)
      · revert hK
        obtain rfl := Option.some.inj ho
        have g3 : ℓ 3 = true := hdep { on := 3, ground := Ground.data } (by simp) rfl
        have g4 : ℓ 4 = true := hdep { on := 4, ground := Ground.data } (by simp) rfl
        clear hdep ho
        obtain rfl := hr.f3 g3
        obtain rfl := hr.f4 g4
        have hwr := HWR.out.2.1
        intro hK
        rw [if_pos (by rfl)]
        try simp only [Act.put, List.setIfInBounds_toArray, List.set_cons_zero, List.set_cons_succ]
        go_simp
        try rw [hwr]
        exact hK.out _ _ (fun j => if j = 5 then true else ℓ j) ⟨V, x21, x22, x23, .int .i64 z3, .int .i64 f, .int .i64 (z3 - f), x27, x28, (by simp only [Act.put, List.setIfInBounds_toArray, List.set_cons_zero, List.set_cons_succ]), ⟨hr.c7, hr.c9, hr.gb, hr.v0, hr.v1, hr.v2, hr.f0, hr.f1, hr.f2, hr.f3, hr.f4, (fun _ => rfl), hr.f6, hr.f8⟩⟩ (if_pos rfl) (fun j hj => if_neg hj)
      · revert hK
        obtain rfl := Option.some.inj ho
        clear hdep ho
        intro hK
        rw [if_pos (by rfl)]
        try simp only [Act.put, List.setIfInBounds_toArray, List.set_cons_zero, List.set_cons_succ]
        go_simp
        exact hK.out _ _ (fun j => if j = 6 then true else ℓ j) ⟨V, x21, x22, x23, x24, x25, x26, .pointer (some ⟨N2, 1, none⟩), x28, (by simp only [Act.put, List.setIfInBounds_toArray, List.set_cons_zero, List.set_cons_succ]), ⟨hr.c7, hr.c9, hr.gb, hr.v0, hr.v1, hr.v2, hr.f0, hr.f1, hr.f2, hr.f3, hr.f4, hr.f5, (fun _ => rfl), hr.f8⟩⟩ (if_pos rfl) (fun j hj => if_neg hj)
      · revert hK
        obtain rfl := Option.some.inj ho
        have g6 : ℓ 6 = true := hdep { on := 6, ground := Ground.data } (by simp) rfl
        have g1 : ℓ 1 = true := hdep { on := 1, ground := Ground.data } (by simp) rfl
        have g0 : ℓ 0 = true := hdep { on := 0, ground := Ground.phase } (by simp) rfl
        have g2 : ℓ 2 = true := hdep { on := 2, ground := Ground.phase } (by simp) rfl
        have g3 : ℓ 3 = true := hdep { on := 3, ground := Ground.phase } (by simp) rfl
        clear hdep ho
        obtain rfl := hr.f6 g6
        obtain rfl := hr.f1 g1
        obtain rfl := hr.v0 hL
        have hl9 : ℓ 9 = false := by
          cases h7 : ℓ 9
          · rfl
          · have := hr.c9 h7; rw [this] at hL; cases hL
        have q := (HQ.out _ hr.gb).2
        have cc := q.1
        have cf := q.2.2.1
        clear q
        intro hK
        rw [if_pos (by rfl)]
        try simp only [Act.put, List.setIfInBounds_toArray, List.set_cons_zero, List.set_cons_succ]
        go_simp
        exact hK.out _ _ (fun j => if j = 7 then true else ℓ j) ⟨w', x21, .int .i64 (z2 + f), x23, x24, x25, x26, .pointer (some ⟨N2, 1, none⟩), x28, (by simp only [Act.put, List.setIfInBounds_toArray, List.set_cons_zero, List.set_cons_succ]), ⟨(fun _ => ⟨g0, g1, g2, g3⟩), (fun _ => rfl), hr.gb, (fun g => by cases g), (fun _ _ => rfl), (fun g => absurd (hl9.symm.trans g) Bool.false_ne_true), hr.f0, hr.f1, hr.f2, hr.f3, hr.f4, hr.f5, hr.f6, hr.f8⟩⟩ (if_pos rfl) (fun j hj => if_neg hj)
      · revert hK
        obtain rfl := Option.some.inj ho
        clear hdep ho
        intro hK
        rw [if_pos (by rfl)]
        try simp only [Act.put, List.setIfInBounds_toArray, List.set_cons_zero, List.set_cons_succ]
        go_simp
        exact hK.out _ _ (fun j => if j = 8 then true else ℓ j) ⟨V, x21, x22, x23, x24, x25, x26, x27, .pointer (some ⟨N2, 2, none⟩), (by simp only [Act.put, List.setIfInBounds_toArray, List.set_cons_zero, List.set_cons_succ]), ⟨hr.c7, hr.c9, hr.gb, hr.v0, hr.v1, hr.v2, hr.f0, hr.f1, hr.f2, hr.f3, hr.f4, hr.f5, hr.f6, (fun _ => rfl)⟩⟩ (if_pos rfl) (fun j hj => if_neg hj)
      · revert hK
        obtain rfl := Option.some.inj ho
        have g8 : ℓ 8 = true := hdep { on := 8, ground := Ground.data } (by simp) rfl
        have g5 : ℓ 5 = true := hdep { on := 5, ground := Ground.data } (by simp) rfl
        have g7 : ℓ 7 = true := hdep { on := 7, ground := Ground.chain } (by simp) rfl
        clear hdep ho
        obtain rfl := hr.f8 g8
        obtain rfl := hr.f5 g5
        obtain rfl := hr.v1 g7 hL
        have q := (HQ.out _ hr.gb).2
        have cc0 := q.2.1
        have cf0 := q.2.2.2
        have cc : (V.setCell ⟨N2, 1, none⟩ (.int .i64 (z2 + f))).cell? ⟨N2, 2, none⟩ = some (.int .i64 z3) := by rw [World.cell?_setCell_other _ _ _ _ (by simp)]; exact cc0
        have cf : (V.setCell ⟨N2, 1, none⟩ (.int .i64 (z2 + f))).frozen? ⟨N2, 2, none⟩ = false := by simpa using cf0
        clear q cc0 cf0
        intro hK
        rw [if_pos (by rfl)]
        try simp only [Act.put, List.setIfInBounds_toArray, List.set_cons_zero, List.set_cons_succ]
        go_simp
        exact hK.out _ _ (fun j => if j = 9 then true else ℓ j) ⟨V, x21, x22, x23, x24, x25, .int .i64 (z3 - f), x27, .pointer (some ⟨N2, 2, none⟩), (by simp only [Act.put, List.setIfInBounds_toArray, List.set_cons_zero, List.set_cons_succ]), ⟨hr.c7, (fun _ => g7), hr.gb, (fun g => by have g2 : ℓ 7 = false := g; rw [g7] at g2; cases g2), (fun _ g => by cases g), (fun _ => rfl), hr.f0, hr.f1, hr.f2, hr.f3, hr.f4, hr.f5, hr.f6, hr.f8⟩⟩ (if_pos rfl) (fun j hj => if_neg hj)
    · rintro a' w' ℓ ℓ' hℓ hI
      rw [← show ℓ = ℓ' from funext hℓ]
      exact hI
  · intro ℓ a' w' q o hI ho hi hL hdep K hK
    obtain ⟨N1, N2, x9, x10, x11, x12, x13, x14, x15, x16, x17, x18, x7, x8, rfl, hr⟩ := hI
    have hi7 : q < 14 := hi
    have hcs : q = 0 ∨ q = 1 ∨ q = 2 ∨ q = 3 ∨ q = 4 ∨ q = 5 ∨ q = 6 ∨ q = 7 ∨ q = 8 ∨ q = 9 ∨ q = 10 ∨ q = 11 ∨ q = 12 ∨ q = 13 := by omega
    clear hi hi7
    rcases hcs with rfl | rfl | rfl | rfl | rfl | rfl | rfl | rfl | rfl | rfl | rfl | rfl | rfl | rfl
    · revert hK
      obtain rfl := Option.some.inj ho
      clear hdep ho
      intro hK
      rw [if_pos (by rfl)]
      try simp only [Act.put, List.setIfInBounds_toArray, List.set_cons_zero, List.set_cons_succ]
      go_simp
      exact hK.out _ _ (fun j => if j = 0 then true else ℓ j) ⟨N1, N2, .pointer (some ⟨w.heap.size, 18, none⟩), x10, x11, x12, x13, x14, x15, x16, x17, x18, x7, x8, (by simp only [Act.put, List.setIfInBounds_toArray, List.set_cons_zero, List.set_cons_succ]), ⟨hr.c12, hr.c13, hr.gb, hr.ne, (fun _ => rfl), hr.f1, hr.f2, hr.f3, hr.f4, hr.f5, hr.f6, hr.f7, hr.f8, hr.f9, hr.f10, hr.f11⟩⟩ (if_pos rfl) (fun j hj => if_neg hj)
    · revert hK
      obtain rfl := Option.some.inj ho
      have g0 : ℓ 0 = true := hdep { on := 0, ground := Ground.data } (by simp) rfl
      clear hdep ho
      obtain rfl := hr.f0 g0
      have cc := (HTX.out _ hr.gb).1
      intro hK
      rw [if_pos (by rfl)]
      try simp only [Act.put, List.setIfInBounds_toArray, List.set_cons_zero, List.set_cons_succ]
      go_simp
      exact hK.out _ _ (fun j => if j = 1 then true else ℓ j) ⟨N1, N2, .pointer (some ⟨w.heap.size, 18, none⟩), .slice (some ⟨b1, o1, none⟩) sn sc, x11, x12, x13, x14, x15, x16, x17, x18, x7, x8, (by simp only [Act.put, List.setIfInBounds_toArray, List.set_cons_zero, List.set_cons_succ]), ⟨hr.c12, hr.c13, hr.gb, hr.ne, hr.f0, (fun _ => rfl), hr.f2, hr.f3, hr.f4, hr.f5, hr.f6, hr.f7, hr.f8, hr.f9, hr.f10, hr.f11⟩⟩ (if_pos rfl) (fun j hj => if_neg hj)
    · revert hK
      obtain rfl := Option.some.inj ho
      clear hdep ho
      intro hK
      rw [if_pos (by rfl)]
      try simp only [Act.put, List.setIfInBounds_toArray, List.set_cons_zero, List.set_cons_succ]
      go_simp
      exact hK.out _ _ (fun j => if j = 2 then true else ℓ j) ⟨N1, N2, x9, x10, .int .i64 (k : Int), x12, x13, x14, x15, x16, x17, x18, x7, x8, (by simp only [Act.put, List.setIfInBounds_toArray, List.set_cons_zero, List.set_cons_succ]), ⟨hr.c12, hr.c13, hr.gb, hr.ne, hr.f0, hr.f1, (fun _ => rfl), hr.f3, hr.f4, hr.f5, hr.f6, hr.f7, hr.f8, hr.f9, hr.f10, hr.f11⟩⟩ (if_pos rfl) (fun j hj => if_neg hj)
    · revert hK
      obtain rfl := Option.some.inj ho
      have g1 : ℓ 1 = true := hdep { on := 1, ground := Ground.data } (by simp) rfl
      have g2 : ℓ 2 = true := hdep { on := 2, ground := Ground.data } (by simp) rfl
      clear hdep ho
      obtain rfl := hr.f1 g1
      obtain rfl := hr.f2 g2
      intro hK
      rw [if_pos (by rfl)]
      try simp only [Act.put, List.setIfInBounds_toArray, List.set_cons_zero, List.set_cons_succ]
      go_simp
      exact hK.out _ _ (fun j => if j = 3 then true else ℓ j) ⟨N1, N2, x9, .slice (some ⟨b1, o1, none⟩) sn sc, .int .i64 (k : Int), .pointer (some ⟨b1, o1 + k * 3, none⟩), x13, x14, x15, x16, x17, x18, x7, x8, (by simp only [Act.put, List.setIfInBounds_toArray, List.set_cons_zero, List.set_cons_succ]), ⟨hr.c12, hr.c13, hr.gb, hr.ne, hr.f0, hr.f1, hr.f2, (fun _ => rfl), hr.f4, hr.f5, hr.f6, hr.f7, hr.f8, hr.f9, hr.f10, hr.f11⟩⟩ (if_pos rfl) (fun j hj => if_neg hj)
    · revert hK
      obtain rfl := Option.some.inj ho
      have g3 : ℓ 3 = true := hdep { on := 3, ground := Ground.data } (by simp) rfl
      clear hdep ho
      obtain rfl := hr.f3 g3
      have cc := HTX.out _ hr.gb
      have cc0 := cc.2.1
      have cc1 := cc.2.2.1
      have cc2 := cc.2.2.2
      intro hK
      rw [if_pos (by rfl)]
      try simp only [Act.put, List.setIfInBounds_toArray, List.set_cons_zero, List.set_cons_succ]
      go_simp
      exact hK.out _ _ (fun j => if j = 4 then true else ℓ j) ⟨N1, N2, x9, x10, x11, .pointer (some ⟨b1, o1 + k * 3, none⟩), .agg #[.int .i64 z1, .int .i64 z2, .int .i64 z3], x14, x15, x16, x17, x18, x7, x8, (by simp only [Act.put, List.setIfInBounds_toArray, List.set_cons_zero, List.set_cons_succ]), ⟨hr.c12, hr.c13, hr.gb, hr.ne, hr.f0, hr.f1, hr.f2, hr.f3, (fun _ => rfl), hr.f5, hr.f6, hr.f7, hr.f8, hr.f9, hr.f10, hr.f11⟩⟩ (if_pos rfl) (fun j hj => if_neg hj)
    · revert hK
      obtain rfl := Option.some.inj ho
      clear hdep ho
      intro hK
      rw [if_pos (by rfl)]
      try simp only [Act.put, List.setIfInBounds_toArray, List.set_cons_zero, List.set_cons_succ]
      go_simp
      exact hK.out _ _ (fun j => if j = 5 then true else ℓ j) ⟨N1, N2, x9, x10, x11, x12, x13, .pointer (some ⟨w.heap.size, 18, none⟩), x15, x16, x17, x18, x7, x8, (by simp only [Act.put, List.setIfInBounds_toArray, List.set_cons_zero, List.set_cons_succ]), ⟨hr.c12, hr.c13, hr.gb, hr.ne, hr.f0, hr.f1, hr.f2, hr.f3, hr.f4, (fun _ => rfl), hr.f6, hr.f7, hr.f8, hr.f9, hr.f10, hr.f11⟩⟩ (if_pos rfl) (fun j hj => if_neg hj)
    · revert hK
      obtain rfl := Option.some.inj ho
      have g5 : ℓ 5 = true := hdep { on := 5, ground := Ground.data } (by simp) rfl
      clear hdep ho
      obtain rfl := hr.f5 g5
      have cc := (HTX.out _ hr.gb).1
      intro hK
      rw [if_pos (by rfl)]
      try simp only [Act.put, List.setIfInBounds_toArray, List.set_cons_zero, List.set_cons_succ]
      go_simp
      exact hK.out _ _ (fun j => if j = 6 then true else ℓ j) ⟨N1, N2, x9, x10, x11, x12, x13, .pointer (some ⟨w.heap.size, 18, none⟩), .slice (some ⟨b1, o1, none⟩) sn sc, x16, x17, x18, x7, x8, (by simp only [Act.put, List.setIfInBounds_toArray, List.set_cons_zero, List.set_cons_succ]), ⟨hr.c12, hr.c13, hr.gb, hr.ne, hr.f0, hr.f1, hr.f2, hr.f3, hr.f4, hr.f5, (fun _ => rfl), hr.f7, hr.f8, hr.f9, hr.f10, hr.f11⟩⟩ (if_pos rfl) (fun j hj => if_neg hj)
    · revert hK
      obtain rfl := Option.some.inj ho
      clear hdep ho
      intro hK
      rw [if_pos (by rfl)]
      try simp only [Act.put, List.setIfInBounds_toArray, List.set_cons_zero, List.set_cons_succ]
      go_simp
      exact hK.out _ _ (fun j => if j = 7 then true else ℓ j) ⟨N1, N2, x9, x10, x11, x12, x13, x14, x15, .int .i64 (k : Int), x17, x18, x7, x8, (by simp only [Act.put, List.setIfInBounds_toArray, List.set_cons_zero, List.set_cons_succ]), ⟨hr.c12, hr.c13, hr.gb, hr.ne, hr.f0, hr.f1, hr.f2, hr.f3, hr.f4, hr.f5, hr.f6, (fun _ => rfl), hr.f8, hr.f9, hr.f10, hr.f11⟩⟩ (if_pos rfl) (fun j hj => if_neg hj)
    · revert hK
      obtain rfl := Option.some.inj ho
      have g6 : ℓ 6 = true := hdep { on := 6, ground := Ground.data } (by simp) rfl
      have g7 : ℓ 7 = true := hdep { on := 7, ground := Ground.data } (by simp) rfl
      clear hdep ho
      obtain rfl := hr.f6 g6
      obtain rfl := hr.f7 g7
      intro hK
      rw [if_pos (by rfl)]
      try simp only [Act.put, List.setIfInBounds_toArray, List.set_cons_zero, List.set_cons_succ]
      go_simp
      exact hK.out _ _ (fun j => if j = 8 then true else ℓ j) ⟨N1, N2, x9, x10, x11, x12, x13, x14, .slice (some ⟨b1, o1, none⟩) sn sc, .int .i64 (k : Int), .pointer (some ⟨b1, o1 + k * 3, none⟩), x18, x7, x8, (by simp only [Act.put, List.setIfInBounds_toArray, List.set_cons_zero, List.set_cons_succ]), ⟨hr.c12, hr.c13, hr.gb, hr.ne, hr.f0, hr.f1, hr.f2, hr.f3, hr.f4, hr.f5, hr.f6, hr.f7, (fun _ => rfl), hr.f9, hr.f10, hr.f11⟩⟩ (if_pos rfl) (fun j hj => if_neg hj)
    · revert hK
      obtain rfl := Option.some.inj ho
      have g8 : ℓ 8 = true := hdep { on := 8, ground := Ground.data } (by simp) rfl
      clear hdep ho
      obtain rfl := hr.f8 g8
      have cc := HTX.out _ hr.gb
      have cc0 := cc.2.1
      have cc1 := cc.2.2.1
      have cc2 := cc.2.2.2
      intro hK
      rw [if_pos (by rfl)]
      try simp only [Act.put, List.setIfInBounds_toArray, List.set_cons_zero, List.set_cons_succ]
      go_simp
      exact hK.out _ _ (fun j => if j = 9 then true else ℓ j) ⟨N1, N2, x9, x10, x11, x12, x13, x14, x15, x16, .pointer (some ⟨b1, o1 + k * 3, none⟩), .agg #[.int .i64 z1, .int .i64 z2, .int .i64 z3], x7, x8, (by simp only [Act.put, List.setIfInBounds_toArray, List.set_cons_zero, List.set_cons_succ]), ⟨hr.c12, hr.c13, hr.gb, hr.ne, hr.f0, hr.f1, hr.f2, hr.f3, hr.f4, hr.f5, hr.f6, hr.f7, hr.f8, (fun _ => rfl), hr.f10, hr.f11⟩⟩ (if_pos rfl) (fun j hj => if_neg hj)
    · revert hK
      obtain rfl := Option.some.inj ho
      clear hdep ho
      have hl12 : ℓ 12 = false := by
        cases h7 : ℓ 12
        · rfl
        · have := (hr.c12 h7).1; rw [this] at hL; cases hL
      have hb9 : Below w'.heap.size w' (w'.alloc (.cells #[.int .i64 0, .int .i64 0, .int .i64 0] 42)) := (Below.refl _ _).alloc (Nat.le_refl _) _
      intro hK
      rw [if_pos (by rfl)]
      try simp only [Act.put, List.setIfInBounds_toArray, List.set_cons_zero, List.set_cons_succ]
      go_simp
      exact hK.out _ _ (fun j => if j = 10 then true else ℓ j) ⟨w'.heap.size, N2, x9, x10, x11, x12, x13, x14, x15, x16, x17, x18, .pointer (some ⟨w'.heap.size, 0, none⟩), x8, (by simp only [Act.put, List.setIfInBounds_toArray, List.set_cons_zero, List.set_cons_succ]), ⟨(fun g => absurd (hl12.symm.trans g) Bool.false_ne_true), hr.c13, hr.gb.trans (hb9.mono hr.gb.size), (fun _ g e => by have h := (hr.f11 g).2.2; cases h13 : ℓ 13 <;> (first | (have q := (Array.getElem?_eq_some_iff.1 (h.1 h13)).1; omega) | (have q := (Array.getElem?_eq_some_iff.1 (h.2 h13)).1; omega))), hr.f0, hr.f1, hr.f2, hr.f3, hr.f4, hr.f5, hr.f6, hr.f7, hr.f8, hr.f9, (fun _ => ⟨rfl, hr.gb.size, fun _ => new_row w' _ _ _ rfl, fun g => absurd (hl12.symm.trans g) Bool.false_ne_true⟩), (fun g => ⟨(hr.f11 g).1, (hr.f11 g).2.1, fun s => row_below ((hr.f11 g).2.2.1 s) hb9, fun s => row_below ((hr.f11 g).2.2.2 s) hb9⟩)⟩⟩ (if_pos rfl) (fun j hj => if_neg hj)
    · revert hK
      obtain rfl := Option.some.inj ho
      clear hdep ho
      have hl12 : ℓ 12 = false := by
        cases h7 : ℓ 12
        · rfl
        · have := (hr.c12 h7).2; rw [this] at hL; cases hL
      have hl13 : ℓ 13 = false := by
        cases h7 : ℓ 13
        · rfl
        · have := hr.c13 h7; rw [this] at hl12; cases hl12
      have hb9 : Below w'.heap.size w' (w'.alloc (.cells #[.int .i64 0, .int .i64 0, .int .i64 0] 42)) := (Below.refl _ _).alloc (Nat.le_refl _) _
      intro hK
      rw [if_pos (by rfl)]
      try simp only [Act.put, List.setIfInBounds_toArray, List.set_cons_zero, List.set_cons_succ]
      go_simp
      exact hK.out _ _ (fun j => if j = 11 then true else ℓ j) ⟨N1, w'.heap.size, x9, x10, x11, x12, x13, x14, x15, x16, x17, x18, x7, .pointer (some ⟨w'.heap.size, 0, none⟩), (by simp only [Act.put, List.setIfInBounds_toArray, List.set_cons_zero, List.set_cons_succ]), ⟨(fun g => absurd (hl12.symm.trans g) Bool.false_ne_true), hr.c13, hr.gb.trans (hb9.mono hr.gb.size), (fun g _ e => by have q := (Array.getElem?_eq_some_iff.1 ((hr.f10 g).2.2.1 hl12)).1; omega), hr.f0, hr.f1, hr.f2, hr.f3, hr.f4, hr.f5, hr.f6, hr.f7, hr.f8, hr.f9, (fun g => ⟨(hr.f10 g).1, (hr.f10 g).2.1, fun s => row_below ((hr.f10 g).2.2.1 s) hb9, fun s => row_below ((hr.f10 g).2.2.2 s) hb9⟩), (fun _ => ⟨rfl, hr.gb.size, fun _ => new_row w' _ _ _ rfl, fun g => absurd (hl13.symm.trans g) Bool.false_ne_true⟩)⟩⟩ (if_pos rfl) (fun j hj => if_neg hj)
    · replace ho : some ({ dst := none, op := Op.store 42 (Operand.tmp 7) (Operand.tmp 13), type := 0, pos := "l23_plan.go:47", after := #[{ on := 10, ground := Ground.data }, { on := 4, ground := Ground.data }, { on := 0, ground := Ground.phase }, { on := 1, ground := Ground.phase }, { on := 2, ground := Ground.phase }, { on := 3, ground := Ground.phase }, { on := 4, ground := Ground.phase }, { on := 5, ground := Ground.textOnly Departure.lateStores }, { on := 6, ground := Ground.textOnly Departure.lateStores }, { on := 7, ground := Ground.textOnly Departure.lateStores }, { on := 8, ground := Ground.textOnly Departure.lateStores }, { on := 9, ground := Ground.textOnly Departure.lateStores }, { on := 10, ground := Ground.phase }, { on := 11, ground := Ground.phase }], guard := none } : Oper) = some o := ho
      revert hK
      obtain rfl := Option.some.inj ho
      have g10 : ℓ 10 = true := hdep { on := 10, ground := Ground.data } (by simp) rfl
      have g4 : ℓ 4 = true := hdep { on := 4, ground := Ground.data } (by simp) rfl
      have g11 : ℓ 11 = true := hdep { on := 11, ground := Ground.phase } (by simp) rfl
      clear hdep ho
      obtain ⟨rfl, hn1, hz1, _⟩ := hr.f10 g10
      obtain rfl := hr.f4 g4
      have hne := hr.ne g10 g11
      have hrow := hz1 hL
      have hl13 : ℓ 13 = false := by
        cases h7 : ℓ 13
        · rfl
        · have := hr.c13 h7; rw [this] at hL; cases hL
      intro hK
      rw [if_pos (by rfl)]
      try simp only [Act.put, List.setIfInBounds_toArray, List.set_cons_zero, List.set_cons_succ]
      refine wp_store_row (P := Tryz.prog) 42 (.tmp 7) (.tmp 13) rfl N1 #[.int .i64 z1, .int .i64 z2, .int .i64 z3] rfl rfl 42 #[.int .i64 0, .int .i64 0, .int .i64 0] hrow (by kernel_rfl) rfl (by simp [Value.oneCell']) ?_
      exact hK.out _ _ (fun j => if j = 12 then true else ℓ j) ⟨N1, N2, x9, x10, x11, x12, .agg #[.int .i64 z1, .int .i64 z2, .int .i64 z3], x14, x15, x16, x17, x18, .pointer (some ⟨N1, 0, none⟩), x8, (by simp only [Act.put, List.setIfInBounds_toArray, List.set_cons_zero, List.set_cons_succ]), ⟨(fun _ => ⟨g10, g11⟩), (fun _ => rfl), below_setRow hr.gb hn1 _, hr.ne, hr.f0, hr.f1, hr.f2, hr.f3, hr.f4, hr.f5, hr.f6, hr.f7, hr.f8, hr.f9, (fun _ => ⟨rfl, hn1, (fun g => by cases g), fun _ => setRow_heap _ _ _ _ _ _ hrow⟩), (fun g => ⟨(hr.f11 g).1, (hr.f11 g).2.1, fun s => (setRow_other _ _ _ _ (fun e => hne e.symm)).trans ((hr.f11 g).2.2.1 s), fun s => absurd (hl13.symm.trans s) Bool.false_ne_true⟩)⟩⟩ (if_pos rfl) (fun j hj => if_neg hj)
    · replace ho : some ({ dst := none, op := Op.store 42 (Operand.tmp 8) (Operand.tmp 18), type := 0, pos := "l23_plan.go:47", after := #[{ on := 11, ground := Ground.data }, { on := 9, ground := Ground.data }, { on := 12, ground := Ground.chain }, { on := 0, ground := Ground.phase }, { on := 1, ground := Ground.phase }, { on := 2, ground := Ground.phase }, { on := 3, ground := Ground.phase }, { on := 4, ground := Ground.phase }, { on := 5, ground := Ground.phase }, { on := 6, ground := Ground.phase }, { on := 7, ground := Ground.phase }, { on := 8, ground := Ground.phase }, { on := 9, ground := Ground.phase }, { on := 10, ground := Ground.phase }, { on := 11, ground := Ground.phase }, { on := 12, ground := Ground.phase }], guard := none } : Oper) = some o := ho
      revert hK
      obtain rfl := Option.some.inj ho
      have g11 : ℓ 11 = true := hdep { on := 11, ground := Ground.data } (by simp) rfl
      have g9 : ℓ 9 = true := hdep { on := 9, ground := Ground.data } (by simp) rfl
      have g12 : ℓ 12 = true := hdep { on := 12, ground := Ground.chain } (by simp) rfl
      have g10 : ℓ 10 = true := hdep { on := 10, ground := Ground.phase } (by simp) rfl
      clear hdep ho
      obtain ⟨rfl, hn2, hz2, _⟩ := hr.f11 g11
      obtain rfl := hr.f9 g9
      have hne := hr.ne g10 g11
      have hrow := hz2 hL
      intro hK
      rw [if_pos (by rfl)]
      try simp only [Act.put, List.setIfInBounds_toArray, List.set_cons_zero, List.set_cons_succ]
      refine wp_store_row (P := Tryz.prog) 42 (.tmp 8) (.tmp 18) rfl N2 #[.int .i64 z1, .int .i64 z2, .int .i64 z3] rfl rfl 42 #[.int .i64 0, .int .i64 0, .int .i64 0] hrow (by kernel_rfl) rfl (by simp [Value.oneCell']) ?_
      exact hK.out _ _ (fun j => if j = 13 then true else ℓ j) ⟨N1, N2, x9, x10, x11, x12, x13, x14, x15, x16, x17, .agg #[.int .i64 z1, .int .i64 z2, .int .i64 z3], x7, .pointer (some ⟨N2, 0, none⟩), (by simp only [Act.put, List.setIfInBounds_toArray, List.set_cons_zero, List.set_cons_succ]), ⟨hr.c12, (fun _ => g12), below_setRow hr.gb hn2 _, hr.ne, hr.f0, hr.f1, hr.f2, hr.f3, hr.f4, hr.f5, hr.f6, hr.f7, hr.f8, hr.f9, (fun g => ⟨(hr.f10 g).1, (hr.f10 g).2.1, fun s => (setRow_other _ _ _ _ hne).trans ((hr.f10 g).2.2.1 s), fun s => (setRow_other _ _ _ _ hne).trans ((hr.f10 g).2.2.2 s)⟩), (fun _ => ⟨rfl, hn2, (fun g => by cases g), fun _ => setRow_heap _ _ _ _ _ _ hrow⟩)⟩⟩ (if_pos rfl) (fun j hj => if_neg hj)
  · rintro a' w' ℓ ℓ' hℓ hI
    rw [← show ℓ = ℓ' from funext hℓ]
    exact hI
end Go.Proofs.YtlomcdgfcocmmaaGreatDoor
namespace Go.Proofs.YtlomcdgfcocmmaaGreatDoor
open Go.ChangeShapes Go.WideShapes Go.ChangeAt Go.RowKit Go.Deep Go.Joins
set_option linter.unusedVariables false

set_option maxRecDepth 40000 in
set_option maxHeartbeats 8000000 in
theorem has_slot (t : Tb) (a : Ad) (x : Int) (q : Bool) (w : World) (hb : a.sn ≤ 9223372036854775807) (hq : q = true ↔ (0 ≤ x ∧ x < (a.sn : Int))) :
    Calls Tryz.prog 35 #[tbV t a, .int .i64 x] w fun e w' => e = .returned (.bool q) ∧ Below w.heap.size w w' := by
  have HB0 : Hid (Below w.heap.size w (w.alloc (.cells (tbA t a) 33))) := (Below.refl _ _).alloc (Nat.le_refl _) _
  by_cases h0 : 0 ≤ x
  · have HT : Hid (decide (x < (a.sn : Int)) = q) := bool_is hq ⟨fun h => ⟨h0, of_decide_eq_true h⟩, fun h => decide_eq_true h.2⟩
    clear hq
    go_enter Tryz.func35, Tryz.ntmps35
    go_wp2
    go_ret
    exact ⟨ret_bool HT.out, HB0.out⟩
  · have HT : Hid (q = false) := not_true hq (fun h => h0 h.1)
    clear hq
    go_enter Tryz.func35, Tryz.ntmps35
    go_wp2
    go_ret
    exact ⟨ret_bool HT.out.symm, HB0.out⟩
structure RcA (V : World) (T0 P0 S0 I0 F0 L0 K0 P1 P2 Z0 Y0 Q0 : Value) (w' : World) (b0 b1 b2 b3 b4 b5 b6 b7 b8 b9 b10 b11 b12 b13 b14 b15 b16 b17 b18 b19 b20 b21 b22 b23 : Bool) (x7 x8 x9 x10 x11 x12 x13 x14 x15 x16 x17 x18 x19 x20 x21 x22 x23 x24 x25 x26 x27 x28 x29 x6 : Value) : Prop where
  gb : Below V.heap.size V w'
  f0 : b0 = true → x7 = P0
  f1 : b1 = true → x8 = S0
  f2 : b2 = true → x9 = I0
  f3 : b3 = true → x10 = .bool false
  f4 : b4 = true → x11 = .bool false
  f5 : b5 = true → x12 = undef
  f6 : b6 = true → x13 = undef
  f7 : b7 = true → x14 = undef
  f8 : b8 = true → x15 = undef
  f9 : b9 = true → x16 = .bool false
  f10 : b10 = true → x17 = .bool false
  f11 : b11 = true → x18 = undef
  f12 : b12 = true → x19 = undef
  f13 : b13 = true → x20 = undef
  f14 : b14 = true → x21 = undef
  f15 : b15 = true → x22 = undef
  f16 : b16 = true → x23 = undef
  f17 : b17 = true → x24 = undef
  f18 : b18 = true → x25 = undef
  f19 : b19 = true → x26 = undef
  f20 : b20 = true → x27 = undef
  f21 : b21 = true → x28 = undef
  f22 : b22 = true → x29 = .bool false
  f23 : b23 = true → x6 = .bool false
theorem RcA.below {V : World} {T0 P0 S0 I0 F0 L0 K0 P1 P2 Z0 Y0 Q0 : Value} {w' w2 : World} {b0 b1 b2 b3 b4 b5 b6 b7 b8 b9 b10 b11 b12 b13 b14 b15 b16 b17 b18 b19 b20 b21 b22 b23 : Bool} {x7 x8 x9 x10 x11 x12 x13 x14 x15 x16 x17 x18 x19 x20 x21 x22 x23 x24 x25 x26 x27 x28 x29 x6 : Value} (h : RcA V T0 P0 S0 I0 F0 L0 K0 P1 P2 Z0 Y0 Q0 w' b0 b1 b2 b3 b4 b5 b6 b7 b8 b9 b10 b11 b12 b13 b14 b15 b16 b17 b18 b19 b20 b21 b22 b23 x7 x8 x9 x10 x11 x12 x13 x14 x15 x16 x17 x18 x19 x20 x21 x22 x23 x24 x25 x26 x27 x28 x29 x6) (hb : Below w'.heap.size w' w2) : RcA V T0 P0 S0 I0 F0 L0 K0 P1 P2 Z0 Y0 Q0 w2 b0 b1 b2 b3 b4 b5 b6 b7 b8 b9 b10 b11 b12 b13 b14 b15 b16 b17 b18 b19 b20 b21 b22 b23 x7 x8 x9 x10 x11 x12 x13 x14 x15 x16 x17 x18 x19 x20 x21 x22 x23 x24 x25 x26 x27 x28 x29 x6 :=
  ⟨h.gb.trans (hb.mono h.gb.size), h.f0, h.f1, h.f2, h.f3, h.f4, h.f5, h.f6, h.f7, h.f8, h.f9, h.f10, h.f11, h.f12, h.f13, h.f14, h.f15, h.f16, h.f17, h.f18, h.f19, h.f20, h.f21, h.f22, h.f23⟩

structure RcB (V : World) (T0 P0 S0 I0 F0 L0 K0 P1 P2 Z0 Y0 Q0 : Value) (w' : World) (b0 b1 b2 b3 b4 b5 b6 b7 b8 b9 b10 b11 b12 b13 b14 b15 b16 b17 b18 b19 b20 b21 b22 b23 : Bool) (x7 x8 x9 x10 x11 x12 x13 x14 x15 x16 x17 x18 x19 x20 x21 x22 x23 x24 x25 x26 x27 x28 x29 x6 : Value) : Prop where
  gb : Below V.heap.size V w'
  f0 : b0 = true → x7 = P0
  f1 : b1 = true → x8 = S0
  f2 : b2 = true → x9 = I0
  f3 : b3 = true → x10 = .bool true
  f4 : b4 = true → x11 = .bool true
  f5 : b5 = true → x12 = F0
  f6 : b6 = true → x13 = T0
  f7 : b7 = true → x14 = L0
  f8 : b8 = true → x15 = .bool false
  f9 : b9 = true → x16 = .bool false
  f10 : b10 = true → x17 = .bool false
  f11 : b11 = true → x18 = undef
  f12 : b12 = true → x19 = undef
  f13 : b13 = true → x20 = undef
  f14 : b14 = true → x21 = undef
  f15 : b15 = true → x22 = undef
  f16 : b16 = true → x23 = undef
  f17 : b17 = true → x24 = undef
  f18 : b18 = true → x25 = undef
  f19 : b19 = true → x26 = undef
  f20 : b20 = true → x27 = undef
  f21 : b21 = true → x28 = undef
  f22 : b22 = true → x29 = .bool false
  f23 : b23 = true → x6 = .bool false
theorem RcB.below {V : World} {T0 P0 S0 I0 F0 L0 K0 P1 P2 Z0 Y0 Q0 : Value} {w' w2 : World} {b0 b1 b2 b3 b4 b5 b6 b7 b8 b9 b10 b11 b12 b13 b14 b15 b16 b17 b18 b19 b20 b21 b22 b23 : Bool} {x7 x8 x9 x10 x11 x12 x13 x14 x15 x16 x17 x18 x19 x20 x21 x22 x23 x24 x25 x26 x27 x28 x29 x6 : Value} (h : RcB V T0 P0 S0 I0 F0 L0 K0 P1 P2 Z0 Y0 Q0 w' b0 b1 b2 b3 b4 b5 b6 b7 b8 b9 b10 b11 b12 b13 b14 b15 b16 b17 b18 b19 b20 b21 b22 b23 x7 x8 x9 x10 x11 x12 x13 x14 x15 x16 x17 x18 x19 x20 x21 x22 x23 x24 x25 x26 x27 x28 x29 x6) (hb : Below w'.heap.size w' w2) : RcB V T0 P0 S0 I0 F0 L0 K0 P1 P2 Z0 Y0 Q0 w2 b0 b1 b2 b3 b4 b5 b6 b7 b8 b9 b10 b11 b12 b13 b14 b15 b16 b17 b18 b19 b20 b21 b22 b23 x7 x8 x9 x10 x11 x12 x13 x14 x15 x16 x17 x18 x19 x20 x21 x22 x23 x24 x25 x26 x27 x28 x29 x6 :=
  ⟨h.gb.trans (hb.mono h.gb.size), h.f0, h.f1, h.f2, h.f3, h.f4, h.f5, h.f6, h.f7, h.f8, h.f9, h.f10, h.f11, h.f12, h.f13, h.f14, h.f15, h.f16, h.f17, h.f18, h.f19, h.f20, h.f21, h.f22, h.f23⟩

structure RcY (V : World) (T0 P0 S0 I0 F0 L0 K0 P1 P2 Z0 Y0 Q0 : Value) (w' : World) (b0 b1 b2 b3 b4 b5 b6 b7 b8 b9 b10 b11 b12 b13 b14 b15 b16 b17 b18 b19 b20 b21 b22 b23 : Bool) (x7 x8 x9 x10 x11 x12 x13 x14 x15 x16 x17 x18 x19 x20 x21 x22 x23 x24 x25 x26 x27 x28 x29 x6 : Value) : Prop where
  gb : Below V.heap.size V w'
  f0 : b0 = true → x7 = P0
  f1 : b1 = true → x8 = S0
  f2 : b2 = true → x9 = I0
  f3 : b3 = true → x10 = .bool true
  f4 : b4 = true → x11 = .bool true
  f5 : b5 = true → x12 = F0
  f6 : b6 = true → x13 = T0
  f7 : b7 = true → x14 = L0
  f8 : b8 = true → x15 = .bool true
  f9 : b9 = true → x16 = .bool true
  f10 : b10 = true → x17 = .bool true
  f11 : b11 = true → x18 = P0
  f12 : b12 = true → x19 = S0
  f13 : b13 = true → x20 = K0
  f14 : b14 = true → x21 = P1
  f15 : b15 = true → x22 = P2
  f16 : b16 = true → x23 = Z0
  f17 : b17 = true → x24 = F0
  f18 : b18 = true → x25 = Y0
  f19 : b19 = true → x26 = T0
  f20 : b20 = true → x27 = L0
  f21 : b21 = true → x28 = Q0
  f22 : b22 = true → x29 = Q0
  f23 : b23 = true → x6 = Q0
theorem RcY.below {V : World} {T0 P0 S0 I0 F0 L0 K0 P1 P2 Z0 Y0 Q0 : Value} {w' w2 : World} {b0 b1 b2 b3 b4 b5 b6 b7 b8 b9 b10 b11 b12 b13 b14 b15 b16 b17 b18 b19 b20 b21 b22 b23 : Bool} {x7 x8 x9 x10 x11 x12 x13 x14 x15 x16 x17 x18 x19 x20 x21 x22 x23 x24 x25 x26 x27 x28 x29 x6 : Value} (h : RcY V T0 P0 S0 I0 F0 L0 K0 P1 P2 Z0 Y0 Q0 w' b0 b1 b2 b3 b4 b5 b6 b7 b8 b9 b10 b11 b12 b13 b14 b15 b16 b17 b18 b19 b20 b21 b22 b23 x7 x8 x9 x10 x11 x12 x13 x14 x15 x16 x17 x18 x19 x20 x21 x22 x23 x24 x25 x26 x27 x28 x29 x6) (hb : Below w'.heap.size w' w2) : RcY V T0 P0 S0 I0 F0 L0 K0 P1 P2 Z0 Y0 Q0 w2 b0 b1 b2 b3 b4 b5 b6 b7 b8 b9 b10 b11 b12 b13 b14 b15 b16 b17 b18 b19 b20 b21 b22 b23 x7 x8 x9 x10 x11 x12 x13 x14 x15 x16 x17 x18 x19 x20 x21 x22 x23 x24 x25 x26 x27 x28 x29 x6 :=
  ⟨h.gb.trans (hb.mono h.gb.size), h.f0, h.f1, h.f2, h.f3, h.f4, h.f5, h.f6, h.f7, h.f8, h.f9, h.f10, h.f11, h.f12, h.f13, h.f14, h.f15, h.f16, h.f17, h.f18, h.f19, h.f20, h.f21, h.f22, h.f23⟩
set_option maxRecDepth 40000 in
set_option maxHeartbeats 16000000 in
theorem can_split (t : Tb) (a : Ad) (k : Nat) (f : Int) (q : Bool) (w : World) (hm : TM 0 w t a) (hw : TW t a) (hd : Sd t) (hkl : k < t.ss.length) (hf : -9223372036854775808 ≤ f ∧ f ≤ 9223372036854775807) (hq : q = true ↔ CanS t (k : Int) f) :
    Calls Tryz.prog 36 #[tbV t a, .int .i64 (k : Int), .int .i64 f] w fun e w' => e = .returned (.bool q) ∧ Below w.heap.size w w' := by
  have hk : k < a.sn := by rw [← hw.sl]; exact hkl
  have HTM := sd_tm hd
  have hp1 := HTM.pad1
  have hp2 := HTM.pad2
  have hg1 := HTM.grd1
  have hg2 := HTM.grd2
  have hmj := HTM.maj2
  have hst := HTM.st k hkl
  have hln := HTM.ln k hkl
  have hen := HTM.en k hkl
  have HLO0 : ∀ Y, Calls Tryz.prog 43 #[tbV t a] Y fun e w' => e = .returned (.int .i64 (t.pad + t.grd)) ∧ Below Y.heap.size Y w' := fun Y => lost_any t a Y ⟨hp1, hp2⟩ ⟨hg1, hg2⟩
  obtain ⟨b1, o1, hsa, hbl1, p1⟩ := hm.s.seg.at k hk
  obtain ⟨y, hy⟩ : ∃ y, t.ss.getD k sl0 = y := ⟨_, rfl⟩
  simp only [slX] at p1
  have hq2 : q = true ↔ (t.ss.length < 16 ∧ t.pad + t.grd < f ∧ t.pad + t.grd < (t.ss.getD k sl0).2.2 - f) := by
    rw [hq]
    refine ⟨fun h => ⟨h.2.2.1, h.2.2.2.1, by have := h.2.2.2.2; rw [Int.toNat_natCast] at this; exact this⟩, fun h => ⟨hd, ⟨by omega, by omega⟩, h.1, h.2.1, by rw [Int.toNat_natCast]; exact h.2.2⟩⟩
  rw [hy] at p1 hst hln hen hq2
  obtain ⟨z1, z2, z3⟩ := y
  simp only at hst hln hen hq2
  obtain ⟨sn, HSN⟩ : ∃ n, Hid (a.sn = n) := ⟨_, rfl⟩
  obtain ⟨sc, HSC⟩ : ∃ n, Hid (a.sc = n) := ⟨_, rfl⟩
  have hsl : t.ss.length = sn := hw.sl.trans HSN.out
  rw [hsl] at hq2
  have hkn : k < sn := by omega
  have hks : (k : Int) < (sn : Int) := by omega
  obtain ⟨lost, HLL⟩ : ∃ n, Hid (t.pad + t.grd = n) := ⟨_, rfl⟩
  rw [HLL.out] at HLO0 hq2
  have HZB : Hid (2 ≤ lost ∧ 0 ≤ z3 ∧ z3 ≤ 5000) := by have := HLL.out; exact ⟨by omega, by omega, by omega⟩
  have HLO : Hid (∀ Y, Calls Tryz.prog 43 #[tbV t a] Y fun e w' => e = .returned (.int .i64 lost) ∧ Below Y.heap.size Y w') := HLO0
  have HBW0 : Hid (Below w.heap.size w (w.alloc (.cells (tbA t a) 33))) := (Below.refl _ _).alloc (Nat.le_refl _) _
  have HX0 : Hid (TBx (w.alloc (.cells (tbA t a) 33)) w.heap.size t a) := TBx.new w t a _ rfl
  have p2 := p1.below HBW0.out
  have HCX0 : Hid (∀ X, Below (w.alloc (.cells (tbA t a) 33)).heap.size (w.alloc (.cells (tbA t a) 33)) X → X.cell? ⟨w.heap.size, 18, none⟩ = some (.slice (some ⟨b1, o1, none⟩) sn sc) ∧ X.cell? ⟨b1, o1 + k * 3 + 2, none⟩ = some (.int .i64 z3)) := fun X hX => by
    have h1 := (HX0.out.below hX).cell 18 (v := .slice a.sa a.sn a.sc) rfl
    rw [hsa, HSN.out, HSC.out] at h1
    exact ⟨h1, (sl_cells (p2.below hX)).2.2⟩
  have HXB0 : Hid (∀ X, Below (w.alloc (.cells (tbA t a) 33)).heap.size (w.alloc (.cells (tbA t a) 33)) X → X.heap[w.heap.size]? = some (.cells (tbA t a) 33 (0, 0))) := fun X hX => HX0.out.below hX
  clear HLO0 hm hw hsa hbl1 p1 p2 hq hy hd hkl hk HTM hsl
  go_enter Tryz.func36, Tryz.ntmps36
  go_wp2
  revert HBW0 HX0 HCX0 HXB0
  generalize (w.alloc (.cells (tbA t a) 33)) = W1
  intro HBW HX0 HCX HXB
  have HW0 : Hid (Below W1.heap.size W1 W1) := Below.refl _ _
  clear HX0 HSN HSC HLL hst hln hen hp1 hp2 hg1 hg2 hmj
  by_cases h16 : sn < 16
  rotate_left
  · have HK1 : Hid (¬ ((sn : Int) < 16)) := fun h => h16 (by omega)
    have HFIN : Hid (Ending.returned (.bool false) = Ending.returned (.bool q)) := by
      show _ = _
      rw [not_true hq2 (fun h => h16 h.1)]
    clear hq2
    refine wp_region_inv (by kernel_rfl) (by kernel_rfl) (fun A ℓ a' w' => ∃ (x7 x8 x9 x10 x11 x12 x13 x14 x15 x16 x17 x18 x19 x20 x21 x22 x23 x24 x25 x26 x27 x28 x29 x6 : Value), a' = ((((((((((((((((((((((((A.put (some 7) x7).put (some 8) x8).put (some 9) x9).put (some 10) x10).put (some 11) x11).put (some 12) x12).put (some 13) x13).put (some 14) x14).put (some 15) x15).put (some 16) x16).put (some 17) x17).put (some 18) x18).put (some 19) x19).put (some 20) x20).put (some 21) x21).put (some 22) x22).put (some 23) x23).put (some 24) x24).put (some 25) x25).put (some 26) x26).put (some 27) x27).put (some 28) x28).put (some 29) x29).put (some 6) x6) ∧ RcA W1 (tbV t a) (.pointer (some ⟨w.heap.size, 18, none⟩)) (.slice (some ⟨b1, o1, none⟩) sn sc) (.int .i64 (sn : Int)) (.int .i64 f) (.int .i64 lost) (.int .i64 (k : Int)) (.pointer (some ⟨b1, o1 + k * 3, none⟩)) (.pointer (some ⟨b1, o1 + k * 3 + 2, none⟩)) (.int .i64 z3) (.int .i64 (z3 - f)) (.bool q) w' (ℓ 0) (ℓ 1) (ℓ 2) (ℓ 3) (ℓ 4) (ℓ 5) (ℓ 6) (ℓ 7) (ℓ 8) (ℓ 9) (ℓ 10) (ℓ 11) (ℓ 12) (ℓ 13) (ℓ 14) (ℓ 15) (ℓ 16) (ℓ 17) (ℓ 18) (ℓ 19) (ℓ 20) (ℓ 21) (ℓ 22) (ℓ 23) x7 x8 x9 x10 x11 x12 x13 x14 x15 x16 x17 x18 x19 x20 x21 x22 x23 x24 x25 x26 x27 x28 x29 x6) ?_ ?_ ?_ ?_
    · exact ⟨undef, undef, undef, undef, undef, undef, undef, undef, undef, undef, undef, undef, undef, undef, undef, undef, undef, undef, undef, undef, undef, undef, undef, .bool false, (by simp only [Act.put, List.setIfInBounds_toArray, List.set_cons_zero, List.set_cons_succ]), ⟨HW0.out.drew, (fun g => by cases g), (fun g => by cases g), (fun g => by cases g), (fun g => by cases g), (fun g => by cases g), (fun g => by cases g), (fun g => by cases g), (fun g => by cases g), (fun g => by cases g), (fun g => by cases g), (fun g => by cases g), (fun g => by cases g), (fun g => by cases g), (fun g => by cases g), (fun g => by cases g), (fun g => by cases g), (fun g => by cases g), (fun g => by cases g), (fun g => by cases g), (fun g => by cases g), (fun g => by cases g), (fun g => by cases g), (fun g => by cases g), (fun g => by cases g)⟩⟩
    · intro ℓ a' w' hI hall
      obtain ⟨x7, x8, x9, x10, x11, x12, x13, x14, x15, x16, x17, x18, x19, x20, x21, x22, x23, x24, x25, x26, x27, x28, x29, x6, rfl, hr⟩ := hI
      have hall' : ∀ i, i < 24 → ℓ i = true := hall
      obtain rfl := hr.f0 (hall' 0 (by decide))
      obtain rfl := hr.f1 (hall' 1 (by decide))
      obtain rfl := hr.f2 (hall' 2 (by decide))
      obtain rfl := hr.f3 (hall' 3 (by decide))
      obtain rfl := hr.f4 (hall' 4 (by decide))
      obtain rfl := hr.f5 (hall' 5 (by decide))
      obtain rfl := hr.f6 (hall' 6 (by decide))
      obtain rfl := hr.f7 (hall' 7 (by decide))
      obtain rfl := hr.f8 (hall' 8 (by decide))
      obtain rfl := hr.f9 (hall' 9 (by decide))
      obtain rfl := hr.f10 (hall' 10 (by decide))
      obtain rfl := hr.f11 (hall' 11 (by decide))
      obtain rfl := hr.f12 (hall' 12 (by decide))
      obtain rfl := hr.f13 (hall' 13 (by decide))
      obtain rfl := hr.f14 (hall' 14 (by decide))
      obtain rfl := hr.f15 (hall' 15 (by decide))
      obtain rfl := hr.f16 (hall' 16 (by decide))
      obtain rfl := hr.f17 (hall' 17 (by decide))
      obtain rfl := hr.f18 (hall' 18 (by decide))
      obtain rfl := hr.f19 (hall' 19 (by decide))
      obtain rfl := hr.f20 (hall' 20 (by decide))
      obtain rfl := hr.f21 (hall' 21 (by decide))
      obtain rfl := hr.f22 (hall' 22 (by decide))
      obtain rfl := hr.f23 (hall' 23 (by decide))
      have gb : Hid (Below W1.heap.size W1 w') := hr.gb
      clear hall hall' hr
      simp only [Act.put, List.setIfInBounds_toArray, List.set_cons_zero, List.set_cons_succ]
      go_wp2
      go_ret
      exact ⟨HFIN.out, HBW.out.trans (gb.out.mono HBW.out.size)⟩
    · intro ℓ a' w' i o hI ho hi hL hdep K hK
      obtain ⟨x7, x8, x9, x10, x11, x12, x13, x14, x15, x16, x17, x18, x19, x20, x21, x22, x23, x24, x25, x26, x27, x28, x29, x6, rfl, hr⟩ := hI
      have hi7 : i < 24 := hi
      have hcs : i = 0 ∨ i = 1 ∨ i = 2 ∨ i = 3 ∨ i = 4 ∨ i = 5 ∨ i = 6 ∨ i = 7 ∨ i = 8 ∨ i = 9 ∨ i = 10 ∨ i = 11 ∨ i = 12 ∨ i = 13 ∨ i = 14 ∨ i = 15 ∨ i = 16 ∨ i = 17 ∨ i = 18 ∨ i = 19 ∨ i = 20 ∨ i = 21 ∨ i = 22 ∨ i = 23 := by omega
      clear hi hi7
      rcases hcs with rfl | rfl | rfl | rfl | rfl | rfl | rfl | rfl | rfl | rfl | rfl | rfl | rfl | rfl | rfl | rfl | rfl | rfl | rfl | rfl | rfl | rfl | rfl | rfl
      · obtain rfl := Option.some.inj ho
        clear hdep ho
        revert hK
        intro hK
        rw [if_pos (by rfl)]
        try simp only [Act.put, List.setIfInBounds_toArray, List.set_cons_zero, List.set_cons_succ]
        go_simp
        exact hK.out _ _ (fun j => if j = 0 then true else ℓ j) ⟨.pointer (some ⟨w.heap.size, 18, none⟩), x8, x9, x10, x11, x12, x13, x14, x15, x16, x17, x18, x19, x20, x21, x22, x23, x24, x25, x26, x27, x28, x29, x6, (by simp only [Act.put, List.setIfInBounds_toArray, List.set_cons_zero, List.set_cons_succ]), ⟨hr.gb, (fun _ => rfl), hr.f1, hr.f2, hr.f3, hr.f4, hr.f5, hr.f6, hr.f7, hr.f8, hr.f9, hr.f10, hr.f11, hr.f12, hr.f13, hr.f14, hr.f15, hr.f16, hr.f17, hr.f18, hr.f19, hr.f20, hr.f21, hr.f22, hr.f23⟩⟩ (if_pos rfl) (fun j hj => if_neg hj)
      · obtain rfl := Option.some.inj ho
        have g0 : ℓ 0 = true := hdep { on := 0, ground := Ground.data } (by simp) rfl
        clear hdep ho
        revert hK
        obtain rfl := hr.f0 g0
        have hcx := (HCX.out _ hr.gb).1
        intro hK
        rw [if_pos (by rfl)]
        try simp only [Act.put, List.setIfInBounds_toArray, List.set_cons_zero, List.set_cons_succ]
        go_simp
        exact hK.out _ _ (fun j => if j = 1 then true else ℓ j) ⟨.pointer (some ⟨w.heap.size, 18, none⟩), .slice (some ⟨b1, o1, none⟩) sn sc, x9, x10, x11, x12, x13, x14, x15, x16, x17, x18, x19, x20, x21, x22, x23, x24, x25, x26, x27, x28, x29, x6, (by simp only [Act.put, List.setIfInBounds_toArray, List.set_cons_zero, List.set_cons_succ]), ⟨hr.gb, (fun _ => rfl), (fun _ => rfl), hr.f2, hr.f3, hr.f4, hr.f5, hr.f6, hr.f7, hr.f8, hr.f9, hr.f10, hr.f11, hr.f12, hr.f13, hr.f14, hr.f15, hr.f16, hr.f17, hr.f18, hr.f19, hr.f20, hr.f21, hr.f22, hr.f23⟩⟩ (if_pos rfl) (fun j hj => if_neg hj)
      · obtain rfl := Option.some.inj ho
        have g1 : ℓ 1 = true := hdep { on := 1, ground := Ground.data } (by simp) rfl
        clear hdep ho
        revert hK
        obtain rfl := hr.f1 g1
        intro hK
        rw [if_pos (by rfl)]
        try simp only [Act.put, List.setIfInBounds_toArray, List.set_cons_zero, List.set_cons_succ]
        go_simp
        exact hK.out _ _ (fun j => if j = 2 then true else ℓ j) ⟨x7, .slice (some ⟨b1, o1, none⟩) sn sc, .int .i64 (sn : Int), x10, x11, x12, x13, x14, x15, x16, x17, x18, x19, x20, x21, x22, x23, x24, x25, x26, x27, x28, x29, x6, (by simp only [Act.put, List.setIfInBounds_toArray, List.set_cons_zero, List.set_cons_succ]), ⟨hr.gb, hr.f0, (fun _ => rfl), (fun _ => rfl), hr.f3, hr.f4, hr.f5, hr.f6, hr.f7, hr.f8, hr.f9, hr.f10, hr.f11, hr.f12, hr.f13, hr.f14, hr.f15, hr.f16, hr.f17, hr.f18, hr.f19, hr.f20, hr.f21, hr.f22, hr.f23⟩⟩ (if_pos rfl) (fun j hj => if_neg hj)
      · obtain rfl := Option.some.inj ho
        have g2 : ℓ 2 = true := hdep { on := 2, ground := Ground.data } (by simp) rfl
        clear hdep ho
        revert hK
        obtain rfl := hr.f2 g2
        have hb1 := HK1.out
        intro hK
        rw [if_pos (by rfl)]
        try simp only [Act.put, List.setIfInBounds_toArray, List.set_cons_zero, List.set_cons_succ]
        go_simp
        exact hK.out _ _ (fun j => if j = 3 then true else ℓ j) ⟨x7, x8, .int .i64 (sn : Int), .bool false, x11, x12, x13, x14, x15, x16, x17, x18, x19, x20, x21, x22, x23, x24, x25, x26, x27, x28, x29, x6, (by simp only [Act.put, List.setIfInBounds_toArray, List.set_cons_zero, List.set_cons_succ]), ⟨hr.gb, hr.f0, hr.f1, (fun _ => rfl), (fun _ => rfl), hr.f4, hr.f5, hr.f6, hr.f7, hr.f8, hr.f9, hr.f10, hr.f11, hr.f12, hr.f13, hr.f14, hr.f15, hr.f16, hr.f17, hr.f18, hr.f19, hr.f20, hr.f21, hr.f22, hr.f23⟩⟩ (if_pos rfl) (fun j hj => if_neg hj)
      · obtain rfl := Option.some.inj ho
        have g3 : ℓ 3 = true := hdep { on := 3, ground := Ground.data } (by simp) rfl
        clear hdep ho
        revert hK
        obtain rfl := hr.f3 g3
        intro hK
        rw [if_pos (by rfl)]
        try simp only [Act.put, List.setIfInBounds_toArray, List.set_cons_zero, List.set_cons_succ]
        go_simp
        exact hK.out _ _ (fun j => if j = 4 then true else ℓ j) ⟨x7, x8, x9, .bool false, .bool false, x12, x13, x14, x15, x16, x17, x18, x19, x20, x21, x22, x23, x24, x25, x26, x27, x28, x29, x6, (by simp only [Act.put, List.setIfInBounds_toArray, List.set_cons_zero, List.set_cons_succ]), ⟨hr.gb, hr.f0, hr.f1, hr.f2, (fun _ => rfl), (fun _ => rfl), hr.f5, hr.f6, hr.f7, hr.f8, hr.f9, hr.f10, hr.f11, hr.f12, hr.f13, hr.f14, hr.f15, hr.f16, hr.f17, hr.f18, hr.f19, hr.f20, hr.f21, hr.f22, hr.f23⟩⟩ (if_pos rfl) (fun j hj => if_neg hj)
      · obtain rfl := Option.some.inj ho
        have g4 : ℓ 4 = true := hdep { on := 4, ground := Ground.guard } (by simp) rfl
        clear hdep ho
        revert hK
        obtain rfl := hr.f4 g4
        intro hK
        try simp only [Act.put, List.setIfInBounds_toArray, List.set_cons_zero, List.set_cons_succ]
        rw [if_neg (by first | exact fun h => Bool.false_ne_true h | exact fun h => Bool.false_ne_true h.symm)]
        try simp only [List.getElem_toArray, List.getElem_cons_zero, List.getElem_cons_succ, List.set_cons_zero, List.set_cons_succ]
        exact hK.out _ _ (fun j => if j = 5 then true else ℓ j) ⟨x7, x8, x9, x10, .bool false, undef, x13, x14, x15, x16, x17, x18, x19, x20, x21, x22, x23, x24, x25, x26, x27, x28, x29, x6, (by simp only [Act.put, List.setIfInBounds_toArray, List.set_cons_zero, List.set_cons_succ]), ⟨hr.gb, hr.f0, hr.f1, hr.f2, hr.f3, (fun _ => rfl), (fun _ => rfl), hr.f6, hr.f7, hr.f8, hr.f9, hr.f10, hr.f11, hr.f12, hr.f13, hr.f14, hr.f15, hr.f16, hr.f17, hr.f18, hr.f19, hr.f20, hr.f21, hr.f22, hr.f23⟩⟩ (if_pos rfl) (fun j hj => if_neg hj)
      · obtain rfl := Option.some.inj ho
        have g4 : ℓ 4 = true := hdep { on := 4, ground := Ground.guard } (by simp) rfl
        clear hdep ho
        revert hK
        obtain rfl := hr.f4 g4
        intro hK
        try simp only [Act.put, List.setIfInBounds_toArray, List.set_cons_zero, List.set_cons_succ]
        rw [if_neg (by first | exact fun h => Bool.false_ne_true h | exact fun h => Bool.false_ne_true h.symm)]
        try simp only [List.getElem_toArray, List.getElem_cons_zero, List.getElem_cons_succ, List.set_cons_zero, List.set_cons_succ]
        exact hK.out _ _ (fun j => if j = 6 then true else ℓ j) ⟨x7, x8, x9, x10, .bool false, x12, undef, x14, x15, x16, x17, x18, x19, x20, x21, x22, x23, x24, x25, x26, x27, x28, x29, x6, (by simp only [Act.put, List.setIfInBounds_toArray, List.set_cons_zero, List.set_cons_succ]), ⟨hr.gb, hr.f0, hr.f1, hr.f2, hr.f3, (fun _ => rfl), hr.f5, (fun _ => rfl), hr.f7, hr.f8, hr.f9, hr.f10, hr.f11, hr.f12, hr.f13, hr.f14, hr.f15, hr.f16, hr.f17, hr.f18, hr.f19, hr.f20, hr.f21, hr.f22, hr.f23⟩⟩ (if_pos rfl) (fun j hj => if_neg hj)
      · obtain rfl := Option.some.inj ho
        have g4 : ℓ 4 = true := hdep { on := 4, ground := Ground.guard } (by simp) rfl
        clear hdep ho
        revert hK
        obtain rfl := hr.f4 g4
        intro hK
        try simp only [Act.put, List.setIfInBounds_toArray, List.set_cons_zero, List.set_cons_succ]
        rw [if_neg (by first | exact fun h => Bool.false_ne_true h | exact fun h => Bool.false_ne_true h.symm)]
        try simp only [List.getElem_toArray, List.getElem_cons_zero, List.getElem_cons_succ, List.set_cons_zero, List.set_cons_succ]
        exact hK.out _ _ (fun j => if j = 7 then true else ℓ j) ⟨x7, x8, x9, x10, .bool false, x12, x13, undef, x15, x16, x17, x18, x19, x20, x21, x22, x23, x24, x25, x26, x27, x28, x29, x6, (by simp only [Act.put, List.setIfInBounds_toArray, List.set_cons_zero, List.set_cons_succ]), ⟨hr.gb, hr.f0, hr.f1, hr.f2, hr.f3, (fun _ => rfl), hr.f5, hr.f6, (fun _ => rfl), hr.f8, hr.f9, hr.f10, hr.f11, hr.f12, hr.f13, hr.f14, hr.f15, hr.f16, hr.f17, hr.f18, hr.f19, hr.f20, hr.f21, hr.f22, hr.f23⟩⟩ (if_pos rfl) (fun j hj => if_neg hj)
      · obtain rfl := Option.some.inj ho
        have g4 : ℓ 4 = true := hdep { on := 4, ground := Ground.guard } (by simp) rfl
        clear hdep ho
        revert hK
        obtain rfl := hr.f4 g4
        intro hK
        try simp only [Act.put, List.setIfInBounds_toArray, List.set_cons_zero, List.set_cons_succ]
        rw [if_neg (by first | exact fun h => Bool.false_ne_true h | exact fun h => Bool.false_ne_true h.symm)]
        try simp only [List.getElem_toArray, List.getElem_cons_zero, List.getElem_cons_succ, List.set_cons_zero, List.set_cons_succ]
        exact hK.out _ _ (fun j => if j = 8 then true else ℓ j) ⟨x7, x8, x9, x10, .bool false, x12, x13, x14, undef, x16, x17, x18, x19, x20, x21, x22, x23, x24, x25, x26, x27, x28, x29, x6, (by simp only [Act.put, List.setIfInBounds_toArray, List.set_cons_zero, List.set_cons_succ]), ⟨hr.gb, hr.f0, hr.f1, hr.f2, hr.f3, (fun _ => rfl), hr.f5, hr.f6, hr.f7, (fun _ => rfl), hr.f9, hr.f10, hr.f11, hr.f12, hr.f13, hr.f14, hr.f15, hr.f16, hr.f17, hr.f18, hr.f19, hr.f20, hr.f21, hr.f22, hr.f23⟩⟩ (if_pos rfl) (fun j hj => if_neg hj)
      · obtain rfl := Option.some.inj ho
        have g4 : ℓ 4 = true := hdep { on := 4, ground := Ground.data } (by simp) rfl
        have g8 : ℓ 8 = true := hdep { on := 8, ground := Ground.data } (by simp) rfl
        clear hdep ho
        revert hK
        obtain rfl := hr.f4 g4
        obtain rfl := hr.f8 g8
        intro hK
        rw [if_pos (by rfl)]
        try simp only [Act.put, List.setIfInBounds_toArray, List.set_cons_zero, List.set_cons_succ]
        go_simp
        exact hK.out _ _ (fun j => if j = 9 then true else ℓ j) ⟨x7, x8, x9, x10, .bool false, x12, x13, x14, undef, .bool false, x17, x18, x19, x20, x21, x22, x23, x24, x25, x26, x27, x28, x29, x6, (by simp only [Act.put, List.setIfInBounds_toArray, List.set_cons_zero, List.set_cons_succ]), ⟨hr.gb, hr.f0, hr.f1, hr.f2, hr.f3, (fun _ => rfl), hr.f5, hr.f6, hr.f7, (fun _ => rfl), (fun _ => rfl), hr.f10, hr.f11, hr.f12, hr.f13, hr.f14, hr.f15, hr.f16, hr.f17, hr.f18, hr.f19, hr.f20, hr.f21, hr.f22, hr.f23⟩⟩ (if_pos rfl) (fun j hj => if_neg hj)
      · obtain rfl := Option.some.inj ho
        have g9 : ℓ 9 = true := hdep { on := 9, ground := Ground.data } (by simp) rfl
        clear hdep ho
        revert hK
        obtain rfl := hr.f9 g9
        intro hK
        rw [if_pos (by rfl)]
        try simp only [Act.put, List.setIfInBounds_toArray, List.set_cons_zero, List.set_cons_succ]
        go_simp
        exact hK.out _ _ (fun j => if j = 10 then true else ℓ j) ⟨x7, x8, x9, x10, x11, x12, x13, x14, x15, .bool false, .bool false, x18, x19, x20, x21, x22, x23, x24, x25, x26, x27, x28, x29, x6, (by simp only [Act.put, List.setIfInBounds_toArray, List.set_cons_zero, List.set_cons_succ]), ⟨hr.gb, hr.f0, hr.f1, hr.f2, hr.f3, hr.f4, hr.f5, hr.f6, hr.f7, hr.f8, (fun _ => rfl), (fun _ => rfl), hr.f11, hr.f12, hr.f13, hr.f14, hr.f15, hr.f16, hr.f17, hr.f18, hr.f19, hr.f20, hr.f21, hr.f22, hr.f23⟩⟩ (if_pos rfl) (fun j hj => if_neg hj)
      · obtain rfl := Option.some.inj ho
        have g10 : ℓ 10 = true := hdep { on := 10, ground := Ground.guard } (by simp) rfl
        clear hdep ho
        revert hK
        obtain rfl := hr.f10 g10
        intro hK
        try simp only [Act.put, List.setIfInBounds_toArray, List.set_cons_zero, List.set_cons_succ]
        rw [if_neg (by first | exact fun h => Bool.false_ne_true h | exact fun h => Bool.false_ne_true h.symm)]
        try simp only [List.getElem_toArray, List.getElem_cons_zero, List.getElem_cons_succ, List.set_cons_zero, List.set_cons_succ]
        exact hK.out _ _ (fun j => if j = 11 then true else ℓ j) ⟨x7, x8, x9, x10, x11, x12, x13, x14, x15, x16, .bool false, undef, x19, x20, x21, x22, x23, x24, x25, x26, x27, x28, x29, x6, (by simp only [Act.put, List.setIfInBounds_toArray, List.set_cons_zero, List.set_cons_succ]), ⟨hr.gb, hr.f0, hr.f1, hr.f2, hr.f3, hr.f4, hr.f5, hr.f6, hr.f7, hr.f8, hr.f9, (fun _ => rfl), (fun _ => rfl), hr.f12, hr.f13, hr.f14, hr.f15, hr.f16, hr.f17, hr.f18, hr.f19, hr.f20, hr.f21, hr.f22, hr.f23⟩⟩ (if_pos rfl) (fun j hj => if_neg hj)
      · obtain rfl := Option.some.inj ho
        have g10 : ℓ 10 = true := hdep { on := 10, ground := Ground.guard } (by simp) rfl
        clear hdep ho
        revert hK
        obtain rfl := hr.f10 g10
        intro hK
        try simp only [Act.put, List.setIfInBounds_toArray, List.set_cons_zero, List.set_cons_succ]
        rw [if_neg (by first | exact fun h => Bool.false_ne_true h | exact fun h => Bool.false_ne_true h.symm)]
        try simp only [List.getElem_toArray, List.getElem_cons_zero, List.getElem_cons_succ, List.set_cons_zero, List.set_cons_succ]
        exact hK.out _ _ (fun j => if j = 12 then true else ℓ j) ⟨x7, x8, x9, x10, x11, x12, x13, x14, x15, x16, .bool false, x18, undef, x20, x21, x22, x23, x24, x25, x26, x27, x28, x29, x6, (by simp only [Act.put, List.setIfInBounds_toArray, List.set_cons_zero, List.set_cons_succ]), ⟨hr.gb, hr.f0, hr.f1, hr.f2, hr.f3, hr.f4, hr.f5, hr.f6, hr.f7, hr.f8, hr.f9, (fun _ => rfl), hr.f11, (fun _ => rfl), hr.f13, hr.f14, hr.f15, hr.f16, hr.f17, hr.f18, hr.f19, hr.f20, hr.f21, hr.f22, hr.f23⟩⟩ (if_pos rfl) (fun j hj => if_neg hj)
      · obtain rfl := Option.some.inj ho
        have g10 : ℓ 10 = true := hdep { on := 10, ground := Ground.guard } (by simp) rfl
        clear hdep ho
        revert hK
        obtain rfl := hr.f10 g10
        intro hK
        try simp only [Act.put, List.setIfInBounds_toArray, List.set_cons_zero, List.set_cons_succ]
        rw [if_neg (by first | exact fun h => Bool.false_ne_true h | exact fun h => Bool.false_ne_true h.symm)]
        try simp only [List.getElem_toArray, List.getElem_cons_zero, List.getElem_cons_succ, List.set_cons_zero, List.set_cons_succ]
        exact hK.out _ _ (fun j => if j = 13 then true else ℓ j) ⟨x7, x8, x9, x10, x11, x12, x13, x14, x15, x16, .bool false, x18, x19, undef, x21, x22, x23, x24, x25, x26, x27, x28, x29, x6, (by simp only [Act.put, List.setIfInBounds_toArray, List.set_cons_zero, List.set_cons_succ]), ⟨hr.gb, hr.f0, hr.f1, hr.f2, hr.f3, hr.f4, hr.f5, hr.f6, hr.f7, hr.f8, hr.f9, (fun _ => rfl), hr.f11, hr.f12, (fun _ => rfl), hr.f14, hr.f15, hr.f16, hr.f17, hr.f18, hr.f19, hr.f20, hr.f21, hr.f22, hr.f23⟩⟩ (if_pos rfl) (fun j hj => if_neg hj)
      · obtain rfl := Option.some.inj ho
        have g10 : ℓ 10 = true := hdep { on := 10, ground := Ground.guard } (by simp) rfl
        clear hdep ho
        revert hK
        obtain rfl := hr.f10 g10
        intro hK
        try simp only [Act.put, List.setIfInBounds_toArray, List.set_cons_zero, List.set_cons_succ]
        rw [if_neg (by first | exact fun h => Bool.false_ne_true h | exact fun h => Bool.false_ne_true h.symm)]
        try simp only [List.getElem_toArray, List.getElem_cons_zero, List.getElem_cons_succ, List.set_cons_zero, List.set_cons_succ]
        exact hK.out _ _ (fun j => if j = 14 then true else ℓ j) ⟨x7, x8, x9, x10, x11, x12, x13, x14, x15, x16, .bool false, x18, x19, x20, undef, x22, x23, x24, x25, x26, x27, x28, x29, x6, (by simp only [Act.put, List.setIfInBounds_toArray, List.set_cons_zero, List.set_cons_succ]), ⟨hr.gb, hr.f0, hr.f1, hr.f2, hr.f3, hr.f4, hr.f5, hr.f6, hr.f7, hr.f8, hr.f9, (fun _ => rfl), hr.f11, hr.f12, hr.f13, (fun _ => rfl), hr.f15, hr.f16, hr.f17, hr.f18, hr.f19, hr.f20, hr.f21, hr.f22, hr.f23⟩⟩ (if_pos rfl) (fun j hj => if_neg hj)
      · obtain rfl := Option.some.inj ho
        have g10 : ℓ 10 = true := hdep { on := 10, ground := Ground.guard } (by simp) rfl
        clear hdep ho
        revert hK
        obtain rfl := hr.f10 g10
        intro hK
        try simp only [Act.put, List.setIfInBounds_toArray, List.set_cons_zero, List.set_cons_succ]
        rw [if_neg (by first | exact fun h => Bool.false_ne_true h | exact fun h => Bool.false_ne_true h.symm)]
        try simp only [List.getElem_toArray, List.getElem_cons_zero, List.getElem_cons_succ, List.set_cons_zero, List.set_cons_succ]
        exact hK.out _ _ (fun j => if j = 15 then true else ℓ j) ⟨x7, x8, x9, x10, x11, x12, x13, x14, x15, x16, .bool false, x18, x19, x20, x21, undef, x23, x24, x25, x26, x27, x28, x29, x6, (by simp only [Act.put, List.setIfInBounds_toArray, List.set_cons_zero, List.set_cons_succ]), ⟨hr.gb, hr.f0, hr.f1, hr.f2, hr.f3, hr.f4, hr.f5, hr.f6, hr.f7, hr.f8, hr.f9, (fun _ => rfl), hr.f11, hr.f12, hr.f13, hr.f14, (fun _ => rfl), hr.f16, hr.f17, hr.f18, hr.f19, hr.f20, hr.f21, hr.f22, hr.f23⟩⟩ (if_pos rfl) (fun j hj => if_neg hj)
      · obtain rfl := Option.some.inj ho
        have g10 : ℓ 10 = true := hdep { on := 10, ground := Ground.guard } (by simp) rfl
        clear hdep ho
        revert hK
        obtain rfl := hr.f10 g10
        intro hK
        try simp only [Act.put, List.setIfInBounds_toArray, List.set_cons_zero, List.set_cons_succ]
        rw [if_neg (by first | exact fun h => Bool.false_ne_true h | exact fun h => Bool.false_ne_true h.symm)]
        try simp only [List.getElem_toArray, List.getElem_cons_zero, List.getElem_cons_succ, List.set_cons_zero, List.set_cons_succ]
        exact hK.out _ _ (fun j => if j = 16 then true else ℓ j) ⟨x7, x8, x9, x10, x11, x12, x13, x14, x15, x16, .bool false, x18, x19, x20, x21, x22, undef, x24, x25, x26, x27, x28, x29, x6, (by simp only [Act.put, List.setIfInBounds_toArray, List.set_cons_zero, List.set_cons_succ]), ⟨hr.gb, hr.f0, hr.f1, hr.f2, hr.f3, hr.f4, hr.f5, hr.f6, hr.f7, hr.f8, hr.f9, (fun _ => rfl), hr.f11, hr.f12, hr.f13, hr.f14, hr.f15, (fun _ => rfl), hr.f17, hr.f18, hr.f19, hr.f20, hr.f21, hr.f22, hr.f23⟩⟩ (if_pos rfl) (fun j hj => if_neg hj)
      · obtain rfl := Option.some.inj ho
        have g10 : ℓ 10 = true := hdep { on := 10, ground := Ground.guard } (by simp) rfl
        clear hdep ho
        revert hK
        obtain rfl := hr.f10 g10
        intro hK
        try simp only [Act.put, List.setIfInBounds_toArray, List.set_cons_zero, List.set_cons_succ]
        rw [if_neg (by first | exact fun h => Bool.false_ne_true h | exact fun h => Bool.false_ne_true h.symm)]
        try simp only [List.getElem_toArray, List.getElem_cons_zero, List.getElem_cons_succ, List.set_cons_zero, List.set_cons_succ]
        exact hK.out _ _ (fun j => if j = 17 then true else ℓ j) ⟨x7, x8, x9, x10, x11, x12, x13, x14, x15, x16, .bool false, x18, x19, x20, x21, x22, x23, undef, x25, x26, x27, x28, x29, x6, (by simp only [Act.put, List.setIfInBounds_toArray, List.set_cons_zero, List.set_cons_succ]), ⟨hr.gb, hr.f0, hr.f1, hr.f2, hr.f3, hr.f4, hr.f5, hr.f6, hr.f7, hr.f8, hr.f9, (fun _ => rfl), hr.f11, hr.f12, hr.f13, hr.f14, hr.f15, hr.f16, (fun _ => rfl), hr.f18, hr.f19, hr.f20, hr.f21, hr.f22, hr.f23⟩⟩ (if_pos rfl) (fun j hj => if_neg hj)
      · obtain rfl := Option.some.inj ho
        have g10 : ℓ 10 = true := hdep { on := 10, ground := Ground.guard } (by simp) rfl
        clear hdep ho
        revert hK
        obtain rfl := hr.f10 g10
        intro hK
        try simp only [Act.put, List.setIfInBounds_toArray, List.set_cons_zero, List.set_cons_succ]
        rw [if_neg (by first | exact fun h => Bool.false_ne_true h | exact fun h => Bool.false_ne_true h.symm)]
        try simp only [List.getElem_toArray, List.getElem_cons_zero, List.getElem_cons_succ, List.set_cons_zero, List.set_cons_succ]
        exact hK.out _ _ (fun j => if j = 18 then true else ℓ j) ⟨x7, x8, x9, x10, x11, x12, x13, x14, x15, x16, .bool false, x18, x19, x20, x21, x22, x23, x24, undef, x26, x27, x28, x29, x6, (by simp only [Act.put, List.setIfInBounds_toArray, List.set_cons_zero, List.set_cons_succ]), ⟨hr.gb, hr.f0, hr.f1, hr.f2, hr.f3, hr.f4, hr.f5, hr.f6, hr.f7, hr.f8, hr.f9, (fun _ => rfl), hr.f11, hr.f12, hr.f13, hr.f14, hr.f15, hr.f16, hr.f17, (fun _ => rfl), hr.f19, hr.f20, hr.f21, hr.f22, hr.f23⟩⟩ (if_pos rfl) (fun j hj => if_neg hj)
      · obtain rfl := Option.some.inj ho
        have g10 : ℓ 10 = true := hdep { on := 10, ground := Ground.guard } (by simp) rfl
        clear hdep ho
        revert hK
        obtain rfl := hr.f10 g10
        intro hK
        try simp only [Act.put, List.setIfInBounds_toArray, List.set_cons_zero, List.set_cons_succ]
        rw [if_neg (by first | exact fun h => Bool.false_ne_true h | exact fun h => Bool.false_ne_true h.symm)]
        try simp only [List.getElem_toArray, List.getElem_cons_zero, List.getElem_cons_succ, List.set_cons_zero, List.set_cons_succ]
        exact hK.out _ _ (fun j => if j = 19 then true else ℓ j) ⟨x7, x8, x9, x10, x11, x12, x13, x14, x15, x16, .bool false, x18, x19, x20, x21, x22, x23, x24, x25, undef, x27, x28, x29, x6, (by simp only [Act.put, List.setIfInBounds_toArray, List.set_cons_zero, List.set_cons_succ]), ⟨hr.gb, hr.f0, hr.f1, hr.f2, hr.f3, hr.f4, hr.f5, hr.f6, hr.f7, hr.f8, hr.f9, (fun _ => rfl), hr.f11, hr.f12, hr.f13, hr.f14, hr.f15, hr.f16, hr.f17, hr.f18, (fun _ => rfl), hr.f20, hr.f21, hr.f22, hr.f23⟩⟩ (if_pos rfl) (fun j hj => if_neg hj)
      · obtain rfl := Option.some.inj ho
        have g10 : ℓ 10 = true := hdep { on := 10, ground := Ground.guard } (by simp) rfl
        clear hdep ho
        revert hK
        obtain rfl := hr.f10 g10
        intro hK
        try simp only [Act.put, List.setIfInBounds_toArray, List.set_cons_zero, List.set_cons_succ]
        rw [if_neg (by first | exact fun h => Bool.false_ne_true h | exact fun h => Bool.false_ne_true h.symm)]
        try simp only [List.getElem_toArray, List.getElem_cons_zero, List.getElem_cons_succ, List.set_cons_zero, List.set_cons_succ]
        exact hK.out _ _ (fun j => if j = 20 then true else ℓ j) ⟨x7, x8, x9, x10, x11, x12, x13, x14, x15, x16, .bool false, x18, x19, x20, x21, x22, x23, x24, x25, x26, undef, x28, x29, x6, (by simp only [Act.put, List.setIfInBounds_toArray, List.set_cons_zero, List.set_cons_succ]), ⟨hr.gb, hr.f0, hr.f1, hr.f2, hr.f3, hr.f4, hr.f5, hr.f6, hr.f7, hr.f8, hr.f9, (fun _ => rfl), hr.f11, hr.f12, hr.f13, hr.f14, hr.f15, hr.f16, hr.f17, hr.f18, hr.f19, (fun _ => rfl), hr.f21, hr.f22, hr.f23⟩⟩ (if_pos rfl) (fun j hj => if_neg hj)
      · obtain rfl := Option.some.inj ho
        have g10 : ℓ 10 = true := hdep { on := 10, ground := Ground.guard } (by simp) rfl
        clear hdep ho
        revert hK
        obtain rfl := hr.f10 g10
        intro hK
        try simp only [Act.put, List.setIfInBounds_toArray, List.set_cons_zero, List.set_cons_succ]
        rw [if_neg (by first | exact fun h => Bool.false_ne_true h | exact fun h => Bool.false_ne_true h.symm)]
        try simp only [List.getElem_toArray, List.getElem_cons_zero, List.getElem_cons_succ, List.set_cons_zero, List.set_cons_succ]
        exact hK.out _ _ (fun j => if j = 21 then true else ℓ j) ⟨x7, x8, x9, x10, x11, x12, x13, x14, x15, x16, .bool false, x18, x19, x20, x21, x22, x23, x24, x25, x26, x27, undef, x29, x6, (by simp only [Act.put, List.setIfInBounds_toArray, List.set_cons_zero, List.set_cons_succ]), ⟨hr.gb, hr.f0, hr.f1, hr.f2, hr.f3, hr.f4, hr.f5, hr.f6, hr.f7, hr.f8, hr.f9, (fun _ => rfl), hr.f11, hr.f12, hr.f13, hr.f14, hr.f15, hr.f16, hr.f17, hr.f18, hr.f19, hr.f20, (fun _ => rfl), hr.f22, hr.f23⟩⟩ (if_pos rfl) (fun j hj => if_neg hj)
      · obtain rfl := Option.some.inj ho
        have g10 : ℓ 10 = true := hdep { on := 10, ground := Ground.data } (by simp) rfl
        have g21 : ℓ 21 = true := hdep { on := 21, ground := Ground.data } (by simp) rfl
        clear hdep ho
        revert hK
        obtain rfl := hr.f10 g10
        obtain rfl := hr.f21 g21
        intro hK
        rw [if_pos (by rfl)]
        try simp only [Act.put, List.setIfInBounds_toArray, List.set_cons_zero, List.set_cons_succ]
        go_simp
        exact hK.out _ _ (fun j => if j = 22 then true else ℓ j) ⟨x7, x8, x9, x10, x11, x12, x13, x14, x15, x16, .bool false, x18, x19, x20, x21, x22, x23, x24, x25, x26, x27, undef, .bool false, x6, (by simp only [Act.put, List.setIfInBounds_toArray, List.set_cons_zero, List.set_cons_succ]), ⟨hr.gb, hr.f0, hr.f1, hr.f2, hr.f3, hr.f4, hr.f5, hr.f6, hr.f7, hr.f8, hr.f9, (fun _ => rfl), hr.f11, hr.f12, hr.f13, hr.f14, hr.f15, hr.f16, hr.f17, hr.f18, hr.f19, hr.f20, (fun _ => rfl), (fun _ => rfl), hr.f23⟩⟩ (if_pos rfl) (fun j hj => if_neg hj)
      · obtain rfl := Option.some.inj ho
        have g22 : ℓ 22 = true := hdep { on := 22, ground := Ground.data } (by simp) rfl
        clear hdep ho
        revert hK
        obtain rfl := hr.f22 g22
        intro hK
        rw [if_pos (by rfl)]
        try simp only [Act.put, List.setIfInBounds_toArray, List.set_cons_zero, List.set_cons_succ]
        go_simp
        exact hK.out _ _ (fun j => if j = 23 then true else ℓ j) ⟨x7, x8, x9, x10, x11, x12, x13, x14, x15, x16, x17, x18, x19, x20, x21, x22, x23, x24, x25, x26, x27, x28, .bool false, .bool false, (by simp only [Act.put, List.setIfInBounds_toArray, List.set_cons_zero, List.set_cons_succ]), ⟨hr.gb, hr.f0, hr.f1, hr.f2, hr.f3, hr.f4, hr.f5, hr.f6, hr.f7, hr.f8, hr.f9, hr.f10, hr.f11, hr.f12, hr.f13, hr.f14, hr.f15, hr.f16, hr.f17, hr.f18, hr.f19, hr.f20, hr.f21, (fun _ => rfl), (fun _ => rfl)⟩⟩ (if_pos rfl) (fun j hj => if_neg hj)
    · rintro a' w' ℓ ℓ' hℓ hI
      rw [← show ℓ = ℓ' from funext hℓ]
      exact hI
  have HK1 : Hid ((sn : Int) < 16) := by show _ < _; omega
  by_cases hlf : lost < f
  rotate_left
  · have HK2 : Hid (¬ (lost < f)) := hlf
    have HFIN : Hid (Ending.returned (.bool false) = Ending.returned (.bool q)) := by
      show _ = _
      rw [not_true hq2 (fun h => hlf h.2.1)]
    clear hq2
    refine wp_region_inv (by kernel_rfl) (by kernel_rfl) (fun A ℓ a' w' => ∃ (x7 x8 x9 x10 x11 x12 x13 x14 x15 x16 x17 x18 x19 x20 x21 x22 x23 x24 x25 x26 x27 x28 x29 x6 : Value), a' = ((((((((((((((((((((((((A.put (some 7) x7).put (some 8) x8).put (some 9) x9).put (some 10) x10).put (some 11) x11).put (some 12) x12).put (some 13) x13).put (some 14) x14).put (some 15) x15).put (some 16) x16).put (some 17) x17).put (some 18) x18).put (some 19) x19).put (some 20) x20).put (some 21) x21).put (some 22) x22).put (some 23) x23).put (some 24) x24).put (some 25) x25).put (some 26) x26).put (some 27) x27).put (some 28) x28).put (some 29) x29).put (some 6) x6) ∧ RcB W1 (tbV t a) (.pointer (some ⟨w.heap.size, 18, none⟩)) (.slice (some ⟨b1, o1, none⟩) sn sc) (.int .i64 (sn : Int)) (.int .i64 f) (.int .i64 lost) (.int .i64 (k : Int)) (.pointer (some ⟨b1, o1 + k * 3, none⟩)) (.pointer (some ⟨b1, o1 + k * 3 + 2, none⟩)) (.int .i64 z3) (.int .i64 (z3 - f)) (.bool q) w' (ℓ 0) (ℓ 1) (ℓ 2) (ℓ 3) (ℓ 4) (ℓ 5) (ℓ 6) (ℓ 7) (ℓ 8) (ℓ 9) (ℓ 10) (ℓ 11) (ℓ 12) (ℓ 13) (ℓ 14) (ℓ 15) (ℓ 16) (ℓ 17) (ℓ 18) (ℓ 19) (ℓ 20) (ℓ 21) (ℓ 22) (ℓ 23) x7 x8 x9 x10 x11 x12 x13 x14 x15 x16 x17 x18 x19 x20 x21 x22 x23 x24 x25 x26 x27 x28 x29 x6) ?_ ?_ ?_ ?_
    · exact ⟨undef, undef, undef, undef, undef, undef, undef, undef, undef, undef, undef, undef, undef, undef, undef, undef, undef, undef, undef, undef, undef, undef, undef, .bool false, (by simp only [Act.put, List.setIfInBounds_toArray, List.set_cons_zero, List.set_cons_succ]), ⟨HW0.out.drew, (fun g => by cases g), (fun g => by cases g), (fun g => by cases g), (fun g => by cases g), (fun g => by cases g), (fun g => by cases g), (fun g => by cases g), (fun g => by cases g), (fun g => by cases g), (fun g => by cases g), (fun g => by cases g), (fun g => by cases g), (fun g => by cases g), (fun g => by cases g), (fun g => by cases g), (fun g => by cases g), (fun g => by cases g), (fun g => by cases g), (fun g => by cases g), (fun g => by cases g), (fun g => by cases g), (fun g => by cases g), (fun g => by cases g), (fun g => by cases g)⟩⟩
    · intro ℓ a' w' hI hall
      obtain ⟨x7, x8, x9, x10, x11, x12, x13, x14, x15, x16, x17, x18, x19, x20, x21, x22, x23, x24, x25, x26, x27, x28, x29, x6, rfl, hr⟩ := hI
      have hall' : ∀ i, i < 24 → ℓ i = true := hall
      obtain rfl := hr.f0 (hall' 0 (by decide))
      obtain rfl := hr.f1 (hall' 1 (by decide))
      obtain rfl := hr.f2 (hall' 2 (by decide))
      obtain rfl := hr.f3 (hall' 3 (by decide))
      obtain rfl := hr.f4 (hall' 4 (by decide))
      obtain rfl := hr.f5 (hall' 5 (by decide))
      obtain rfl := hr.f6 (hall' 6 (by decide))
      obtain rfl := hr.f7 (hall' 7 (by decide))
      obtain rfl := hr.f8 (hall' 8 (by decide))
      obtain rfl := hr.f9 (hall' 9 (by decide))
      obtain rfl := hr.f10 (hall' 10 (by decide))
      obtain rfl := hr.f11 (hall' 11 (by decide))
      obtain rfl := hr.f12 (hall' 12 (by decide))
      obtain rfl := hr.f13 (hall' 13 (by decide))
      obtain rfl := hr.f14 (hall' 14 (by decide))
      obtain rfl := hr.f15 (hall' 15 (by decide))
      obtain rfl := hr.f16 (hall' 16 (by decide))
      obtain rfl := hr.f17 (hall' 17 (by decide))
      obtain rfl := hr.f18 (hall' 18 (by decide))
      obtain rfl := hr.f19 (hall' 19 (by decide))
      obtain rfl := hr.f20 (hall' 20 (by decide))
      obtain rfl := hr.f21 (hall' 21 (by decide))
      obtain rfl := hr.f22 (hall' 22 (by decide))
      obtain rfl := hr.f23 (hall' 23 (by decide))
      have gb : Hid (Below W1.heap.size W1 w') := hr.gb
      clear hall hall' hr
      simp only [Act.put, List.setIfInBounds_toArray, List.set_cons_zero, List.set_cons_succ]
      go_wp2
      go_ret
      exact ⟨HFIN.out, HBW.out.trans (gb.out.mono HBW.out.size)⟩
    · intro ℓ a' w' i o hI ho hi hL hdep K hK
      obtain ⟨x7, x8, x9, x10, x11, x12, x13, x14, x15, x16, x17, x18, x19, x20, x21, x22, x23, x24, x25, x26, x27, x28, x29, x6, rfl, hr⟩ := hI
      have hi7 : i < 24 := hi
      have hcs : i = 0 ∨ i = 1 ∨ i = 2 ∨ i = 3 ∨ i = 4 ∨ i = 5 ∨ i = 6 ∨ i = 7 ∨ i = 8 ∨ i = 9 ∨ i = 10 ∨ i = 11 ∨ i = 12 ∨ i = 13 ∨ i = 14 ∨ i = 15 ∨ i = 16 ∨ i = 17 ∨ i = 18 ∨ i = 19 ∨ i = 20 ∨ i = 21 ∨ i = 22 ∨ i = 23 := by omega
      clear hi hi7
      rcases hcs with rfl | rfl | rfl | rfl | rfl | rfl | rfl | rfl | rfl | rfl | rfl | rfl | rfl | rfl | rfl | rfl | rfl | rfl | rfl | rfl | rfl | rfl | rfl | rfl
      · obtain rfl := Option.some.inj ho
        clear hdep ho
        revert hK
        intro hK
        rw [if_pos (by rfl)]
        try simp only [Act.put, List.setIfInBounds_toArray, List.set_cons_zero, List.set_cons_succ]
        go_simp
        exact hK.out _ _ (fun j => if j = 0 then true else ℓ j) ⟨.pointer (some ⟨w.heap.size, 18, none⟩), x8, x9, x10, x11, x12, x13, x14, x15, x16, x17, x18, x19, x20, x21, x22, x23, x24, x25, x26, x27, x28, x29, x6, (by simp only [Act.put, List.setIfInBounds_toArray, List.set_cons_zero, List.set_cons_succ]), ⟨hr.gb, (fun _ => rfl), hr.f1, hr.f2, hr.f3, hr.f4, hr.f5, hr.f6, hr.f7, hr.f8, hr.f9, hr.f10, hr.f11, hr.f12, hr.f13, hr.f14, hr.f15, hr.f16, hr.f17, hr.f18, hr.f19, hr.f20, hr.f21, hr.f22, hr.f23⟩⟩ (if_pos rfl) (fun j hj => if_neg hj)
      · obtain rfl := Option.some.inj ho
        have g0 : ℓ 0 = true := hdep { on := 0, ground := Ground.data } (by simp) rfl
        clear hdep ho
        revert hK
        obtain rfl := hr.f0 g0
        have hcx := (HCX.out _ hr.gb).1
        intro hK
        rw [if_pos (by rfl)]
        try simp only [Act.put, List.setIfInBounds_toArray, List.set_cons_zero, List.set_cons_succ]
        go_simp
        exact hK.out _ _ (fun j => if j = 1 then true else ℓ j) ⟨.pointer (some ⟨w.heap.size, 18, none⟩), .slice (some ⟨b1, o1, none⟩) sn sc, x9, x10, x11, x12, x13, x14, x15, x16, x17, x18, x19, x20, x21, x22, x23, x24, x25, x26, x27, x28, x29, x6, (by simp only [Act.put, List.setIfInBounds_toArray, List.set_cons_zero, List.set_cons_succ]), ⟨hr.gb, (fun _ => rfl), (fun _ => rfl), hr.f2, hr.f3, hr.f4, hr.f5, hr.f6, hr.f7, hr.f8, hr.f9, hr.f10, hr.f11, hr.f12, hr.f13, hr.f14, hr.f15, hr.f16, hr.f17, hr.f18, hr.f19, hr.f20, hr.f21, hr.f22, hr.f23⟩⟩ (if_pos rfl) (fun j hj => if_neg hj)
      · obtain rfl := Option.some.inj ho
        have g1 : ℓ 1 = true := hdep { on := 1, ground := Ground.data } (by simp) rfl
        clear hdep ho
        revert hK
        obtain rfl := hr.f1 g1
        intro hK
        rw [if_pos (by rfl)]
        try simp only [Act.put, List.setIfInBounds_toArray, List.set_cons_zero, List.set_cons_succ]
        go_simp
        exact hK.out _ _ (fun j => if j = 2 then true else ℓ j) ⟨x7, .slice (some ⟨b1, o1, none⟩) sn sc, .int .i64 (sn : Int), x10, x11, x12, x13, x14, x15, x16, x17, x18, x19, x20, x21, x22, x23, x24, x25, x26, x27, x28, x29, x6, (by simp only [Act.put, List.setIfInBounds_toArray, List.set_cons_zero, List.set_cons_succ]), ⟨hr.gb, hr.f0, (fun _ => rfl), (fun _ => rfl), hr.f3, hr.f4, hr.f5, hr.f6, hr.f7, hr.f8, hr.f9, hr.f10, hr.f11, hr.f12, hr.f13, hr.f14, hr.f15, hr.f16, hr.f17, hr.f18, hr.f19, hr.f20, hr.f21, hr.f22, hr.f23⟩⟩ (if_pos rfl) (fun j hj => if_neg hj)
      · obtain rfl := Option.some.inj ho
        have g2 : ℓ 2 = true := hdep { on := 2, ground := Ground.data } (by simp) rfl
        clear hdep ho
        revert hK
        obtain rfl := hr.f2 g2
        have hb1 := HK1.out
        intro hK
        rw [if_pos (by rfl)]
        try simp only [Act.put, List.setIfInBounds_toArray, List.set_cons_zero, List.set_cons_succ]
        go_simp
        exact hK.out _ _ (fun j => if j = 3 then true else ℓ j) ⟨x7, x8, .int .i64 (sn : Int), .bool true, x11, x12, x13, x14, x15, x16, x17, x18, x19, x20, x21, x22, x23, x24, x25, x26, x27, x28, x29, x6, (by simp only [Act.put, List.setIfInBounds_toArray, List.set_cons_zero, List.set_cons_succ]), ⟨hr.gb, hr.f0, hr.f1, (fun _ => rfl), (fun _ => rfl), hr.f4, hr.f5, hr.f6, hr.f7, hr.f8, hr.f9, hr.f10, hr.f11, hr.f12, hr.f13, hr.f14, hr.f15, hr.f16, hr.f17, hr.f18, hr.f19, hr.f20, hr.f21, hr.f22, hr.f23⟩⟩ (if_pos rfl) (fun j hj => if_neg hj)
      · obtain rfl := Option.some.inj ho
        have g3 : ℓ 3 = true := hdep { on := 3, ground := Ground.data } (by simp) rfl
        clear hdep ho
        revert hK
        obtain rfl := hr.f3 g3
        intro hK
        rw [if_pos (by rfl)]
        try simp only [Act.put, List.setIfInBounds_toArray, List.set_cons_zero, List.set_cons_succ]
        go_simp
        exact hK.out _ _ (fun j => if j = 4 then true else ℓ j) ⟨x7, x8, x9, .bool true, .bool true, x12, x13, x14, x15, x16, x17, x18, x19, x20, x21, x22, x23, x24, x25, x26, x27, x28, x29, x6, (by simp only [Act.put, List.setIfInBounds_toArray, List.set_cons_zero, List.set_cons_succ]), ⟨hr.gb, hr.f0, hr.f1, hr.f2, (fun _ => rfl), (fun _ => rfl), hr.f5, hr.f6, hr.f7, hr.f8, hr.f9, hr.f10, hr.f11, hr.f12, hr.f13, hr.f14, hr.f15, hr.f16, hr.f17, hr.f18, hr.f19, hr.f20, hr.f21, hr.f22, hr.f23⟩⟩ (if_pos rfl) (fun j hj => if_neg hj)
      · obtain rfl := Option.some.inj ho
        have g4 : ℓ 4 = true := hdep { on := 4, ground := Ground.guard } (by simp) rfl
        clear hdep ho
        revert hK
        obtain rfl := hr.f4 g4
        intro hK
        try simp only [Act.put, List.setIfInBounds_toArray, List.set_cons_zero, List.set_cons_succ]
        rw [if_pos (by rfl)]
        try simp only [Act.put, List.setIfInBounds_toArray, List.set_cons_zero, List.set_cons_succ]
        go_simp
        exact hK.out _ _ (fun j => if j = 5 then true else ℓ j) ⟨x7, x8, x9, x10, .bool true, .int .i64 f, x13, x14, x15, x16, x17, x18, x19, x20, x21, x22, x23, x24, x25, x26, x27, x28, x29, x6, (by simp only [Act.put, List.setIfInBounds_toArray, List.set_cons_zero, List.set_cons_succ]), ⟨hr.gb, hr.f0, hr.f1, hr.f2, hr.f3, (fun _ => rfl), (fun _ => rfl), hr.f6, hr.f7, hr.f8, hr.f9, hr.f10, hr.f11, hr.f12, hr.f13, hr.f14, hr.f15, hr.f16, hr.f17, hr.f18, hr.f19, hr.f20, hr.f21, hr.f22, hr.f23⟩⟩ (if_pos rfl) (fun j hj => if_neg hj)
      · replace ho : some ({ dst := some 13, op := Op.load 33 (Operand.tmp 3), type := 33, pos := "l23_plan.go:43", after := #[{ on := 4, ground := Ground.guard }], guard := some (4, true) } : Oper) = some o := ho
        obtain rfl := Option.some.inj ho
        have g4 : ℓ 4 = true := hdep { on := 4, ground := Ground.guard } (by simp) rfl
        clear hdep ho
        revert hK
        obtain rfl := hr.f4 g4
        intro hK
        try simp only [Act.put, List.setIfInBounds_toArray, List.set_cons_zero, List.set_cons_succ]
        rw [if_pos (by rfl)]
        try simp only [Act.put, List.setIfInBounds_toArray, List.set_cons_zero, List.set_cons_succ]
        refine wp_load_row (P := Tryz.prog) 33 (.tmp 3) rfl w.heap.size rfl 33 (tbA t a) (0, 0) _ (HXB.out _ hr.gb) Tryz.underlying33 rfl (by kernel_rfl) ?_
        exact hK.out _ _ (fun j => if j = 6 then true else ℓ j) ⟨x7, x8, x9, x10, .bool true, x12, tbV t a, x14, x15, x16, x17, x18, x19, x20, x21, x22, x23, x24, x25, x26, x27, x28, x29, x6, (by simp only [Act.put, List.setIfInBounds_toArray, List.set_cons_zero, List.set_cons_succ]), ⟨hr.gb, hr.f0, hr.f1, hr.f2, hr.f3, (fun _ => rfl), hr.f5, (fun _ => rfl), hr.f7, hr.f8, hr.f9, hr.f10, hr.f11, hr.f12, hr.f13, hr.f14, hr.f15, hr.f16, hr.f17, hr.f18, hr.f19, hr.f20, hr.f21, hr.f22, hr.f23⟩⟩ (if_pos rfl) (fun j hj => if_neg hj)
      · obtain rfl := Option.some.inj ho
        have g6 : ℓ 6 = true := hdep { on := 6, ground := Ground.data } (by simp) rfl
        have g4 : ℓ 4 = true := hdep { on := 4, ground := Ground.guard } (by simp) rfl
        clear hdep ho
        revert hK
        obtain rfl := hr.f4 g4
        obtain rfl := hr.f6 g6
        intro hK
        try simp only [Act.put, List.setIfInBounds_toArray, List.set_cons_zero, List.set_cons_succ]
        rw [if_pos (by rfl)]
        try simp only [Act.put, List.setIfInBounds_toArray, List.set_cons_zero, List.set_cons_succ]
        go_simp
        refine Calls.mono (HLO.out _) ?_
        rintro e w9 ⟨rfl, hb9⟩
        have hr9 := hr.below hb9
        exact hK.out _ _ (fun j => if j = 7 then true else ℓ j) ⟨x7, x8, x9, x10, .bool true, x12, tbV t a, .int .i64 lost, x15, x16, x17, x18, x19, x20, x21, x22, x23, x24, x25, x26, x27, x28, x29, x6, (by simp only [Act.put, List.setIfInBounds_toArray, List.set_cons_zero, List.set_cons_succ]), ⟨hr9.gb, hr9.f0, hr9.f1, hr9.f2, hr9.f3, (fun _ => rfl), hr9.f5, (fun _ => rfl), (fun _ => rfl), hr9.f8, hr9.f9, hr9.f10, hr9.f11, hr9.f12, hr9.f13, hr9.f14, hr9.f15, hr9.f16, hr9.f17, hr9.f18, hr9.f19, hr9.f20, hr9.f21, hr9.f22, hr9.f23⟩⟩ (if_pos rfl) (fun j hj => if_neg hj)
      · obtain rfl := Option.some.inj ho
        have g5 : ℓ 5 = true := hdep { on := 5, ground := Ground.data } (by simp) rfl
        have g7 : ℓ 7 = true := hdep { on := 7, ground := Ground.data } (by simp) rfl
        have g4 : ℓ 4 = true := hdep { on := 4, ground := Ground.guard } (by simp) rfl
        clear hdep ho
        revert hK
        obtain rfl := hr.f4 g4
        obtain rfl := hr.f5 g5
        obtain rfl := hr.f7 g7
        have hb1 := HK2.out
        intro hK
        try simp only [Act.put, List.setIfInBounds_toArray, List.set_cons_zero, List.set_cons_succ]
        rw [if_pos (by rfl)]
        try simp only [Act.put, List.setIfInBounds_toArray, List.set_cons_zero, List.set_cons_succ]
        go_simp
        exact hK.out _ _ (fun j => if j = 8 then true else ℓ j) ⟨x7, x8, x9, x10, .bool true, .int .i64 f, x13, .int .i64 lost, .bool false, x16, x17, x18, x19, x20, x21, x22, x23, x24, x25, x26, x27, x28, x29, x6, (by simp only [Act.put, List.setIfInBounds_toArray, List.set_cons_zero, List.set_cons_succ]), ⟨hr.gb, hr.f0, hr.f1, hr.f2, hr.f3, (fun _ => rfl), (fun _ => rfl), hr.f6, (fun _ => rfl), (fun _ => rfl), hr.f9, hr.f10, hr.f11, hr.f12, hr.f13, hr.f14, hr.f15, hr.f16, hr.f17, hr.f18, hr.f19, hr.f20, hr.f21, hr.f22, hr.f23⟩⟩ (if_pos rfl) (fun j hj => if_neg hj)
      · obtain rfl := Option.some.inj ho
        have g4 : ℓ 4 = true := hdep { on := 4, ground := Ground.data } (by simp) rfl
        have g8 : ℓ 8 = true := hdep { on := 8, ground := Ground.data } (by simp) rfl
        clear hdep ho
        revert hK
        obtain rfl := hr.f4 g4
        obtain rfl := hr.f8 g8
        intro hK
        rw [if_pos (by rfl)]
        try simp only [Act.put, List.setIfInBounds_toArray, List.set_cons_zero, List.set_cons_succ]
        go_simp
        exact hK.out _ _ (fun j => if j = 9 then true else ℓ j) ⟨x7, x8, x9, x10, .bool true, x12, x13, x14, .bool false, .bool false, x17, x18, x19, x20, x21, x22, x23, x24, x25, x26, x27, x28, x29, x6, (by simp only [Act.put, List.setIfInBounds_toArray, List.set_cons_zero, List.set_cons_succ]), ⟨hr.gb, hr.f0, hr.f1, hr.f2, hr.f3, (fun _ => rfl), hr.f5, hr.f6, hr.f7, (fun _ => rfl), (fun _ => rfl), hr.f10, hr.f11, hr.f12, hr.f13, hr.f14, hr.f15, hr.f16, hr.f17, hr.f18, hr.f19, hr.f20, hr.f21, hr.f22, hr.f23⟩⟩ (if_pos rfl) (fun j hj => if_neg hj)
      · obtain rfl := Option.some.inj ho
        have g9 : ℓ 9 = true := hdep { on := 9, ground := Ground.data } (by simp) rfl
        clear hdep ho
        revert hK
        obtain rfl := hr.f9 g9
        intro hK
        rw [if_pos (by rfl)]
        try simp only [Act.put, List.setIfInBounds_toArray, List.set_cons_zero, List.set_cons_succ]
        go_simp
        exact hK.out _ _ (fun j => if j = 10 then true else ℓ j) ⟨x7, x8, x9, x10, x11, x12, x13, x14, x15, .bool false, .bool false, x18, x19, x20, x21, x22, x23, x24, x25, x26, x27, x28, x29, x6, (by simp only [Act.put, List.setIfInBounds_toArray, List.set_cons_zero, List.set_cons_succ]), ⟨hr.gb, hr.f0, hr.f1, hr.f2, hr.f3, hr.f4, hr.f5, hr.f6, hr.f7, hr.f8, (fun _ => rfl), (fun _ => rfl), hr.f11, hr.f12, hr.f13, hr.f14, hr.f15, hr.f16, hr.f17, hr.f18, hr.f19, hr.f20, hr.f21, hr.f22, hr.f23⟩⟩ (if_pos rfl) (fun j hj => if_neg hj)
      · obtain rfl := Option.some.inj ho
        have g10 : ℓ 10 = true := hdep { on := 10, ground := Ground.guard } (by simp) rfl
        clear hdep ho
        revert hK
        obtain rfl := hr.f10 g10
        intro hK
        try simp only [Act.put, List.setIfInBounds_toArray, List.set_cons_zero, List.set_cons_succ]
        rw [if_neg (by first | exact fun h => Bool.false_ne_true h | exact fun h => Bool.false_ne_true h.symm)]
        try simp only [List.getElem_toArray, List.getElem_cons_zero, List.getElem_cons_succ, List.set_cons_zero, List.set_cons_succ]
        exact hK.out _ _ (fun j => if j = 11 then true else ℓ j) ⟨x7, x8, x9, x10, x11, x12, x13, x14, x15, x16, .bool false, undef, x19, x20, x21, x22, x23, x24, x25, x26, x27, x28, x29, x6, (by simp only [Act.put, List.setIfInBounds_toArray, List.set_cons_zero, List.set_cons_succ]), ⟨hr.gb, hr.f0, hr.f1, hr.f2, hr.f3, hr.f4, hr.f5, hr.f6, hr.f7, hr.f8, hr.f9, (fun _ => rfl), (fun _ => rfl), hr.f12, hr.f13, hr.f14, hr.f15, hr.f16, hr.f17, hr.f18, hr.f19, hr.f20, hr.f21, hr.f22, hr.f23⟩⟩ (if_pos rfl) (fun j hj => if_neg hj)
      · obtain rfl := Option.some.inj ho
        have g10 : ℓ 10 = true := hdep { on := 10, ground := Ground.guard } (by simp) rfl
        clear hdep ho
        revert hK
        obtain rfl := hr.f10 g10
        intro hK
        try simp only [Act.put, List.setIfInBounds_toArray, List.set_cons_zero, List.set_cons_succ]
        rw [if_neg (by first | exact fun h => Bool.false_ne_true h | exact fun h => Bool.false_ne_true h.symm)]
        try simp only [List.getElem_toArray, List.getElem_cons_zero, List.getElem_cons_succ, List.set_cons_zero, List.set_cons_succ]
        exact hK.out _ _ (fun j => if j = 12 then true else ℓ j) ⟨x7, x8, x9, x10, x11, x12, x13, x14, x15, x16, .bool false, x18, undef, x20, x21, x22, x23, x24, x25, x26, x27, x28, x29, x6, (by simp only [Act.put, List.setIfInBounds_toArray, List.set_cons_zero, List.set_cons_succ]), ⟨hr.gb, hr.f0, hr.f1, hr.f2, hr.f3, hr.f4, hr.f5, hr.f6, hr.f7, hr.f8, hr.f9, (fun _ => rfl), hr.f11, (fun _ => rfl), hr.f13, hr.f14, hr.f15, hr.f16, hr.f17, hr.f18, hr.f19, hr.f20, hr.f21, hr.f22, hr.f23⟩⟩ (if_pos rfl) (fun j hj => if_neg hj)
      · obtain rfl := Option.some.inj ho
        have g10 : ℓ 10 = true := hdep { on := 10, ground := Ground.guard } (by simp) rfl
        clear hdep ho
        revert hK
        obtain rfl := hr.f10 g10
        intro hK
        try simp only [Act.put, List.setIfInBounds_toArray, List.set_cons_zero, List.set_cons_succ]
        rw [if_neg (by first | exact fun h => Bool.false_ne_true h | exact fun h => Bool.false_ne_true h.symm)]
        try simp only [List.getElem_toArray, List.getElem_cons_zero, List.getElem_cons_succ, List.set_cons_zero, List.set_cons_succ]
        exact hK.out _ _ (fun j => if j = 13 then true else ℓ j) ⟨x7, x8, x9, x10, x11, x12, x13, x14, x15, x16, .bool false, x18, x19, undef, x21, x22, x23, x24, x25, x26, x27, x28, x29, x6, (by simp only [Act.put, List.setIfInBounds_toArray, List.set_cons_zero, List.set_cons_succ]), ⟨hr.gb, hr.f0, hr.f1, hr.f2, hr.f3, hr.f4, hr.f5, hr.f6, hr.f7, hr.f8, hr.f9, (fun _ => rfl), hr.f11, hr.f12, (fun _ => rfl), hr.f14, hr.f15, hr.f16, hr.f17, hr.f18, hr.f19, hr.f20, hr.f21, hr.f22, hr.f23⟩⟩ (if_pos rfl) (fun j hj => if_neg hj)
      · obtain rfl := Option.some.inj ho
        have g10 : ℓ 10 = true := hdep { on := 10, ground := Ground.guard } (by simp) rfl
        clear hdep ho
        revert hK
        obtain rfl := hr.f10 g10
        intro hK
        try simp only [Act.put, List.setIfInBounds_toArray, List.set_cons_zero, List.set_cons_succ]
        rw [if_neg (by first | exact fun h => Bool.false_ne_true h | exact fun h => Bool.false_ne_true h.symm)]
        try simp only [List.getElem_toArray, List.getElem_cons_zero, List.getElem_cons_succ, List.set_cons_zero, List.set_cons_succ]
        exact hK.out _ _ (fun j => if j = 14 then true else ℓ j) ⟨x7, x8, x9, x10, x11, x12, x13, x14, x15, x16, .bool false, x18, x19, x20, undef, x22, x23, x24, x25, x26, x27, x28, x29, x6, (by simp only [Act.put, List.setIfInBounds_toArray, List.set_cons_zero, List.set_cons_succ]), ⟨hr.gb, hr.f0, hr.f1, hr.f2, hr.f3, hr.f4, hr.f5, hr.f6, hr.f7, hr.f8, hr.f9, (fun _ => rfl), hr.f11, hr.f12, hr.f13, (fun _ => rfl), hr.f15, hr.f16, hr.f17, hr.f18, hr.f19, hr.f20, hr.f21, hr.f22, hr.f23⟩⟩ (if_pos rfl) (fun j hj => if_neg hj)
      · obtain rfl := Option.some.inj ho
        have g10 : ℓ 10 = true := hdep { on := 10, ground := Ground.guard } (by simp) rfl
        clear hdep ho
        revert hK
        obtain rfl := hr.f10 g10
        intro hK
        try simp only [Act.put, List.setIfInBounds_toArray, List.set_cons_zero, List.set_cons_succ]
        rw [if_neg (by first | exact fun h => Bool.false_ne_true h | exact fun h => Bool.false_ne_true h.symm)]
        try simp only [List.getElem_toArray, List.getElem_cons_zero, List.getElem_cons_succ, List.set_cons_zero, List.set_cons_succ]
        exact hK.out _ _ (fun j => if j = 15 then true else ℓ j) ⟨x7, x8, x9, x10, x11, x12, x13, x14, x15, x16, .bool false, x18, x19, x20, x21, undef, x23, x24, x25, x26, x27, x28, x29, x6, (by simp only [Act.put, List.setIfInBounds_toArray, List.set_cons_zero, List.set_cons_succ]), ⟨hr.gb, hr.f0, hr.f1, hr.f2, hr.f3, hr.f4, hr.f5, hr.f6, hr.f7, hr.f8, hr.f9, (fun _ => rfl), hr.f11, hr.f12, hr.f13, hr.f14, (fun _ => rfl), hr.f16, hr.f17, hr.f18, hr.f19, hr.f20, hr.f21, hr.f22, hr.f23⟩⟩ (if_pos rfl) (fun j hj => if_neg hj)
      · obtain rfl := Option.some.inj ho
        have g10 : ℓ 10 = true := hdep { on := 10, ground := Ground.guard } (by simp) rfl
        clear hdep ho
        revert hK
        obtain rfl := hr.f10 g10
        intro hK
        try simp only [Act.put, List.setIfInBounds_toArray, List.set_cons_zero, List.set_cons_succ]
        rw [if_neg (by first | exact fun h => Bool.false_ne_true h | exact fun h => Bool.false_ne_true h.symm)]
        try simp only [List.getElem_toArray, List.getElem_cons_zero, List.getElem_cons_succ, List.set_cons_zero, List.set_cons_succ]
        exact hK.out _ _ (fun j => if j = 16 then true else ℓ j) ⟨x7, x8, x9, x10, x11, x12, x13, x14, x15, x16, .bool false, x18, x19, x20, x21, x22, undef, x24, x25, x26, x27, x28, x29, x6, (by simp only [Act.put, List.setIfInBounds_toArray, List.set_cons_zero, List.set_cons_succ]), ⟨hr.gb, hr.f0, hr.f1, hr.f2, hr.f3, hr.f4, hr.f5, hr.f6, hr.f7, hr.f8, hr.f9, (fun _ => rfl), hr.f11, hr.f12, hr.f13, hr.f14, hr.f15, (fun _ => rfl), hr.f17, hr.f18, hr.f19, hr.f20, hr.f21, hr.f22, hr.f23⟩⟩ (if_pos rfl) (fun j hj => if_neg hj)
      · obtain rfl := Option.some.inj ho
        have g10 : ℓ 10 = true := hdep { on := 10, ground := Ground.guard } (by simp) rfl
        clear hdep ho
        revert hK
        obtain rfl := hr.f10 g10
        intro hK
        try simp only [Act.put, List.setIfInBounds_toArray, List.set_cons_zero, List.set_cons_succ]
        rw [if_neg (by first | exact fun h => Bool.false_ne_true h | exact fun h => Bool.false_ne_true h.symm)]
        try simp only [List.getElem_toArray, List.getElem_cons_zero, List.getElem_cons_succ, List.set_cons_zero, List.set_cons_succ]
        exact hK.out _ _ (fun j => if j = 17 then true else ℓ j) ⟨x7, x8, x9, x10, x11, x12, x13, x14, x15, x16, .bool false, x18, x19, x20, x21, x22, x23, undef, x25, x26, x27, x28, x29, x6, (by simp only [Act.put, List.setIfInBounds_toArray, List.set_cons_zero, List.set_cons_succ]), ⟨hr.gb, hr.f0, hr.f1, hr.f2, hr.f3, hr.f4, hr.f5, hr.f6, hr.f7, hr.f8, hr.f9, (fun _ => rfl), hr.f11, hr.f12, hr.f13, hr.f14, hr.f15, hr.f16, (fun _ => rfl), hr.f18, hr.f19, hr.f20, hr.f21, hr.f22, hr.f23⟩⟩ (if_pos rfl) (fun j hj => if_neg hj)
      · obtain rfl := Option.some.inj ho
        have g10 : ℓ 10 = true := hdep { on := 10, ground := Ground.guard } (by simp) rfl
        clear hdep ho
        revert hK
        obtain rfl := hr.f10 g10
        intro hK
        try simp only [Act.put, List.setIfInBounds_toArray, List.set_cons_zero, List.set_cons_succ]
        rw [if_neg (by first | exact fun h => Bool.false_ne_true h | exact fun h => Bool.false_ne_true h.symm)]
        try simp only [List.getElem_toArray, List.getElem_cons_zero, List.getElem_cons_succ, List.set_cons_zero, List.set_cons_succ]
        exact hK.out _ _ (fun j => if j = 18 then true else ℓ j) ⟨x7, x8, x9, x10, x11, x12, x13, x14, x15, x16, .bool false, x18, x19, x20, x21, x22, x23, x24, undef, x26, x27, x28, x29, x6, (by simp only [Act.put, List.setIfInBounds_toArray, List.set_cons_zero, List.set_cons_succ]), ⟨hr.gb, hr.f0, hr.f1, hr.f2, hr.f3, hr.f4, hr.f5, hr.f6, hr.f7, hr.f8, hr.f9, (fun _ => rfl), hr.f11, hr.f12, hr.f13, hr.f14, hr.f15, hr.f16, hr.f17, (fun _ => rfl), hr.f19, hr.f20, hr.f21, hr.f22, hr.f23⟩⟩ (if_pos rfl) (fun j hj => if_neg hj)
      · obtain rfl := Option.some.inj ho
        have g10 : ℓ 10 = true := hdep { on := 10, ground := Ground.guard } (by simp) rfl
        clear hdep ho
        revert hK
        obtain rfl := hr.f10 g10
        intro hK
        try simp only [Act.put, List.setIfInBounds_toArray, List.set_cons_zero, List.set_cons_succ]
        rw [if_neg (by first | exact fun h => Bool.false_ne_true h | exact fun h => Bool.false_ne_true h.symm)]
        try simp only [List.getElem_toArray, List.getElem_cons_zero, List.getElem_cons_succ, List.set_cons_zero, List.set_cons_succ]
        exact hK.out _ _ (fun j => if j = 19 then true else ℓ j) ⟨x7, x8, x9, x10, x11, x12, x13, x14, x15, x16, .bool false, x18, x19, x20, x21, x22, x23, x24, x25, undef, x27, x28, x29, x6, (by simp only [Act.put, List.setIfInBounds_toArray, List.set_cons_zero, List.set_cons_succ]), ⟨hr.gb, hr.f0, hr.f1, hr.f2, hr.f3, hr.f4, hr.f5, hr.f6, hr.f7, hr.f8, hr.f9, (fun _ => rfl), hr.f11, hr.f12, hr.f13, hr.f14, hr.f15, hr.f16, hr.f17, hr.f18, (fun _ => rfl), hr.f20, hr.f21, hr.f22, hr.f23⟩⟩ (if_pos rfl) (fun j hj => if_neg hj)
      · obtain rfl := Option.some.inj ho
        have g10 : ℓ 10 = true := hdep { on := 10, ground := Ground.guard } (by simp) rfl
        clear hdep ho
        revert hK
        obtain rfl := hr.f10 g10
        intro hK
        try simp only [Act.put, List.setIfInBounds_toArray, List.set_cons_zero, List.set_cons_succ]
        rw [if_neg (by first | exact fun h => Bool.false_ne_true h | exact fun h => Bool.false_ne_true h.symm)]
        try simp only [List.getElem_toArray, List.getElem_cons_zero, List.getElem_cons_succ, List.set_cons_zero, List.set_cons_succ]
        exact hK.out _ _ (fun j => if j = 20 then true else ℓ j) ⟨x7, x8, x9, x10, x11, x12, x13, x14, x15, x16, .bool false, x18, x19, x20, x21, x22, x23, x24, x25, x26, undef, x28, x29, x6, (by simp only [Act.put, List.setIfInBounds_toArray, List.set_cons_zero, List.set_cons_succ]), ⟨hr.gb, hr.f0, hr.f1, hr.f2, hr.f3, hr.f4, hr.f5, hr.f6, hr.f7, hr.f8, hr.f9, (fun _ => rfl), hr.f11, hr.f12, hr.f13, hr.f14, hr.f15, hr.f16, hr.f17, hr.f18, hr.f19, (fun _ => rfl), hr.f21, hr.f22, hr.f23⟩⟩ (if_pos rfl) (fun j hj => if_neg hj)
      · obtain rfl := Option.some.inj ho
        have g10 : ℓ 10 = true := hdep { on := 10, ground := Ground.guard } (by simp) rfl
        clear hdep ho
        revert hK
        obtain rfl := hr.f10 g10
        intro hK
        try simp only [Act.put, List.setIfInBounds_toArray, List.set_cons_zero, List.set_cons_succ]
        rw [if_neg (by first | exact fun h => Bool.false_ne_true h | exact fun h => Bool.false_ne_true h.symm)]
        try simp only [List.getElem_toArray, List.getElem_cons_zero, List.getElem_cons_succ, List.set_cons_zero, List.set_cons_succ]
        exact hK.out _ _ (fun j => if j = 21 then true else ℓ j) ⟨x7, x8, x9, x10, x11, x12, x13, x14, x15, x16, .bool false, x18, x19, x20, x21, x22, x23, x24, x25, x26, x27, undef, x29, x6, (by simp only [Act.put, List.setIfInBounds_toArray, List.set_cons_zero, List.set_cons_succ]), ⟨hr.gb, hr.f0, hr.f1, hr.f2, hr.f3, hr.f4, hr.f5, hr.f6, hr.f7, hr.f8, hr.f9, (fun _ => rfl), hr.f11, hr.f12, hr.f13, hr.f14, hr.f15, hr.f16, hr.f17, hr.f18, hr.f19, hr.f20, (fun _ => rfl), hr.f22, hr.f23⟩⟩ (if_pos rfl) (fun j hj => if_neg hj)
      · obtain rfl := Option.some.inj ho
        have g10 : ℓ 10 = true := hdep { on := 10, ground := Ground.data } (by simp) rfl
        have g21 : ℓ 21 = true := hdep { on := 21, ground := Ground.data } (by simp) rfl
        clear hdep ho
        revert hK
        obtain rfl := hr.f10 g10
        obtain rfl := hr.f21 g21
        intro hK
        rw [if_pos (by rfl)]
        try simp only [Act.put, List.setIfInBounds_toArray, List.set_cons_zero, List.set_cons_succ]
        go_simp
        exact hK.out _ _ (fun j => if j = 22 then true else ℓ j) ⟨x7, x8, x9, x10, x11, x12, x13, x14, x15, x16, .bool false, x18, x19, x20, x21, x22, x23, x24, x25, x26, x27, undef, .bool false, x6, (by simp only [Act.put, List.setIfInBounds_toArray, List.set_cons_zero, List.set_cons_succ]), ⟨hr.gb, hr.f0, hr.f1, hr.f2, hr.f3, hr.f4, hr.f5, hr.f6, hr.f7, hr.f8, hr.f9, (fun _ => rfl), hr.f11, hr.f12, hr.f13, hr.f14, hr.f15, hr.f16, hr.f17, hr.f18, hr.f19, hr.f20, (fun _ => rfl), (fun _ => rfl), hr.f23⟩⟩ (if_pos rfl) (fun j hj => if_neg hj)
      · obtain rfl := Option.some.inj ho
        have g22 : ℓ 22 = true := hdep { on := 22, ground := Ground.data } (by simp) rfl
        clear hdep ho
        revert hK
        obtain rfl := hr.f22 g22
        intro hK
        rw [if_pos (by rfl)]
        try simp only [Act.put, List.setIfInBounds_toArray, List.set_cons_zero, List.set_cons_succ]
        go_simp
        exact hK.out _ _ (fun j => if j = 23 then true else ℓ j) ⟨x7, x8, x9, x10, x11, x12, x13, x14, x15, x16, x17, x18, x19, x20, x21, x22, x23, x24, x25, x26, x27, x28, .bool false, .bool false, (by simp only [Act.put, List.setIfInBounds_toArray, List.set_cons_zero, List.set_cons_succ]), ⟨hr.gb, hr.f0, hr.f1, hr.f2, hr.f3, hr.f4, hr.f5, hr.f6, hr.f7, hr.f8, hr.f9, hr.f10, hr.f11, hr.f12, hr.f13, hr.f14, hr.f15, hr.f16, hr.f17, hr.f18, hr.f19, hr.f20, hr.f21, (fun _ => rfl), (fun _ => rfl)⟩⟩ (if_pos rfl) (fun j hj => if_neg hj)
    · rintro a' w' ℓ ℓ' hℓ hI
      rw [← show ℓ = ℓ' from funext hℓ]
      exact hI
  have HK2 : Hid (lost < f) := hlf
  have HWR : Hid (IntKind.i64.wrap (z3 - f) = z3 - f) := by have := HZB.out; show _ = _; rw [IntKind.wrap_i64]; omega
  have HQ : Hid (decide (lost < z3 - f) = q) := bool_is hq2 ⟨fun h => ⟨h16, hlf, of_decide_eq_true h⟩, fun h => decide_eq_true h.2.2⟩
  clear hq2
  refine wp_region_inv (by kernel_rfl) (by kernel_rfl) (fun A ℓ a' w' => ∃ (x7 x8 x9 x10 x11 x12 x13 x14 x15 x16 x17 x18 x19 x20 x21 x22 x23 x24 x25 x26 x27 x28 x29 x6 : Value), a' = ((((((((((((((((((((((((A.put (some 7) x7).put (some 8) x8).put (some 9) x9).put (some 10) x10).put (some 11) x11).put (some 12) x12).put (some 13) x13).put (some 14) x14).put (some 15) x15).put (some 16) x16).put (some 17) x17).put (some 18) x18).put (some 19) x19).put (some 20) x20).put (some 21) x21).put (some 22) x22).put (some 23) x23).put (some 24) x24).put (some 25) x25).put (some 26) x26).put (some 27) x27).put (some 28) x28).put (some 29) x29).put (some 6) x6) ∧ RcY W1 (tbV t a) (.pointer (some ⟨w.heap.size, 18, none⟩)) (.slice (some ⟨b1, o1, none⟩) sn sc) (.int .i64 (sn : Int)) (.int .i64 f) (.int .i64 lost) (.int .i64 (k : Int)) (.pointer (some ⟨b1, o1 + k * 3, none⟩)) (.pointer (some ⟨b1, o1 + k * 3 + 2, none⟩)) (.int .i64 z3) (.int .i64 (z3 - f)) (.bool q) w' (ℓ 0) (ℓ 1) (ℓ 2) (ℓ 3) (ℓ 4) (ℓ 5) (ℓ 6) (ℓ 7) (ℓ 8) (ℓ 9) (ℓ 10) (ℓ 11) (ℓ 12) (ℓ 13) (ℓ 14) (ℓ 15) (ℓ 16) (ℓ 17) (ℓ 18) (ℓ 19) (ℓ 20) (ℓ 21) (ℓ 22) (ℓ 23) x7 x8 x9 x10 x11 x12 x13 x14 x15 x16 x17 x18 x19 x20 x21 x22 x23 x24 x25 x26 x27 x28 x29 x6) ?_ ?_ ?_ ?_
  · exact ⟨undef, undef, undef, undef, undef, undef, undef, undef, undef, undef, undef, undef, undef, undef, undef, undef, undef, undef, undef, undef, undef, undef, undef, .bool false, (by simp only [Act.put, List.setIfInBounds_toArray, List.set_cons_zero, List.set_cons_succ]), ⟨HW0.out.drew, (fun g => by cases g), (fun g => by cases g), (fun g => by cases g), (fun g => by cases g), (fun g => by cases g), (fun g => by cases g), (fun g => by cases g), (fun g => by cases g), (fun g => by cases g), (fun g => by cases g), (fun g => by cases g), (fun g => by cases g), (fun g => by cases g), (fun g => by cases g), (fun g => by cases g), (fun g => by cases g), (fun g => by cases g), (fun g => by cases g), (fun g => by cases g), (fun g => by cases g), (fun g => by cases g), (fun g => by cases g), (fun g => by cases g), (fun g => by cases g)⟩⟩
  · intro ℓ a' w' hI hall
    obtain ⟨x7, x8, x9, x10, x11, x12, x13, x14, x15, x16, x17, x18, x19, x20, x21, x22, x23, x24, x25, x26, x27, x28, x29, x6, rfl, hr⟩ := hI
    have hall' : ∀ i, i < 24 → ℓ i = true := hall
    obtain rfl := hr.f0 (hall' 0 (by decide))
    obtain rfl := hr.f1 (hall' 1 (by decide))
    obtain rfl := hr.f2 (hall' 2 (by decide))
    obtain rfl := hr.f3 (hall' 3 (by decide))
    obtain rfl := hr.f4 (hall' 4 (by decide))
    obtain rfl := hr.f5 (hall' 5 (by decide))
    obtain rfl := hr.f6 (hall' 6 (by decide))
    obtain rfl := hr.f7 (hall' 7 (by decide))
    obtain rfl := hr.f8 (hall' 8 (by decide))
    obtain rfl := hr.f9 (hall' 9 (by decide))
    obtain rfl := hr.f10 (hall' 10 (by decide))
    obtain rfl := hr.f11 (hall' 11 (by decide))
    obtain rfl := hr.f12 (hall' 12 (by decide))
    obtain rfl := hr.f13 (hall' 13 (by decide))
    obtain rfl := hr.f14 (hall' 14 (by decide))
    obtain rfl := hr.f15 (hall' 15 (by decide))
    obtain rfl := hr.f16 (hall' 16 (by decide))
    obtain rfl := hr.f17 (hall' 17 (by decide))
    obtain rfl := hr.f18 (hall' 18 (by decide))
    obtain rfl := hr.f19 (hall' 19 (by decide))
    obtain rfl := hr.f20 (hall' 20 (by decide))
    obtain rfl := hr.f21 (hall' 21 (by decide))
    obtain rfl := hr.f22 (hall' 22 (by decide))
    obtain rfl := hr.f23 (hall' 23 (by decide))
    have gb : Hid (Below W1.heap.size W1 w') := hr.gb
    clear hall hall' hr
    simp only [Act.put, List.setIfInBounds_toArray, List.set_cons_zero, List.set_cons_succ]
    go_wp2
    go_ret
    exact ⟨rfl, HBW.out.trans (gb.out.mono HBW.out.size)⟩
  · intro ℓ a' w' i o hI ho hi hL hdep K hK
    obtain ⟨x7, x8, x9, x10, x11, x12, x13, x14, x15, x16, x17, x18, x19, x20, x21, x22, x23, x24, x25, x26, x27, x28, x29, x6, rfl, hr⟩ := hI
    have hi7 : i < 24 := hi
    have hcs : i = 0 ∨ i = 1 ∨ i = 2 ∨ i = 3 ∨ i = 4 ∨ i = 5 ∨ i = 6 ∨ i = 7 ∨ i = 8 ∨ i = 9 ∨ i = 10 ∨ i = 11 ∨ i = 12 ∨ i = 13 ∨ i = 14 ∨ i = 15 ∨ i = 16 ∨ i = 17 ∨ i = 18 ∨ i = 19 ∨ i = 20 ∨ i = 21 ∨ i = 22 ∨ i = 23 := by omega
    clear hi hi7
    rcases hcs with rfl | rfl | rfl | rfl | rfl | rfl | rfl | rfl | rfl | rfl | rfl | rfl | rfl | rfl | rfl | rfl | rfl | rfl | rfl | rfl | rfl | rfl | rfl | rfl
    · obtain rfl := Option.some.inj ho
      clear hdep ho
      revert hK
      intro hK
      rw [if_pos (by rfl)]
      try simp only [Act.put, List.setIfInBounds_toArray, List.set_cons_zero, List.set_cons_succ]
      go_simp
      exact hK.out _ _ (fun j => if j = 0 then true else ℓ j) ⟨.pointer (some ⟨w.heap.size, 18, none⟩), x8, x9, x10, x11, x12, x13, x14, x15, x16, x17, x18, x19, x20, x21, x22, x23, x24, x25, x26, x27, x28, x29, x6, (by simp only [Act.put, List.setIfInBounds_toArray, List.set_cons_zero, List.set_cons_succ]), ⟨hr.gb, (fun _ => rfl), hr.f1, hr.f2, hr.f3, hr.f4, hr.f5, hr.f6, hr.f7, hr.f8, hr.f9, hr.f10, hr.f11, hr.f12, hr.f13, hr.f14, hr.f15, hr.f16, hr.f17, hr.f18, hr.f19, hr.f20, hr.f21, hr.f22, hr.f23⟩⟩ (if_pos rfl) (fun j hj => if_neg hj)
    · obtain rfl := Option.some.inj ho
      have g0 : ℓ 0 = true := hdep { on := 0, ground := Ground.data } (by simp) rfl
      clear hdep ho
      revert hK
      obtain rfl := hr.f0 g0
      have hcx := (HCX.out _ hr.gb).1
      intro hK
      rw [if_pos (by rfl)]
      try simp only [Act.put, List.setIfInBounds_toArray, List.set_cons_zero, List.set_cons_succ]
      go_simp
      exact hK.out _ _ (fun j => if j = 1 then true else ℓ j) ⟨.pointer (some ⟨w.heap.size, 18, none⟩), .slice (some ⟨b1, o1, none⟩) sn sc, x9, x10, x11, x12, x13, x14, x15, x16, x17, x18, x19, x20, x21, x22, x23, x24, x25, x26, x27, x28, x29, x6, (by simp only [Act.put, List.setIfInBounds_toArray, List.set_cons_zero, List.set_cons_succ]), ⟨hr.gb, (fun _ => rfl), (fun _ => rfl), hr.f2, hr.f3, hr.f4, hr.f5, hr.f6, hr.f7, hr.f8, hr.f9, hr.f10, hr.f11, hr.f12, hr.f13, hr.f14, hr.f15, hr.f16, hr.f17, hr.f18, hr.f19, hr.f20, hr.f21, hr.f22, hr.f23⟩⟩ (if_pos rfl) (fun j hj => if_neg hj)
    · obtain rfl := Option.some.inj ho
      have g1 : ℓ 1 = true := hdep { on := 1, ground := Ground.data } (by simp) rfl
      clear hdep ho
      revert hK
      obtain rfl := hr.f1 g1
      intro hK
      rw [if_pos (by rfl)]
      try simp only [Act.put, List.setIfInBounds_toArray, List.set_cons_zero, List.set_cons_succ]
      go_simp
      exact hK.out _ _ (fun j => if j = 2 then true else ℓ j) ⟨x7, .slice (some ⟨b1, o1, none⟩) sn sc, .int .i64 (sn : Int), x10, x11, x12, x13, x14, x15, x16, x17, x18, x19, x20, x21, x22, x23, x24, x25, x26, x27, x28, x29, x6, (by simp only [Act.put, List.setIfInBounds_toArray, List.set_cons_zero, List.set_cons_succ]), ⟨hr.gb, hr.f0, (fun _ => rfl), (fun _ => rfl), hr.f3, hr.f4, hr.f5, hr.f6, hr.f7, hr.f8, hr.f9, hr.f10, hr.f11, hr.f12, hr.f13, hr.f14, hr.f15, hr.f16, hr.f17, hr.f18, hr.f19, hr.f20, hr.f21, hr.f22, hr.f23⟩⟩ (if_pos rfl) (fun j hj => if_neg hj)
    · obtain rfl := Option.some.inj ho
      have g2 : ℓ 2 = true := hdep { on := 2, ground := Ground.data } (by simp) rfl
      clear hdep ho
      revert hK
      obtain rfl := hr.f2 g2
      have hb1 := HK1.out
      intro hK
      rw [if_pos (by rfl)]
      try simp only [Act.put, List.setIfInBounds_toArray, List.set_cons_zero, List.set_cons_succ]
      go_simp
      exact hK.out _ _ (fun j => if j = 3 then true else ℓ j) ⟨x7, x8, .int .i64 (sn : Int), .bool true, x11, x12, x13, x14, x15, x16, x17, x18, x19, x20, x21, x22, x23, x24, x25, x26, x27, x28, x29, x6, (by simp only [Act.put, List.setIfInBounds_toArray, List.set_cons_zero, List.set_cons_succ]), ⟨hr.gb, hr.f0, hr.f1, (fun _ => rfl), (fun _ => rfl), hr.f4, hr.f5, hr.f6, hr.f7, hr.f8, hr.f9, hr.f10, hr.f11, hr.f12, hr.f13, hr.f14, hr.f15, hr.f16, hr.f17, hr.f18, hr.f19, hr.f20, hr.f21, hr.f22, hr.f23⟩⟩ (if_pos rfl) (fun j hj => if_neg hj)
    · obtain rfl := Option.some.inj ho
      have g3 : ℓ 3 = true := hdep { on := 3, ground := Ground.data } (by simp) rfl
      clear hdep ho
      revert hK
      obtain rfl := hr.f3 g3
      intro hK
      rw [if_pos (by rfl)]
      try simp only [Act.put, List.setIfInBounds_toArray, List.set_cons_zero, List.set_cons_succ]
      go_simp
      exact hK.out _ _ (fun j => if j = 4 then true else ℓ j) ⟨x7, x8, x9, .bool true, .bool true, x12, x13, x14, x15, x16, x17, x18, x19, x20, x21, x22, x23, x24, x25, x26, x27, x28, x29, x6, (by simp only [Act.put, List.setIfInBounds_toArray, List.set_cons_zero, List.set_cons_succ]), ⟨hr.gb, hr.f0, hr.f1, hr.f2, (fun _ => rfl), (fun _ => rfl), hr.f5, hr.f6, hr.f7, hr.f8, hr.f9, hr.f10, hr.f11, hr.f12, hr.f13, hr.f14, hr.f15, hr.f16, hr.f17, hr.f18, hr.f19, hr.f20, hr.f21, hr.f22, hr.f23⟩⟩ (if_pos rfl) (fun j hj => if_neg hj)
    · obtain rfl := Option.some.inj ho
      have g4 : ℓ 4 = true := hdep { on := 4, ground := Ground.guard } (by simp) rfl
      clear hdep ho
      revert hK
      obtain rfl := hr.f4 g4
      intro hK
      try simp only [Act.put, List.setIfInBounds_toArray, List.set_cons_zero, List.set_cons_succ]
      rw [if_pos (by rfl)]
      try simp only [Act.put, List.setIfInBounds_toArray, List.set_cons_zero, List.set_cons_succ]
      go_simp
      exact hK.out _ _ (fun j => if j = 5 then true else ℓ j) ⟨x7, x8, x9, x10, .bool true, .int .i64 f, x13, x14, x15, x16, x17, x18, x19, x20, x21, x22, x23, x24, x25, x26, x27, x28, x29, x6, (by simp only [Act.put, List.setIfInBounds_toArray, List.set_cons_zero, List.set_cons_succ]), ⟨hr.gb, hr.f0, hr.f1, hr.f2, hr.f3, (fun _ => rfl), (fun _ => rfl), hr.f6, hr.f7, hr.f8, hr.f9, hr.f10, hr.f11, hr.f12, hr.f13, hr.f14, hr.f15, hr.f16, hr.f17, hr.f18, hr.f19, hr.f20, hr.f21, hr.f22, hr.f23⟩⟩ (if_pos rfl) (fun j hj => if_neg hj)
    · replace ho : some ({ dst := some 13, op := Op.load 33 (Operand.tmp 3), type := 33, pos := "l23_plan.go:43", after := #[{ on := 4, ground := Ground.guard }], guard := some (4, true) } : Oper) = some o := ho
      obtain rfl := Option.some.inj ho
      have g4 : ℓ 4 = true := hdep { on := 4, ground := Ground.guard } (by simp) rfl
      clear hdep ho
      revert hK
      obtain rfl := hr.f4 g4
      intro hK
      try simp only [Act.put, List.setIfInBounds_toArray, List.set_cons_zero, List.set_cons_succ]
      rw [if_pos (by rfl)]
      try simp only [Act.put, List.setIfInBounds_toArray, List.set_cons_zero, List.set_cons_succ]
      refine wp_load_row (P := Tryz.prog) 33 (.tmp 3) rfl w.heap.size rfl 33 (tbA t a) (0, 0) _ (HXB.out _ hr.gb) Tryz.underlying33 rfl (by kernel_rfl) ?_
      exact hK.out _ _ (fun j => if j = 6 then true else ℓ j) ⟨x7, x8, x9, x10, .bool true, x12, tbV t a, x14, x15, x16, x17, x18, x19, x20, x21, x22, x23, x24, x25, x26, x27, x28, x29, x6, (by simp only [Act.put, List.setIfInBounds_toArray, List.set_cons_zero, List.set_cons_succ]), ⟨hr.gb, hr.f0, hr.f1, hr.f2, hr.f3, (fun _ => rfl), hr.f5, (fun _ => rfl), hr.f7, hr.f8, hr.f9, hr.f10, hr.f11, hr.f12, hr.f13, hr.f14, hr.f15, hr.f16, hr.f17, hr.f18, hr.f19, hr.f20, hr.f21, hr.f22, hr.f23⟩⟩ (if_pos rfl) (fun j hj => if_neg hj)
    · obtain rfl := Option.some.inj ho
      have g6 : ℓ 6 = true := hdep { on := 6, ground := Ground.data } (by simp) rfl
      have g4 : ℓ 4 = true := hdep { on := 4, ground := Ground.guard } (by simp) rfl
      clear hdep ho
      revert hK
      obtain rfl := hr.f4 g4
      obtain rfl := hr.f6 g6
      intro hK
      try simp only [Act.put, List.setIfInBounds_toArray, List.set_cons_zero, List.set_cons_succ]
      rw [if_pos (by rfl)]
      try simp only [Act.put, List.setIfInBounds_toArray, List.set_cons_zero, List.set_cons_succ]
      go_simp
      refine Calls.mono (HLO.out _) ?_
      rintro e w9 ⟨rfl, hb9⟩
      have hr9 := hr.below hb9
      exact hK.out _ _ (fun j => if j = 7 then true else ℓ j) ⟨x7, x8, x9, x10, .bool true, x12, tbV t a, .int .i64 lost, x15, x16, x17, x18, x19, x20, x21, x22, x23, x24, x25, x26, x27, x28, x29, x6, (by simp only [Act.put, List.setIfInBounds_toArray, List.set_cons_zero, List.set_cons_succ]), ⟨hr9.gb, hr9.f0, hr9.f1, hr9.f2, hr9.f3, (fun _ => rfl), hr9.f5, (fun _ => rfl), (fun _ => rfl), hr9.f8, hr9.f9, hr9.f10, hr9.f11, hr9.f12, hr9.f13, hr9.f14, hr9.f15, hr9.f16, hr9.f17, hr9.f18, hr9.f19, hr9.f20, hr9.f21, hr9.f22, hr9.f23⟩⟩ (if_pos rfl) (fun j hj => if_neg hj)
    · obtain rfl := Option.some.inj ho
      have g5 : ℓ 5 = true := hdep { on := 5, ground := Ground.data } (by simp) rfl
      have g7 : ℓ 7 = true := hdep { on := 7, ground := Ground.data } (by simp) rfl
      have g4 : ℓ 4 = true := hdep { on := 4, ground := Ground.guard } (by simp) rfl
      clear hdep ho
      revert hK
      obtain rfl := hr.f4 g4
      obtain rfl := hr.f5 g5
      obtain rfl := hr.f7 g7
      have hb1 := HK2.out
      intro hK
      try simp only [Act.put, List.setIfInBounds_toArray, List.set_cons_zero, List.set_cons_succ]
      rw [if_pos (by rfl)]
      try simp only [Act.put, List.setIfInBounds_toArray, List.set_cons_zero, List.set_cons_succ]
      go_simp
      exact hK.out _ _ (fun j => if j = 8 then true else ℓ j) ⟨x7, x8, x9, x10, .bool true, .int .i64 f, x13, .int .i64 lost, .bool true, x16, x17, x18, x19, x20, x21, x22, x23, x24, x25, x26, x27, x28, x29, x6, (by simp only [Act.put, List.setIfInBounds_toArray, List.set_cons_zero, List.set_cons_succ]), ⟨hr.gb, hr.f0, hr.f1, hr.f2, hr.f3, (fun _ => rfl), (fun _ => rfl), hr.f6, (fun _ => rfl), (fun _ => rfl), hr.f9, hr.f10, hr.f11, hr.f12, hr.f13, hr.f14, hr.f15, hr.f16, hr.f17, hr.f18, hr.f19, hr.f20, hr.f21, hr.f22, hr.f23⟩⟩ (if_pos rfl) (fun j hj => if_neg hj)
    · obtain rfl := Option.some.inj ho
      have g4 : ℓ 4 = true := hdep { on := 4, ground := Ground.data } (by simp) rfl
      have g8 : ℓ 8 = true := hdep { on := 8, ground := Ground.data } (by simp) rfl
      clear hdep ho
      revert hK
      obtain rfl := hr.f4 g4
      obtain rfl := hr.f8 g8
      intro hK
      rw [if_pos (by rfl)]
      try simp only [Act.put, List.setIfInBounds_toArray, List.set_cons_zero, List.set_cons_succ]
      go_simp
      exact hK.out _ _ (fun j => if j = 9 then true else ℓ j) ⟨x7, x8, x9, x10, .bool true, x12, x13, x14, .bool true, .bool true, x17, x18, x19, x20, x21, x22, x23, x24, x25, x26, x27, x28, x29, x6, (by simp only [Act.put, List.setIfInBounds_toArray, List.set_cons_zero, List.set_cons_succ]), ⟨hr.gb, hr.f0, hr.f1, hr.f2, hr.f3, (fun _ => rfl), hr.f5, hr.f6, hr.f7, (fun _ => rfl), (fun _ => rfl), hr.f10, hr.f11, hr.f12, hr.f13, hr.f14, hr.f15, hr.f16, hr.f17, hr.f18, hr.f19, hr.f20, hr.f21, hr.f22, hr.f23⟩⟩ (if_pos rfl) (fun j hj => if_neg hj)
    · obtain rfl := Option.some.inj ho
      have g9 : ℓ 9 = true := hdep { on := 9, ground := Ground.data } (by simp) rfl
      clear hdep ho
      revert hK
      obtain rfl := hr.f9 g9
      intro hK
      rw [if_pos (by rfl)]
      try simp only [Act.put, List.setIfInBounds_toArray, List.set_cons_zero, List.set_cons_succ]
      go_simp
      exact hK.out _ _ (fun j => if j = 10 then true else ℓ j) ⟨x7, x8, x9, x10, x11, x12, x13, x14, x15, .bool true, .bool true, x18, x19, x20, x21, x22, x23, x24, x25, x26, x27, x28, x29, x6, (by simp only [Act.put, List.setIfInBounds_toArray, List.set_cons_zero, List.set_cons_succ]), ⟨hr.gb, hr.f0, hr.f1, hr.f2, hr.f3, hr.f4, hr.f5, hr.f6, hr.f7, hr.f8, (fun _ => rfl), (fun _ => rfl), hr.f11, hr.f12, hr.f13, hr.f14, hr.f15, hr.f16, hr.f17, hr.f18, hr.f19, hr.f20, hr.f21, hr.f22, hr.f23⟩⟩ (if_pos rfl) (fun j hj => if_neg hj)
    · obtain rfl := Option.some.inj ho
      have g10 : ℓ 10 = true := hdep { on := 10, ground := Ground.guard } (by simp) rfl
      clear hdep ho
      revert hK
      obtain rfl := hr.f10 g10
      intro hK
      try simp only [Act.put, List.setIfInBounds_toArray, List.set_cons_zero, List.set_cons_succ]
      rw [if_pos (by rfl)]
      try simp only [Act.put, List.setIfInBounds_toArray, List.set_cons_zero, List.set_cons_succ]
      go_simp
      exact hK.out _ _ (fun j => if j = 11 then true else ℓ j) ⟨x7, x8, x9, x10, x11, x12, x13, x14, x15, x16, .bool true, .pointer (some ⟨w.heap.size, 18, none⟩), x19, x20, x21, x22, x23, x24, x25, x26, x27, x28, x29, x6, (by simp only [Act.put, List.setIfInBounds_toArray, List.set_cons_zero, List.set_cons_succ]), ⟨hr.gb, hr.f0, hr.f1, hr.f2, hr.f3, hr.f4, hr.f5, hr.f6, hr.f7, hr.f8, hr.f9, (fun _ => rfl), (fun _ => rfl), hr.f12, hr.f13, hr.f14, hr.f15, hr.f16, hr.f17, hr.f18, hr.f19, hr.f20, hr.f21, hr.f22, hr.f23⟩⟩ (if_pos rfl) (fun j hj => if_neg hj)
    · obtain rfl := Option.some.inj ho
      have g11 : ℓ 11 = true := hdep { on := 11, ground := Ground.data } (by simp) rfl
      have g10 : ℓ 10 = true := hdep { on := 10, ground := Ground.guard } (by simp) rfl
      clear hdep ho
      revert hK
      obtain rfl := hr.f10 g10
      obtain rfl := hr.f11 g11
      have hcx := (HCX.out _ hr.gb).1
      intro hK
      try simp only [Act.put, List.setIfInBounds_toArray, List.set_cons_zero, List.set_cons_succ]
      rw [if_pos (by rfl)]
      try simp only [Act.put, List.setIfInBounds_toArray, List.set_cons_zero, List.set_cons_succ]
      go_simp
      exact hK.out _ _ (fun j => if j = 12 then true else ℓ j) ⟨x7, x8, x9, x10, x11, x12, x13, x14, x15, x16, .bool true, .pointer (some ⟨w.heap.size, 18, none⟩), .slice (some ⟨b1, o1, none⟩) sn sc, x20, x21, x22, x23, x24, x25, x26, x27, x28, x29, x6, (by simp only [Act.put, List.setIfInBounds_toArray, List.set_cons_zero, List.set_cons_succ]), ⟨hr.gb, hr.f0, hr.f1, hr.f2, hr.f3, hr.f4, hr.f5, hr.f6, hr.f7, hr.f8, hr.f9, (fun _ => rfl), (fun _ => rfl), (fun _ => rfl), hr.f13, hr.f14, hr.f15, hr.f16, hr.f17, hr.f18, hr.f19, hr.f20, hr.f21, hr.f22, hr.f23⟩⟩ (if_pos rfl) (fun j hj => if_neg hj)
    · obtain rfl := Option.some.inj ho
      have g10 : ℓ 10 = true := hdep { on := 10, ground := Ground.guard } (by simp) rfl
      clear hdep ho
      revert hK
      obtain rfl := hr.f10 g10
      intro hK
      try simp only [Act.put, List.setIfInBounds_toArray, List.set_cons_zero, List.set_cons_succ]
      rw [if_pos (by rfl)]
      try simp only [Act.put, List.setIfInBounds_toArray, List.set_cons_zero, List.set_cons_succ]
      go_simp
      exact hK.out _ _ (fun j => if j = 13 then true else ℓ j) ⟨x7, x8, x9, x10, x11, x12, x13, x14, x15, x16, .bool true, x18, x19, .int .i64 (k : Int), x21, x22, x23, x24, x25, x26, x27, x28, x29, x6, (by simp only [Act.put, List.setIfInBounds_toArray, List.set_cons_zero, List.set_cons_succ]), ⟨hr.gb, hr.f0, hr.f1, hr.f2, hr.f3, hr.f4, hr.f5, hr.f6, hr.f7, hr.f8, hr.f9, (fun _ => rfl), hr.f11, hr.f12, (fun _ => rfl), hr.f14, hr.f15, hr.f16, hr.f17, hr.f18, hr.f19, hr.f20, hr.f21, hr.f22, hr.f23⟩⟩ (if_pos rfl) (fun j hj => if_neg hj)
    · obtain rfl := Option.some.inj ho
      have g12 : ℓ 12 = true := hdep { on := 12, ground := Ground.data } (by simp) rfl
      have g13 : ℓ 13 = true := hdep { on := 13, ground := Ground.data } (by simp) rfl
      have g10 : ℓ 10 = true := hdep { on := 10, ground := Ground.guard } (by simp) rfl
      clear hdep ho
      revert hK
      obtain rfl := hr.f10 g10
      obtain rfl := hr.f12 g12
      obtain rfl := hr.f13 g13
      intro hK
      try simp only [Act.put, List.setIfInBounds_toArray, List.set_cons_zero, List.set_cons_succ]
      rw [if_pos (by rfl)]
      try simp only [Act.put, List.setIfInBounds_toArray, List.set_cons_zero, List.set_cons_succ]
      go_simp
      exact hK.out _ _ (fun j => if j = 14 then true else ℓ j) ⟨x7, x8, x9, x10, x11, x12, x13, x14, x15, x16, .bool true, x18, .slice (some ⟨b1, o1, none⟩) sn sc, .int .i64 (k : Int), .pointer (some ⟨b1, o1 + k * 3, none⟩), x22, x23, x24, x25, x26, x27, x28, x29, x6, (by simp only [Act.put, List.setIfInBounds_toArray, List.set_cons_zero, List.set_cons_succ]), ⟨hr.gb, hr.f0, hr.f1, hr.f2, hr.f3, hr.f4, hr.f5, hr.f6, hr.f7, hr.f8, hr.f9, (fun _ => rfl), hr.f11, (fun _ => rfl), (fun _ => rfl), (fun _ => rfl), hr.f15, hr.f16, hr.f17, hr.f18, hr.f19, hr.f20, hr.f21, hr.f22, hr.f23⟩⟩ (if_pos rfl) (fun j hj => if_neg hj)
    · obtain rfl := Option.some.inj ho
      have g14 : ℓ 14 = true := hdep { on := 14, ground := Ground.data } (by simp) rfl
      have g10 : ℓ 10 = true := hdep { on := 10, ground := Ground.guard } (by simp) rfl
      clear hdep ho
      revert hK
      obtain rfl := hr.f10 g10
      obtain rfl := hr.f14 g14
      intro hK
      try simp only [Act.put, List.setIfInBounds_toArray, List.set_cons_zero, List.set_cons_succ]
      rw [if_pos (by rfl)]
      try simp only [Act.put, List.setIfInBounds_toArray, List.set_cons_zero, List.set_cons_succ]
      go_simp
      exact hK.out _ _ (fun j => if j = 15 then true else ℓ j) ⟨x7, x8, x9, x10, x11, x12, x13, x14, x15, x16, .bool true, x18, x19, x20, .pointer (some ⟨b1, o1 + k * 3, none⟩), .pointer (some ⟨b1, o1 + k * 3 + 2, none⟩), x23, x24, x25, x26, x27, x28, x29, x6, (by simp only [Act.put, List.setIfInBounds_toArray, List.set_cons_zero, List.set_cons_succ]), ⟨hr.gb, hr.f0, hr.f1, hr.f2, hr.f3, hr.f4, hr.f5, hr.f6, hr.f7, hr.f8, hr.f9, (fun _ => rfl), hr.f11, hr.f12, hr.f13, (fun _ => rfl), (fun _ => rfl), hr.f16, hr.f17, hr.f18, hr.f19, hr.f20, hr.f21, hr.f22, hr.f23⟩⟩ (if_pos rfl) (fun j hj => if_neg hj)
    · obtain rfl := Option.some.inj ho
      have g15 : ℓ 15 = true := hdep { on := 15, ground := Ground.data } (by simp) rfl
      have g10 : ℓ 10 = true := hdep { on := 10, ground := Ground.guard } (by simp) rfl
      clear hdep ho
      revert hK
      obtain rfl := hr.f10 g10
      obtain rfl := hr.f15 g15
      have hcx := (HCX.out _ hr.gb).2
      intro hK
      try simp only [Act.put, List.setIfInBounds_toArray, List.set_cons_zero, List.set_cons_succ]
      rw [if_pos (by rfl)]
      try simp only [Act.put, List.setIfInBounds_toArray, List.set_cons_zero, List.set_cons_succ]
      go_simp
      exact hK.out _ _ (fun j => if j = 16 then true else ℓ j) ⟨x7, x8, x9, x10, x11, x12, x13, x14, x15, x16, .bool true, x18, x19, x20, x21, .pointer (some ⟨b1, o1 + k * 3 + 2, none⟩), .int .i64 z3, x24, x25, x26, x27, x28, x29, x6, (by simp only [Act.put, List.setIfInBounds_toArray, List.set_cons_zero, List.set_cons_succ]), ⟨hr.gb, hr.f0, hr.f1, hr.f2, hr.f3, hr.f4, hr.f5, hr.f6, hr.f7, hr.f8, hr.f9, (fun _ => rfl), hr.f11, hr.f12, hr.f13, hr.f14, (fun _ => rfl), (fun _ => rfl), hr.f17, hr.f18, hr.f19, hr.f20, hr.f21, hr.f22, hr.f23⟩⟩ (if_pos rfl) (fun j hj => if_neg hj)
    · obtain rfl := Option.some.inj ho
      have g10 : ℓ 10 = true := hdep { on := 10, ground := Ground.guard } (by simp) rfl
      clear hdep ho
      revert hK
      obtain rfl := hr.f10 g10
      intro hK
      try simp only [Act.put, List.setIfInBounds_toArray, List.set_cons_zero, List.set_cons_succ]
      rw [if_pos (by rfl)]
      try simp only [Act.put, List.setIfInBounds_toArray, List.set_cons_zero, List.set_cons_succ]
      go_simp
      exact hK.out _ _ (fun j => if j = 17 then true else ℓ j) ⟨x7, x8, x9, x10, x11, x12, x13, x14, x15, x16, .bool true, x18, x19, x20, x21, x22, x23, .int .i64 f, x25, x26, x27, x28, x29, x6, (by simp only [Act.put, List.setIfInBounds_toArray, List.set_cons_zero, List.set_cons_succ]), ⟨hr.gb, hr.f0, hr.f1, hr.f2, hr.f3, hr.f4, hr.f5, hr.f6, hr.f7, hr.f8, hr.f9, (fun _ => rfl), hr.f11, hr.f12, hr.f13, hr.f14, hr.f15, hr.f16, (fun _ => rfl), hr.f18, hr.f19, hr.f20, hr.f21, hr.f22, hr.f23⟩⟩ (if_pos rfl) (fun j hj => if_neg hj)
    · obtain rfl := Option.some.inj ho
      have g16 : ℓ 16 = true := hdep { on := 16, ground := Ground.data } (by simp) rfl
      have g17 : ℓ 17 = true := hdep { on := 17, ground := Ground.data } (by simp) rfl
      have g10 : ℓ 10 = true := hdep { on := 10, ground := Ground.guard } (by simp) rfl
      clear hdep ho
      revert hK
      obtain rfl := hr.f10 g10
      obtain rfl := hr.f16 g16
      obtain rfl := hr.f17 g17
      have hwr := HWR.out
      intro hK
      try simp only [Act.put, List.setIfInBounds_toArray, List.set_cons_zero, List.set_cons_succ]
      rw [if_pos (by rfl)]
      try simp only [Act.put, List.setIfInBounds_toArray, List.set_cons_zero, List.set_cons_succ]
      go_simp
      exact hK.out _ _ (fun j => if j = 18 then true else ℓ j) ⟨x7, x8, x9, x10, x11, x12, x13, x14, x15, x16, .bool true, x18, x19, x20, x21, x22, .int .i64 z3, .int .i64 f, .int .i64 (z3 - f), x26, x27, x28, x29, x6, (by simp only [Act.put, List.setIfInBounds_toArray, List.set_cons_zero, List.set_cons_succ]), ⟨hr.gb, hr.f0, hr.f1, hr.f2, hr.f3, hr.f4, hr.f5, hr.f6, hr.f7, hr.f8, hr.f9, (fun _ => rfl), hr.f11, hr.f12, hr.f13, hr.f14, hr.f15, (fun _ => rfl), (fun _ => rfl), (fun _ => rfl), hr.f19, hr.f20, hr.f21, hr.f22, hr.f23⟩⟩ (if_pos rfl) (fun j hj => if_neg hj)
    · replace ho : some ({ dst := some 26, op := Op.load 33 (Operand.tmp 3), type := 33, pos := "l23_plan.go:43", after := #[{ on := 10, ground := Ground.guard }], guard := some (10, true) } : Oper) = some o := ho
      obtain rfl := Option.some.inj ho
      have g10 : ℓ 10 = true := hdep { on := 10, ground := Ground.guard } (by simp) rfl
      clear hdep ho
      revert hK
      obtain rfl := hr.f10 g10
      intro hK
      try simp only [Act.put, List.setIfInBounds_toArray, List.set_cons_zero, List.set_cons_succ]
      rw [if_pos (by rfl)]
      try simp only [Act.put, List.setIfInBounds_toArray, List.set_cons_zero, List.set_cons_succ]
      refine wp_load_row (P := Tryz.prog) 33 (.tmp 3) rfl w.heap.size rfl 33 (tbA t a) (0, 0) _ (HXB.out _ hr.gb) Tryz.underlying33 rfl (by kernel_rfl) ?_
      exact hK.out _ _ (fun j => if j = 19 then true else ℓ j) ⟨x7, x8, x9, x10, x11, x12, x13, x14, x15, x16, .bool true, x18, x19, x20, x21, x22, x23, x24, x25, tbV t a, x27, x28, x29, x6, (by simp only [Act.put, List.setIfInBounds_toArray, List.set_cons_zero, List.set_cons_succ]), ⟨hr.gb, hr.f0, hr.f1, hr.f2, hr.f3, hr.f4, hr.f5, hr.f6, hr.f7, hr.f8, hr.f9, (fun _ => rfl), hr.f11, hr.f12, hr.f13, hr.f14, hr.f15, hr.f16, hr.f17, hr.f18, (fun _ => rfl), hr.f20, hr.f21, hr.f22, hr.f23⟩⟩ (if_pos rfl) (fun j hj => if_neg hj)
    · obtain rfl := Option.some.inj ho
      have g19 : ℓ 19 = true := hdep { on := 19, ground := Ground.data } (by simp) rfl
      have g10 : ℓ 10 = true := hdep { on := 10, ground := Ground.guard } (by simp) rfl
      clear hdep ho
      revert hK
      obtain rfl := hr.f10 g10
      obtain rfl := hr.f19 g19
      intro hK
      try simp only [Act.put, List.setIfInBounds_toArray, List.set_cons_zero, List.set_cons_succ]
      rw [if_pos (by rfl)]
      try simp only [Act.put, List.setIfInBounds_toArray, List.set_cons_zero, List.set_cons_succ]
      go_simp
      refine Calls.mono (HLO.out _) ?_
      rintro e w9 ⟨rfl, hb9⟩
      have hr9 := hr.below hb9
      exact hK.out _ _ (fun j => if j = 20 then true else ℓ j) ⟨x7, x8, x9, x10, x11, x12, x13, x14, x15, x16, .bool true, x18, x19, x20, x21, x22, x23, x24, x25, tbV t a, .int .i64 lost, x28, x29, x6, (by simp only [Act.put, List.setIfInBounds_toArray, List.set_cons_zero, List.set_cons_succ]), ⟨hr9.gb, hr9.f0, hr9.f1, hr9.f2, hr9.f3, hr9.f4, hr9.f5, hr9.f6, hr9.f7, hr9.f8, hr9.f9, (fun _ => rfl), hr9.f11, hr9.f12, hr9.f13, hr9.f14, hr9.f15, hr9.f16, hr9.f17, hr9.f18, (fun _ => rfl), (fun _ => rfl), hr9.f21, hr9.f22, hr9.f23⟩⟩ (if_pos rfl) (fun j hj => if_neg hj)
    · obtain rfl := Option.some.inj ho
      have g18 : ℓ 18 = true := hdep { on := 18, ground := Ground.data } (by simp) rfl
      have g20 : ℓ 20 = true := hdep { on := 20, ground := Ground.data } (by simp) rfl
      have g10 : ℓ 10 = true := hdep { on := 10, ground := Ground.guard } (by simp) rfl
      clear hdep ho
      revert hK
      obtain rfl := hr.f10 g10
      obtain rfl := hr.f18 g18
      obtain rfl := hr.f20 g20
      have hb1 := HQ.out
      intro hK
      try simp only [Act.put, List.setIfInBounds_toArray, List.set_cons_zero, List.set_cons_succ]
      rw [if_pos (by rfl)]
      try simp only [Act.put, List.setIfInBounds_toArray, List.set_cons_zero, List.set_cons_succ]
      go_simp
      exact hK.out _ _ (fun j => if j = 21 then true else ℓ j) ⟨x7, x8, x9, x10, x11, x12, x13, x14, x15, x16, .bool true, x18, x19, x20, x21, x22, x23, x24, .int .i64 (z3 - f), x26, .int .i64 lost, .bool q, x29, x6, (by simp only [Act.put, List.setIfInBounds_toArray, List.set_cons_zero, List.set_cons_succ]), ⟨hr.gb, hr.f0, hr.f1, hr.f2, hr.f3, hr.f4, hr.f5, hr.f6, hr.f7, hr.f8, hr.f9, (fun _ => rfl), hr.f11, hr.f12, hr.f13, hr.f14, hr.f15, hr.f16, hr.f17, (fun _ => rfl), hr.f19, (fun _ => rfl), (fun _ => rfl), hr.f22, hr.f23⟩⟩ (if_pos rfl) (fun j hj => if_neg hj)
    · obtain rfl := Option.some.inj ho
      have g10 : ℓ 10 = true := hdep { on := 10, ground := Ground.data } (by simp) rfl
      have g21 : ℓ 21 = true := hdep { on := 21, ground := Ground.data } (by simp) rfl
      clear hdep ho
      revert hK
      obtain rfl := hr.f10 g10
      obtain rfl := hr.f21 g21
      intro hK
      rw [if_pos (by rfl)]
      try simp only [Act.put, List.setIfInBounds_toArray, List.set_cons_zero, List.set_cons_succ]
      go_simp
      exact hK.out _ _ (fun j => if j = 22 then true else ℓ j) ⟨x7, x8, x9, x10, x11, x12, x13, x14, x15, x16, .bool true, x18, x19, x20, x21, x22, x23, x24, x25, x26, x27, .bool q, .bool q, x6, (by simp only [Act.put, List.setIfInBounds_toArray, List.set_cons_zero, List.set_cons_succ]), ⟨hr.gb, hr.f0, hr.f1, hr.f2, hr.f3, hr.f4, hr.f5, hr.f6, hr.f7, hr.f8, hr.f9, (fun _ => rfl), hr.f11, hr.f12, hr.f13, hr.f14, hr.f15, hr.f16, hr.f17, hr.f18, hr.f19, hr.f20, (fun _ => rfl), (fun _ => rfl), hr.f23⟩⟩ (if_pos rfl) (fun j hj => if_neg hj)
    · obtain rfl := Option.some.inj ho
      have g22 : ℓ 22 = true := hdep { on := 22, ground := Ground.data } (by simp) rfl
      clear hdep ho
      revert hK
      obtain rfl := hr.f22 g22
      intro hK
      rw [if_pos (by rfl)]
      try simp only [Act.put, List.setIfInBounds_toArray, List.set_cons_zero, List.set_cons_succ]
      go_simp
      exact hK.out _ _ (fun j => if j = 23 then true else ℓ j) ⟨x7, x8, x9, x10, x11, x12, x13, x14, x15, x16, x17, x18, x19, x20, x21, x22, x23, x24, x25, x26, x27, x28, .bool q, .bool q, (by simp only [Act.put, List.setIfInBounds_toArray, List.set_cons_zero, List.set_cons_succ]), ⟨hr.gb, hr.f0, hr.f1, hr.f2, hr.f3, hr.f4, hr.f5, hr.f6, hr.f7, hr.f8, hr.f9, hr.f10, hr.f11, hr.f12, hr.f13, hr.f14, hr.f15, hr.f16, hr.f17, hr.f18, hr.f19, hr.f20, hr.f21, (fun _ => rfl), (fun _ => rfl)⟩⟩ (if_pos rfl) (fun j hj => if_neg hj)
  · rintro a' w' ℓ ℓ' hℓ hI
    rw [← show ℓ = ℓ' from funext hℓ]
    exact hI
end Go.Proofs.YtlomcdgfcocmmaaGreatDoor
namespace Go.Proofs.YtlomcdgfcocmmaaGreatDoor
open Go.ChangeShapes Go.WideShapes Go.ChangeAt Go.RowKit Go.Deep Go.Joins
set_option linter.unusedVariables false

set_option maxRecDepth 40000 in
set_option maxHeartbeats 4000000 in
theorem wpList_load_row_w {P : Program} {ops : Array Oper} {rest : List Oper} {o : Oper} {a : Act} {w : World} {Q : Exit → Act → World → Prop} (hw : Region.wanted o (yielded ops a.tmps) = true) (ty : TypeId) (x : Operand) (ho : o.op = .load ty x)
    (g : Nat) (hx : a.eval x = .pointer (some ⟨g, 0, none⟩)) (t : TypeId) (cs : Array Value) (fr : Nat × Nat) (d : TypeDesc) (hg : w.heap[g]? = some (.cells cs t fr))
    (hu : P.underlying ty = some d) (hd : (match d with | .struct _ | .array _ _ => true | _ => false) = true) (hi : (P.info? ty).map (·.size) = some cs.size)
    (h : wpList P ops Q rest (a.put o.dst (.agg cs)) w) : wpList P ops Q (o :: rest) a w :=
  wpList_step fun _ hK => by
    simp only [hw, if_true]
    exact wp_load_row ty x ho g hx t cs fr d hg hu hd hi (hK _ _ h)
theorem otr_zero {lo : Nat} {w : World} (h : lo ≤ w.heap.size) : OTR lo w tz az :=
  ⟨(kt_zero lo w.heap.size w).tm, ⟨lo, lo, lo, Nat.le_refl _, Nat.le_refl _, h, Nat.le_refl _, ⟨fun g => absurd g (Nat.lt_irrefl 0), fun _ _ _ i hi => absurd hi (Nat.not_lt_zero i), fun _ _ _ g => absurd g (Nat.lt_irrefl 0)⟩, fun g => absurd g (Nat.lt_irrefl 0), fun g => absurd g (Nat.lt_irrefl 0), fun g => absurd g (Nat.lt_irrefl 0)⟩, tw_zero, ts_zero, Nat.le_refl _, Nat.le_refl _⟩
theorem res_isw {W : World} {B : Nat} {cs : Array Value} {b : Bool} {tmps : Array Value} (h : W.heap[B]? = some (.cells cs 33 (0, 0))) (hl : cs.size = 19) (ht : tmps[6]? = some (.pointer (some ⟨B, 0, none⟩))) (hq : tmps[7]? = some (.bool b)) : (results Tryz.f10 tmps).run Tryz.prog W = .ok (.tuple #[.agg cs, .bool b]) W := by
  have hld : (loadVar 33 ⟨B, 0, none⟩).run Tryz.prog W = .ok (.agg cs) W := run_loadVar_row (P := Tryz.prog) W B 33 33 cs (0, 0) _ h Tryz.underlying33 rfl (by rw [hl]; kernel_rfl)
  unfold results
  rw [Tryz.results10]
  simp [ht, hq, asAddr, hld]
set_option maxRecDepth 40000 in
set_option maxHeartbeats 16000000 in
theorem impl_split (t : Tb) (a : Ad) (x f : Int) (w : World) (hm : TM 0 w t a) (hw : TW t a) (hs : TS a) (he : TabE w) (hcp : a.pn ≤ a.pc) (hcs : a.sn ≤ a.sc) (hf : -9223372036854775808 ≤ f ∧ f ≤ 9223372036854775807) :
    Calls Tryz.prog 10 #[tbV t a, .int .i64 x, .int .i64 f] w fun e w' => ∃ R ar q, e = .returned (.tuple #[tbV R ar, .bool q]) ∧ SpA t x f R q ∧ Below w.heap.size w w' ∧ OTR w.heap.size w' R ar := by
  obtain ⟨q, hq⟩ := told (Sd t)
  have HB : Hid (Below w.heap.size w ((w.alloc (.cells (tbA t a) 33)).alloc (.cells #[.int .i64 0, .int .i64 0, .int .i64 0, .int .i64 0, .int .i64 0, .int .i64 0, .int .i64 0, .int .i64 0, .int .i64 0, .int .i64 0, .int .i64 0, .int .i64 0, .int .i64 0, .int .i64 0, .int .i64 0, .slice none 0 0, .slice none 0 0, .slice none 0 0, .slice none 0 0] 33))) := ((Below.refl _ _).alloc (Nat.le_refl _) _).alloc (by simp) _
  have HX : Hid (TBx ((w.alloc (.cells (tbA t a) 33)).alloc (.cells #[.int .i64 0, .int .i64 0, .int .i64 0, .int .i64 0, .int .i64 0, .int .i64 0, .int .i64 0, .int .i64 0, .int .i64 0, .int .i64 0, .int .i64 0, .int .i64 0, .int .i64 0, .int .i64 0, .int .i64 0, .slice none 0 0, .slice none 0 0, .slice none 0 0, .slice none 0 0] 33)) w.heap.size t a) := (TBx.new w t a _ rfl).below ((Below.refl _ _).alloc (Nat.le_refl _) _)
  have HR : Hid (((w.alloc (.cells (tbA t a) 33)).alloc (.cells #[.int .i64 0, .int .i64 0, .int .i64 0, .int .i64 0, .int .i64 0, .int .i64 0, .int .i64 0, .int .i64 0, .int .i64 0, .int .i64 0, .int .i64 0, .int .i64 0, .int .i64 0, .int .i64 0, .int .i64 0, .slice none 0 0, .slice none 0 0, .slice none 0 0, .slice none 0 0] 33)).heap[w.heap.size + 1]? = some (.cells #[.int .i64 0, .int .i64 0, .int .i64 0, .int .i64 0, .int .i64 0, .int .i64 0, .int .i64 0, .int .i64 0, .int .i64 0, .int .i64 0, .int .i64 0, .int .i64 0, .int .i64 0, .int .i64 0, .int .i64 0, .slice none 0 0, .slice none 0 0, .slice none 0 0, .slice none 0 0] 33 (0, 0))) := new_row (w.alloc (.cells (tbA t a) 33)) _ _ _ (by simp)
  have HS : Hid (∀ X, Below w.heap.size w X → Calls Tryz.prog 13 #[tbV t a] X fun e w' => e = .returned (.bool q) ∧ Below X.heap.size X w') := fun X hX => impl_sound t a q X (hm.below hX) hw hs (he.below hX) hcp hq
  have HMW : Hid (∀ X, Below w.heap.size w X → TM 0 X t a) := fun X hX => hm.below hX
  have HC : Hid (TW t a ∧ TS a ∧ a.sn ≤ a.sc) := ⟨hw, hs, hcs⟩
  have HQ : Hid (q = true ↔ Sd t) := hq
  have HF : Hid (-9223372036854775808 ≤ f ∧ f ≤ 9223372036854775807) := hf
  clear hq hm hw hs he hcp hcs hf
  go_enter Tryz.func10, Tryz.ntmps10
  go_wp2_with (first | (refine wpList_load_row rfl 33 (.tmp 3) rfl w.heap.size rfl 33 (tbA t a) (0, 0) _ HX.out Tryz.underlying33 rfl (by kernel_rfl) ?_) | (refine wpList_load_row_w (by rfl) 33 (.tmp 3) rfl w.heap.size rfl 33 (tbA t a) (0, 0) _ HX.out Tryz.underlying33 rfl (by kernel_rfl) ?_) | fail)
  revert HB HX HR
  generalize ((w.alloc (.cells (tbA t a) 33)).alloc (.cells #[.int .i64 0, .int .i64 0, .int .i64 0, .int .i64 0, .int .i64 0, .int .i64 0, .int .i64 0, .int .i64 0, .int .i64 0, .int .i64 0, .int .i64 0, .int .i64 0, .int .i64 0, .int .i64 0, .int .i64 0, .slice none 0 0, .slice none 0 0, .slice none 0 0, .slice none 0 0] 33)) = WA
  intro HB HX HR
  refine Calls.mono (HS.out _ HB.out) ?_
  rintro e w9 ⟨rfl, hb9⟩
  replace HR : Hid (w9.heap[w.heap.size + 1]? = some (.cells #[.int .i64 0, .int .i64 0, .int .i64 0, .int .i64 0, .int .i64 0, .int .i64 0, .int .i64 0, .int .i64 0, .int .i64 0, .int .i64 0, .int .i64 0, .int .i64 0, .int .i64 0, .int .i64 0, .int .i64 0, .slice none 0 0, .slice none 0 0, .slice none 0 0, .slice none 0 0] 33 (0, 0))) := row_below HR.out hb9
  replace HX : Hid (TBx w9 w.heap.size t a) := HX.out.below hb9
  replace HB : Hid (Below w.heap.size w w9) := HB.out.trans (hb9.mono HB.out.size)
  clear hb9
  cases q
  · have HNO : Hid (¬ CanS t x f) := fun h => absurd (HQ.out.2 h.1) (by simp)
    clear HS HC
    go_wp2_with (first | (refine wpList_load_row rfl 33 (.tmp 3) rfl w.heap.size rfl 33 (tbA t a) (0, 0) _ HX.out Tryz.underlying33 rfl (by kernel_rfl) ?_) | (refine wpList_load_row_w (by rfl) 33 (.tmp 3) rfl w.heap.size rfl 33 (tbA t a) (0, 0) _ HX.out Tryz.underlying33 rfl (by kernel_rfl) ?_) | (refine wpList_store_row rfl 33 (.tmp 6) (.tmp 24) rfl (w.heap.size + 1) #[.int .i64 0, .int .i64 0, .int .i64 0, .int .i64 0, .int .i64 0, .int .i64 0, .int .i64 0, .int .i64 0, .int .i64 0, .int .i64 0, .int .i64 0, .int .i64 0, .int .i64 0, .int .i64 0, .int .i64 0, .slice none 0 0, .slice none 0 0, .slice none 0 0, .slice none 0 0] rfl rfl 33 #[.int .i64 0, .int .i64 0, .int .i64 0, .int .i64 0, .int .i64 0, .int .i64 0, .int .i64 0, .int .i64 0, .int .i64 0, .int .i64 0, .int .i64 0, .int .i64 0, .int .i64 0, .int .i64 0, .int .i64 0, .slice none 0 0, .slice none 0 0, .slice none 0 0, .slice none 0 0] HR.out (by kernel_rfl) rfl (by simp [Value.oneCell']) ?_) | fail)
    refine bodyPost_ret (v := .tuple #[tbV tz az, .bool false]) (res_isw (setRow_heap _ _ _ _ _ _ HR.out) rfl rfl rfl) rfl ⟨tz, az, false, rfl, Or.inl ⟨HNO.out, rfl, rfl⟩, below_setRow HB.out (Nat.le_succ _) _, otr_zero (by show w.heap.size ≤ (World.setRow _ _ _).heap.size; have := HB.out.size; simpa using this)⟩
  have HSD : Hid (Sd t) := HQ.out.1 rfl
  obtain ⟨q2, hq2⟩ := told (0 ≤ x ∧ x < (a.sn : Int))
  have HQ2 : Hid (q2 = true ↔ (0 ≤ x ∧ x < (a.sn : Int))) := hq2
  clear hq2 HQ HS
  go_wp2_with (first | (refine wpList_load_row rfl 33 (.tmp 3) rfl w.heap.size rfl 33 (tbA t a) (0, 0) _ HX.out Tryz.underlying33 rfl (by kernel_rfl) ?_) | (refine wpList_load_row_w (by rfl) 33 (.tmp 3) rfl w.heap.size rfl 33 (tbA t a) (0, 0) _ HX.out Tryz.underlying33 rfl (by kernel_rfl) ?_) | fail)
  refine Calls.mono (has_slot t a x q2 _ HC.out.1.sb HQ2.out) ?_
  rintro e w9b ⟨rfl, hb9⟩
  replace HR : Hid (w9b.heap[w.heap.size + 1]? = some (.cells #[.int .i64 0, .int .i64 0, .int .i64 0, .int .i64 0, .int .i64 0, .int .i64 0, .int .i64 0, .int .i64 0, .int .i64 0, .int .i64 0, .int .i64 0, .int .i64 0, .int .i64 0, .int .i64 0, .int .i64 0, .slice none 0 0, .slice none 0 0, .slice none 0 0, .slice none 0 0] 33 (0, 0))) := row_below HR.out hb9
  replace HX : Hid (TBx w9b w.heap.size t a) := HX.out.below hb9
  replace HB : Hid (Below w.heap.size w w9b) := HB.out.trans (hb9.mono HB.out.size)
  clear hb9
  cases q2
  · have HNO : Hid (¬ CanS t x f) := fun h => absurd (HQ2.out.2 (by have := h.2.1; rw [HC.out.1.sl] at this; exact this)) (by simp)
    have HS : True := trivial
    clear HS HC
    go_wp2_with (first | (refine wpList_load_row rfl 33 (.tmp 3) rfl w.heap.size rfl 33 (tbA t a) (0, 0) _ HX.out Tryz.underlying33 rfl (by kernel_rfl) ?_) | (refine wpList_load_row_w (by rfl) 33 (.tmp 3) rfl w.heap.size rfl 33 (tbA t a) (0, 0) _ HX.out Tryz.underlying33 rfl (by kernel_rfl) ?_) | (refine wpList_store_row rfl 33 (.tmp 6) (.tmp 24) rfl (w.heap.size + 1) #[.int .i64 0, .int .i64 0, .int .i64 0, .int .i64 0, .int .i64 0, .int .i64 0, .int .i64 0, .int .i64 0, .int .i64 0, .int .i64 0, .int .i64 0, .int .i64 0, .int .i64 0, .int .i64 0, .int .i64 0, .slice none 0 0, .slice none 0 0, .slice none 0 0, .slice none 0 0] rfl rfl 33 #[.int .i64 0, .int .i64 0, .int .i64 0, .int .i64 0, .int .i64 0, .int .i64 0, .int .i64 0, .int .i64 0, .int .i64 0, .int .i64 0, .int .i64 0, .int .i64 0, .int .i64 0, .int .i64 0, .int .i64 0, .slice none 0 0, .slice none 0 0, .slice none 0 0, .slice none 0 0] HR.out (by kernel_rfl) rfl (by simp [Value.oneCell']) ?_) | fail)
    refine bodyPost_ret (v := .tuple #[tbV tz az, .bool false]) (res_isw (setRow_heap _ _ _ _ _ _ HR.out) rfl rfl rfl) rfl ⟨tz, az, false, rfl, Or.inl ⟨HNO.out, rfl, rfl⟩, below_setRow HB.out (Nat.le_succ _) _, otr_zero (by show w.heap.size ≤ (World.setRow _ _ _).heap.size; have := HB.out.size; simpa using this)⟩
  have hx := HQ2.out.1 rfl
  obtain ⟨k, rfl⟩ : ∃ k : Nat, x = (k : Int) := ⟨x.toNat, by omega⟩
  have HKL : Hid (k < t.ss.length) := by have := HC.out.1.sl; show _ < _; omega
  obtain ⟨q3, hq3⟩ := told (CanS t (k : Int) f)
  have HQ3 : Hid (q3 = true ↔ CanS t (k : Int) f) := hq3
  clear hq3 HQ2 hx
  go_wp2_with (first | (refine wpList_load_row rfl 33 (.tmp 3) rfl w.heap.size rfl 33 (tbA t a) (0, 0) _ HX.out Tryz.underlying33 rfl (by kernel_rfl) ?_) | (refine wpList_load_row_w (by rfl) 33 (.tmp 3) rfl w.heap.size rfl 33 (tbA t a) (0, 0) _ HX.out Tryz.underlying33 rfl (by kernel_rfl) ?_) | fail)
  refine Calls.mono (can_split t a k f q3 _ (HMW.out _ HB.out) HC.out.1 HSD.out HKL.out HF.out HQ3.out) ?_
  rintro e w9c ⟨rfl, hb9⟩
  replace HR : Hid (w9c.heap[w.heap.size + 1]? = some (.cells #[.int .i64 0, .int .i64 0, .int .i64 0, .int .i64 0, .int .i64 0, .int .i64 0, .int .i64 0, .int .i64 0, .int .i64 0, .int .i64 0, .int .i64 0, .int .i64 0, .int .i64 0, .int .i64 0, .int .i64 0, .slice none 0 0, .slice none 0 0, .slice none 0 0, .slice none 0 0] 33 (0, 0))) := row_below HR.out hb9
  replace HX : Hid (TBx w9c w.heap.size t a) := HX.out.below hb9
  replace HB : Hid (Below w.heap.size w w9c) := HB.out.trans (hb9.mono HB.out.size)
  clear hb9
  cases q3
  · have HNO : Hid (¬ CanS t (k : Int) f) := fun h => absurd (HQ3.out.2 h) (by simp)
    have HS : True := trivial
    clear HS HC
    go_wp2_with (first | (refine wpList_load_row rfl 33 (.tmp 3) rfl w.heap.size rfl 33 (tbA t a) (0, 0) _ HX.out Tryz.underlying33 rfl (by kernel_rfl) ?_) | (refine wpList_load_row_w (by rfl) 33 (.tmp 3) rfl w.heap.size rfl 33 (tbA t a) (0, 0) _ HX.out Tryz.underlying33 rfl (by kernel_rfl) ?_) | (refine wpList_store_row rfl 33 (.tmp 6) (.tmp 24) rfl (w.heap.size + 1) #[.int .i64 0, .int .i64 0, .int .i64 0, .int .i64 0, .int .i64 0, .int .i64 0, .int .i64 0, .int .i64 0, .int .i64 0, .int .i64 0, .int .i64 0, .int .i64 0, .int .i64 0, .int .i64 0, .int .i64 0, .slice none 0 0, .slice none 0 0, .slice none 0 0, .slice none 0 0] rfl rfl 33 #[.int .i64 0, .int .i64 0, .int .i64 0, .int .i64 0, .int .i64 0, .int .i64 0, .int .i64 0, .int .i64 0, .int .i64 0, .int .i64 0, .int .i64 0, .int .i64 0, .int .i64 0, .int .i64 0, .int .i64 0, .slice none 0 0, .slice none 0 0, .slice none 0 0, .slice none 0 0] HR.out (by kernel_rfl) rfl (by simp [Value.oneCell']) ?_) | fail)
    refine bodyPost_ret (v := .tuple #[tbV tz az, .bool false]) (res_isw (setRow_heap _ _ _ _ _ _ HR.out) rfl rfl rfl) rfl ⟨tz, az, false, rfl, Or.inl ⟨HNO.out, rfl, rfl⟩, below_setRow HB.out (Nat.le_succ _) _, otr_zero (by show w.heap.size ≤ (World.setRow _ _ _).heap.size; have := HB.out.size; simpa using this)⟩
  have HCN : Hid (CanS t (k : Int) f) := HQ3.out.1 rfl
  clear HQ3 HSD HKL
  go_wp2_with (first | (refine wpList_load_row rfl 33 (.tmp 3) rfl w.heap.size rfl 33 (tbA t a) (0, 0) _ HX.out Tryz.underlying33 rfl (by kernel_rfl) ?_) | (refine wpList_load_row_w (by rfl) 33 (.tmp 3) rfl w.heap.size rfl 33 (tbA t a) (0, 0) _ HX.out Tryz.underlying33 rfl (by kernel_rfl) ?_) | fail)
  refine Calls.mono (impl_sp t a k f _ (HMW.out _ HB.out) HC.out.1 HC.out.2.1 HC.out.2.2 HCN.out) ?_
  rintro e w4 ⟨a4, rfl, hb4, hm4, hw4, hs4, hc4, -⟩
  have HR4 : Hid (w4.heap[w.heap.size + 1]? = some (.cells #[.int .i64 0, .int .i64 0, .int .i64 0, .int .i64 0, .int .i64 0, .int .i64 0, .int .i64 0, .int .i64 0, .int .i64 0, .int .i64 0, .int .i64 0, .int .i64 0, .int .i64 0, .int .i64 0, .int .i64 0, .slice none 0 0, .slice none 0 0, .slice none 0 0, .slice none 0 0] 33 (0, 0))) := row_below HR.out hb4
  have HB4 : Hid (Below w.heap.size w w4) := HB.out.trans (hb4.mono HB.out.size)
  clear HB HX HR hb4
  go_wp2_with fail
  refine Calls.mono (impl_cptab _ a4 w4 hm4 hw4 hs4) ?_
  rintro e w5 ⟨a5, rfl, hb5, ho5, _⟩
  have HR5 : Hid (w5.heap[w.heap.size + 1]? = some (.cells #[.int .i64 0, .int .i64 0, .int .i64 0, .int .i64 0, .int .i64 0, .int .i64 0, .int .i64 0, .int .i64 0, .int .i64 0, .int .i64 0, .int .i64 0, .int .i64 0, .int .i64 0, .int .i64 0, .int .i64 0, .slice none 0 0, .slice none 0 0, .slice none 0 0, .slice none 0 0] 33 (0, 0))) := row_below HR4.out hb5
  have HB5 : Hid (Below w.heap.size w w5) := HB4.out.trans (hb5.mono HB4.out.size)
  have HRF : Hid ((w5.setRow (w.heap.size + 1) (tbA t a5)).heap[w.heap.size + 1]? = some (.cells (tbA t a5) 33 (0, 0))) := setRow_heap _ _ _ _ _ _ HR5.out
  have HBF : Hid (Below w.heap.size w (w5.setRow (w.heap.size + 1) (tbA t a5))) := below_setRow HB5.out (Nat.le_succ _) _
  have hlt : w.heap.size + 1 < w4.heap.size := (Array.getElem?_eq_some_iff.1 HR4.out).1
  have HOF : Hid (OTR w.heap.size (w5.setRow (w.heap.size + 1) (tbA t a5)) { t with ss := splL t.ss k f } a5) := by
    have h := ho5.setRow (cs := tbA t a5) hlt
    exact ⟨h.m, h.o.wide (Nat.le_of_lt (Nat.lt_of_succ_lt hlt)) (Nat.le_refl _), h.w, h.s, h.cp, h.cs⟩
  clear hb5 ho5 hm4 hw4 hs4 hc4 HR4 HB4 hlt HB5
  go_wp2_with (first | (refine wpList_store_row rfl 33 (.tmp 6) (.tmp 29) rfl (w.heap.size + 1) (tbA t a5) rfl rfl 33 #[.int .i64 0, .int .i64 0, .int .i64 0, .int .i64 0, .int .i64 0, .int .i64 0, .int .i64 0, .int .i64 0, .int .i64 0, .int .i64 0, .int .i64 0, .int .i64 0, .int .i64 0, .int .i64 0, .int .i64 0, .slice none 0 0, .slice none 0 0, .slice none 0 0, .slice none 0 0] HR5.out (by kernel_rfl) rfl (by simp [Value.oneCell']) ?_) | fail)
  revert HRF HBF HOF
  generalize w5.setRow (w.heap.size + 1) (tbA t a5) = WF
  intro HRF HBF HOF
  go_wp2
  refine bodyPost_ret (v := .tuple #[tbV t a5, .bool true]) (res_isw HRF.out rfl rfl rfl) rfl ⟨{ t with ss := splL t.ss k f }, a5, true, rfl, Or.inr ⟨HCN.out, by rw [Int.toNat_natCast], rfl⟩, HBF.out, HOF.out⟩
end Go.Proofs.YtlomcdgfcocmmaaGreatDoor
