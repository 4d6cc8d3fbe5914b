
/-
  An event as it is drawn, whatever the bytes. Conditions: the bytes are at most 1048576.
-/
import Derived.Test.YthlapikcjiajgaaDoorBas
import Derived.Test.YthlapikcjiajgaaDoorEvb
import Derived.Test.YthlapikcjiajgaaDoorDraw
namespace Go.Proofs.YthlapikcjiajgaaDoor
open Go.ChangeShapes Go.WideShapes Go.ChangeAt Go.RowKit Go.Deep
set_option linter.unusedVariables false

theorem turn_far {B Y : Nat} {w X : World} (h : Turn B w X) (hY : w.heap.size ≤ Y) (j : Nat) (u : Value) : Turn B w (X.setCell ⟨Y, j, none⟩ u) :=
  ⟨h.os, h.tape, h.output, by simpa [World.setCell] using h.size, fun k hk hn => (Below.heap_setCell _ _ _ _ (by show k ≠ Y; omega)).trans (h.block k hk hn)⟩
theorem cur_far {w : World} {B : Nat} {a : Option Addr} {zs : List Int} {cap : Nat} (h : Cur w B a zs cap) (Y j : Nat) (u : Value) (hY : B ≠ Y) (hf : ∀ b off, a = some ⟨b, off, none⟩ → 0 < zs.length → b ≠ Y) : Cur (w.setCell ⟨Y, j, none⟩ u) B a zs cap := by
  have ht : Turn Y w (w.setCell ⟨Y, j, none⟩ u) := (Turn.refl _ _).setCell j u
  obtain ⟨i, hi, e1⟩ := h.c1
  obtain ⟨x, e2⟩ := h.c2
  exact ⟨by simpa using h.lt, (ht.cell h.lt hY).trans h.c0, ⟨i, hi, (ht.cell h.lt hY).trans e1⟩, ⟨x, (ht.cell h.lt hY).trans e2⟩, fun i => (ht.frozen h.lt hY).trans (h.free i), h.seg.turn ht hf, h.far, h.byte, h.small⟩
theorem Cur.belowC {w w' : World} {B C : Nat} {a : Option Addr} {zs : List Int} {cap : Nat} (h : Cur w B a zs cap) (hb : Below C w w') (hB : B < C) (ha : ∀ b off, a = some ⟨b, off, none⟩ → 0 < zs.length → b < C) : Cur w' B a zs cap := by
  have hc : ∀ o, w'.cell? ⟨B, o, none⟩ = w.cell? ⟨B, o, none⟩ := fun o => hb.cell (p := ⟨B, o, none⟩) hB
  refine ⟨Nat.lt_of_lt_of_le h.lt hb.size, (hc 0).trans h.c0, ?_, ?_, fun i => (hb.frozen (p := ⟨B, i, none⟩) hB).trans (h.free i), ?_, h.far, h.byte, h.small⟩
  · obtain ⟨i, hi, e⟩ := h.c1
    exact ⟨i, hi, (hc 1).trans e⟩
  · obtain ⟨x, e⟩ := h.c2
    exact ⟨x, (hc 2).trans e⟩
  · intro h0
    obtain ⟨b, off, e, hlt, hcl⟩ := h.seg h0
    exact ⟨b, off, e, Nat.lt_of_lt_of_le hlt hb.size, fun i hi => (hb.cell (p := ⟨b, off + i, none⟩) (ha b off e h0)).trans (hcl i hi)⟩
/-- The cursor of a call that began in 'w' and stands in 'W'. -/
structure CT (w W : World) (B : Nat) (a : Option Addr) (zs : List Int) (cap : Nat) : Prop where
  cur : Cur W B a zs cap
  turn : Turn B w W
  lo : B < w.heap.size
  la : ∀ b off, a = some ⟨b, off, none⟩ → 0 < zs.length → b < w.heap.size
theorem CT.start {w : World} {B : Nat} {a : Option Addr} {zs : List Int} {cap : Nat} (h : Cur w B a zs cap) : CT w w B a zs cap := ⟨h, Turn.refl _ _, h.lt, seg_lt h.seg⟩
theorem CT.below {w W X : World} {B : Nat} {a : Option Addr} {zs : List Int} {cap : Nat} (h : CT w W B a zs cap) (hb : Below W.heap.size W X) : CT w X B a zs cap := ⟨h.cur.below hb, h.turn.trans (Turn.of_below hb), h.lo, h.la⟩
theorem CT.alloc {w W : World} {B : Nat} {a : Option Addr} {zs : List Int} {cap : Nat} (h : CT w W B a zs cap) (o : Obj) : CT w (W.alloc o) B a zs cap := h.below ((Below.refl _ _).alloc (Nat.le_refl _) _)
theorem CT.step {w W X : World} {B : Nat} {a : Option Addr} {zs : List Int} {cap : Nat} (h : CT w W B a zs cap) (hc : Cur X B a zs cap) (ht : Turn B W X) : CT w X B a zs cap := ⟨hc, h.turn.trans ht, h.lo, h.la⟩
theorem CT.set {w W : World} {B : Nat} {a : Option Addr} {zs : List Int} {cap : Nat} (h : CT w W B a zs cap) (Y j : Nat) (u : Value) (hY : w.heap.size ≤ Y) : CT w (W.setCell ⟨Y, j, none⟩ u) B a zs cap :=
  ⟨cur_far h.cur Y j u (by have := h.lo; omega) (fun b off e h0 => by have := h.la b off e h0; omega), turn_far h.turn hY j u, h.lo, h.la⟩
set_option maxHeartbeats 1000000 in
theorem draw_word (w : World) (B : Nat) (a : Option Addr) (zs : List Int) (cap : Nat) (hc : Cur w B a zs cap) :
    Calls Tryd.prog 45 #[.pointer (some ⟨B, 0, none⟩)] w fun e w' => ∃ x : Int, e = .returned (.int .u32 x) ∧ 0 ≤ x ∧ x ≤ 4294967295 ∧ Cur w' B a zs cap ∧ Turn B w w' := by
  go_enter Tryd.func45, Tryd.ntmps45
  go_wp2_with fail
  refine (draw_below _ _ _ _ _ _ hc (by omega) (by omega)).mono ?_
  rintro e w1 ⟨x, rfl, hx0, hx1, hc1, ht1⟩
  by_cases x0 : x = 0
  · have hb : (x == 0) = true := by simp [x0]
    clear x0
    go_wp2_with fail
    refine (draw_pick _ B w1.heap.size _ _ _ [0, 1, 2, 31, 32, 255, 256, 2147483647, 2147483648, 4294967295, 4294967294] (hc1.below ((Below.refl _ _).alloc (Nat.le_refl _) _)) (own_litD .i64 w1 3 _) (by have := hc1.lt; omega) (by decide) (by decide)).mono ?_
    rintro e w2 ⟨y, rfl, hy, hc2, ht2⟩
    have hy2 : 0 ≤ y ∧ y ≤ 4294967295 := by simp at hy; omega
    obtain ⟨hy0, hy1⟩ := hy2
    clear hy
    go_wp2
    go_ret
    exact ⟨_, rfl, by omega, by omega, hc2, (ht1.alloc _).trans ht2⟩
  · have hb : (x == 0) = false := beq_eq_false_iff_ne.2 x0
    clear x0
    by_cases x1 : x = 1
    · have hb1 : (x == 1) = true := by simp [x1]
      clear x1
      go_wp2_with fail
      refine (draw_below _ _ _ _ _ _ hc1 (by omega) (by omega)).mono ?_
      rintro e w2 ⟨y, rfl, hy0, hy1, hc2, ht2⟩
      go_wp2
      go_ret
      exact ⟨_, rfl, by omega, by omega, hc2, ht1.trans ht2⟩
    · have hb1 : (x == 1) = false := beq_eq_false_iff_ne.2 x1
      clear x1
      go_wp2_with fail
      refine (draw_below _ _ _ _ _ _ hc1 (by omega) (by omega)).mono ?_
      rintro e w2 ⟨y, rfl, hy0, hy1, hc2, ht2⟩
      go_wp2_with fail
      refine (draw_below _ _ _ _ _ _ hc2 (by omega) (by omega)).mono ?_
      rintro e w3 ⟨z, rfl, hz0, hz1, hc3, ht3⟩
      go_wp2
      go_ret
      exact ⟨_, rfl, by omega, by omega, hc3, (ht1.trans ht2).trans ht3⟩

/-- What is known of a drawn event. -/
structure EvDr (a c p o f u s : Int) : Prop where
  ha : -9223372036854775808 ≤ a ∧ a ≤ 9223372036854775807
  hc : Ex.Md c
  hp : 0 ≤ p ∧ p ≤ 4294967295
  ho : -9223372036854775808 ≤ o ∧ o ≤ 9223372036854775807
  hf : -1000000 ≤ f ∧ f ≤ 9223372036854775807
  hu : Ex.Md u
  hs : 0 ≤ s ∧ s ≤ 4294967295
theorem row_turn {B E : Nat} {X X' : World} {ob : Obj} (h : X.heap[E]? = some ob) (ht : Turn B X X') (hne : E ≠ B) : X'.heap[E]? = some ob := by
  have hlt : E < X.heap.size := by
    rcases Nat.lt_or_ge E X.heap.size with g | g
    · exact g
    · rw [Array.getElem?_eq_none g] at h; cases h
  rw [ht.block E hlt hne]
  exact h
theorem row_put {X : World} {E j : Nat} {cs : Array Value} {ty : TypeId} (h : X.heap[E]? = some (.cells cs ty (0, 0))) (v : Value) : (X.setCell ⟨E, j, none⟩ v).heap[E]? = some (.cells (cs.setIfInBounds j v) ty (0, 0)) := by
  rw [setCell_eq_setRow X E j cs ty (0, 0) v h, setRow_heap X E _ _ ty (0, 0) h]
set_option maxRecDepth 40000 in
set_option maxHeartbeats 8000000 in
theorem draw_ev (w : World) (B : Nat) (b : Option Addr) (zs : List Int) (cap : Nat) (hc : Cur w B b zs cap) :
    Calls Tryd.prog 30 #[.pointer (some ⟨B, 0, none⟩)] w fun e w' => ∃ a c p o f u s, e = .returned (.agg #[.int .i64 a, .int .i64 c, .int .u32 p, .int .i64 o, .int .i64 f, .int .i64 u, .int .u32 s]) ∧ EvDr a c p o f u s ∧ Turn B w w' := by
  have HBW : Hid (B < w.heap.size) := hc.lt
  have HR : Hid ((w.alloc (.cells #[.int .i64 0, .int .i64 0, .int .u32 0, .int .i64 0, .int .i64 0, .int .i64 0, .int .u32 0] 26)).heap[w.heap.size]? = some (.cells #[.int .i64 0, .int .i64 0, .int .u32 0, .int .i64 0, .int .i64 0, .int .i64 0, .int .u32 0] 26 (0, 0))) := new_row w _ _ _ rfl
  have HC0 : Hid (CT w (w.alloc (.cells #[.int .i64 0, .int .i64 0, .int .u32 0, .int .i64 0, .int .i64 0, .int .i64 0, .int .u32 0] 26)) B b zs cap) := (CT.start hc).alloc _
  clear hc
  go_enter Tryd.func30, Tryd.ntmps30
  go_wp2_with fail
  refine Calls.mono (draw_below _ _ _ _ _ _ HC0.out.cur (by omega) (by omega)) ?_
  rintro e W1 ⟨y0, rfl, a0, b0, c0, t0⟩
  have HC1 : Hid (CT w W1 B b zs cap) := HC0.out.step c0 t0
  have HY0 : Hid (0 ≤ y0 ∧ y0 < 5000) := ⟨a0, b0⟩
  have HR1 : Hid (W1.heap[w.heap.size]? = some (.cells #[.int .i64 0, .int .i64 0, .int .u32 0, .int .i64 0, .int .i64 0, .int .i64 0, .int .u32 0] 26 (0, 0))) := row_turn HR.out t0 (by have := HBW.out; omega)
  clear c0 t0 HC0 HR
  go_wp2_with fail
  refine Calls.mono (draw_below _ _ _ _ _ _ HC1.out.cur (by omega) (by omega)) ?_
  rintro e W2 ⟨y1, rfl, a1, b1, c1, t1⟩
  have HC2 : Hid (CT w W2 B b zs cap) := HC1.out.step c1 t1
  have HY1 : Hid (0 ≤ y1 ∧ y1 < 90) := ⟨a1, b1⟩
  have HR2 : Hid (W2.heap[w.heap.size]? = some (.cells #[.int .i64 0, .int .i64 0, .int .u32 0, .int .i64 0, .int .i64 0, .int .i64 0, .int .u32 0] 26 (0, 0))) := row_turn HR1.out t1 (by have := HBW.out; omega)
  clear c1 t1 HC1 HR1
  go_wp2_with fail
  refine Calls.mono (draw_word _ _ _ _ _ HC2.out.cur) ?_
  rintro e W3 ⟨y2, rfl, a2, b2, c2, t2⟩
  have HC3 : Hid (CT w W3 B b zs cap) := HC2.out.step c2 t2
  have HY2 : Hid (0 ≤ y2 ∧ y2 ≤ 4294967295) := ⟨a2, b2⟩
  have HR3 : Hid (W3.heap[w.heap.size]? = some (.cells #[.int .i64 0, .int .i64 0, .int .u32 0, .int .i64 0, .int .i64 0, .int .i64 0, .int .u32 0] 26 (0, 0))) := row_turn HR2.out t2 (by have := HBW.out; omega)
  clear c2 t2 HC2 HR2
  go_wp2_with fail
  refine Calls.mono (draw_below _ _ _ _ _ _ HC3.out.cur (by omega) (by omega)) ?_
  rintro e W4 ⟨y3, rfl, a3, b3, c3, t3⟩
  have HC4 : Hid (CT w W4 B b zs cap) := HC3.out.step c3 t3
  have HY3 : Hid (0 ≤ y3 ∧ y3 < 34) := ⟨a3, b3⟩
  have HR4 : Hid (W4.heap[w.heap.size]? = some (.cells #[.int .i64 0, .int .i64 0, .int .u32 0, .int .i64 0, .int .i64 0, .int .i64 0, .int .u32 0] 26 (0, 0))) := row_turn HR3.out t3 (by have := HBW.out; omega)
  clear c3 t3 HC3 HR3
  go_wp2_with fail
  refine Calls.mono (draw_below _ _ _ _ _ _ HC4.out.cur (by omega) (by omega)) ?_
  rintro e W5 ⟨y4, rfl, a4, b4, c4, t4⟩
  have HC5 : Hid (CT w W5 B b zs cap) := HC4.out.step c4 t4
  have HY4 : Hid (0 ≤ y4 ∧ y4 < 10) := ⟨a4, b4⟩
  have HR5 : Hid (W5.heap[w.heap.size]? = some (.cells #[.int .i64 0, .int .i64 0, .int .u32 0, .int .i64 0, .int .i64 0, .int .i64 0, .int .u32 0] 26 (0, 0))) := row_turn HR4.out t4 (by have := HBW.out; omega)
  clear c4 t4 HC4 HR4
  go_wp2_with fail
  refine Calls.mono (draw_below _ _ _ _ _ _ HC5.out.cur (by omega) (by omega)) ?_
  rintro e W6 ⟨y5, rfl, a5, b5, c5, t5⟩
  have HC6 : Hid (CT w W6 B b zs cap) := HC5.out.step c5 t5
  have HY5 : Hid (0 ≤ y5 ∧ y5 < 34) := ⟨a5, b5⟩
  have HR6 : Hid (W6.heap[w.heap.size]? = some (.cells #[.int .i64 0, .int .i64 0, .int .u32 0, .int .i64 0, .int .i64 0, .int .i64 0, .int .u32 0] 26 (0, 0))) := row_turn HR5.out t5 (by have := HBW.out; omega)
  clear c5 t5 HC5 HR5
  go_wp2_with fail
  refine Calls.mono (draw_word _ _ _ _ _ HC6.out.cur) ?_
  rintro e W7 ⟨y6, rfl, a6, b6, c6, t6⟩
  have HC7 : Hid (CT w W7 B b zs cap) := HC6.out.step c6 t6
  have HY6 : Hid (0 ≤ y6 ∧ y6 ≤ 4294967295) := ⟨a6, b6⟩
  have HR7 : Hid (W7.heap[w.heap.size]? = some (.cells #[.int .i64 0, .int .i64 0, .int .u32 0, .int .i64 0, .int .i64 0, .int .i64 0, .int .u32 0] 26 (0, 0))) := row_turn HR6.out t6 (by have := HBW.out; omega)
  clear c6 t6 HC6 HR6
  have hw3 : IntKind.i64.wrap (y3 - 1) = y3 - 1 := by rw [IntKind.wrap_i64]; have := HY3.out; omega
  have HN : Hid ((W7.alloc (.cells #[.int .i64 0, .int .i64 0, .int .u32 0, .int .i64 0, .int .i64 0, .int .i64 0, .int .u32 0] 26)).heap[W7.heap.size]? = some (.cells #[.int .i64 0, .int .i64 0, .int .u32 0, .int .i64 0, .int .i64 0, .int .i64 0, .int .u32 0] 26 (0, 0))) := new_row W7 _ _ _ rfl
  have hba : Below W7.heap.size W7 ((W7.alloc (.cells #[.int .i64 0, .int .i64 0, .int .u32 0, .int .i64 0, .int .i64 0, .int .i64 0, .int .u32 0] 26)).setRow W7.heap.size #[.int .i64 y0, .int .i64 y1, .int .u32 y2, .int .i64 (y3 - 1), .int .i64 y4, .int .i64 y5, .int .u32 y6]) := below_setRow ((Below.refl _ _).alloc (Nat.le_refl _) _) (Nat.le_refl _) _
  have HE : Hid (((W7.alloc (.cells #[.int .i64 0, .int .i64 0, .int .u32 0, .int .i64 0, .int .i64 0, .int .i64 0, .int .u32 0] 26)).setRow W7.heap.size #[.int .i64 y0, .int .i64 y1, .int .u32 y2, .int .i64 (y3 - 1), .int .i64 y4, .int .i64 y5, .int .u32 y6]).heap[W7.heap.size]? = some (.cells #[.int .i64 y0, .int .i64 y1, .int .u32 y2, .int .i64 (y3 - 1), .int .i64 y4, .int .i64 y5, .int .u32 y6] 26 (0, 0))) := setRow_heap _ _ _ _ _ _ HN.out
  have HR8 : Hid (((W7.alloc (.cells #[.int .i64 0, .int .i64 0, .int .u32 0, .int .i64 0, .int .i64 0, .int .i64 0, .int .u32 0] 26)).setRow W7.heap.size #[.int .i64 y0, .int .i64 y1, .int .u32 y2, .int .i64 (y3 - 1), .int .i64 y4, .int .i64 y5, .int .u32 y6]).heap[w.heap.size]? = some (.cells #[.int .i64 0, .int .i64 0, .int .u32 0, .int .i64 0, .int .i64 0, .int .i64 0, .int .u32 0] 26 (0, 0))) := row_below HR7.out hba
  have HC8 : Hid (CT w ((W7.alloc (.cells #[.int .i64 0, .int .i64 0, .int .u32 0, .int .i64 0, .int .i64 0, .int .i64 0, .int .u32 0] 26)).setRow W7.heap.size #[.int .i64 y0, .int .i64 y1, .int .u32 y2, .int .i64 (y3 - 1), .int .i64 y4, .int .i64 y5, .int .u32 y6]) B b zs cap) := HC7.out.below hba
  have HWS : Hid (w.heap.size < W7.heap.size) := row_lt HR7.out
  clear hba HC7 HR7 a0 b0 a1 b1 a2 b2 a3 b3 a4 b4 a5 b5 a6 b6
  go_wp2_with (first | (refine wpList_store_row rfl 26 (.tmp 3) (.tmp 19) rfl W7.heap.size #[.int .i64 y0, .int .i64 y1, .int .u32 y2, .int .i64 (y3 - 1), .int .i64 y4, .int .i64 y5, .int .u32 y6] rfl rfl 26 #[.int .i64 0, .int .i64 0, .int .u32 0, .int .i64 0, .int .i64 0, .int .i64 0, .int .u32 0] HN.out (by kernel_rfl) rfl (by simp [Value.oneCell']) ?_; generalize ((W7.alloc (.cells #[.int .i64 0, .int .i64 0, .int .u32 0, .int .i64 0, .int .i64 0, .int .i64 0, .int .u32 0] 26)).setRow W7.heap.size #[.int .i64 y0, .int .i64 y1, .int .u32 y2, .int .i64 (y3 - 1), .int .i64 y4, .int .i64 y5, .int .u32 y6]) = U0 at HE HR8 HC8 ⊢) | fail)
  refine Calls.mono (draw_below _ _ _ _ _ _ HC8.out.cur (by omega) (by omega)) ?_
  rintro e W8 ⟨k, rfl, k0, k1, c8, t8⟩
  have HC9 : Hid (CT w W8 B b zs cap) := HC8.out.step c8 t8
  have HEB : Hid (W7.heap.size ≠ B ∧ w.heap.size ≠ B ∧ W7.heap.size ≠ w.heap.size) := by have := HBW.out; have := HWS.out; refine ⟨by omega, by omega, by omega⟩
  have HE9 : Hid (W8.heap[W7.heap.size]? = some (.cells #[.int .i64 y0, .int .i64 y1, .int .u32 y2, .int .i64 (y3 - 1), .int .i64 y4, .int .i64 y5, .int .u32 y6] 26 (0, 0))) := row_turn HE.out t8 HEB.out.1
  have HR9 : Hid (W8.heap[w.heap.size]? = some (.cells #[.int .i64 0, .int .i64 0, .int .u32 0, .int .i64 0, .int .i64 0, .int .i64 0, .int .u32 0] 26 (0, 0))) := row_turn HR8.out t8 HEB.out.2.1
  clear c8 t8 HC8 HE HR8 HN k0 k1
  by_cases k0 : k = 0
  · have q0 : (k == 0) = true := by simp [k0]
    clear k0
    go_wp2_with fail
    refine Calls.mono (draw_pick _ B W8.heap.size _ _ _ [-2, 33, 99] (HC9.out.alloc _).cur (own_litD .i64 W8 3 [-2, 33, 99]) (by have := HC9.out.cur.lt; omega) (by decide) (by decide)) ?_
    rintro e W9 ⟨x, rfl, hx, c9, t9⟩
    have HX : Hid (x ∈ [-2, 33, 99]) := hx
    have HCA : Hid (CT w W9 B b zs cap) := (HC9.out.alloc _).step c9 t9
    have hal : Below W8.heap.size W8 (W8.alloc (.cells (([-2, 33, 99] : List Int).map (Value.int .i64)).toArray 3)) := (Below.refl _ _).alloc (Nat.le_refl _) _
    have HEA : Hid (W9.heap[W7.heap.size]? = some (.cells #[.int .i64 y0, .int .i64 y1, .int .u32 y2, .int .i64 (y3 - 1), .int .i64 y4, .int .i64 y5, .int .u32 y6] 26 (0, 0))) := row_turn (row_below HE9.out hal) t9 HEB.out.1
    have HRA : Hid (W9.heap[w.heap.size]? = some (.cells #[.int .i64 0, .int .i64 0, .int .u32 0, .int .i64 0, .int .i64 0, .int .i64 0, .int .u32 0] 26 (0, 0))) := row_turn (row_below HR9.out hal) t9 HEB.out.2.1
    have HEP : Hid ((W9.setCell ⟨W7.heap.size, 3, none⟩ (.int .i64 x)).heap[W7.heap.size]? = some (.cells #[.int .i64 y0, .int .i64 y1, .int .u32 y2, .int .i64 x, .int .i64 y4, .int .i64 y5, .int .u32 y6] 26 (0, 0))) := row_put HEA.out _
    have HRP : Hid ((W9.setCell ⟨W7.heap.size, 3, none⟩ (.int .i64 x)).heap[w.heap.size]? = some (.cells #[.int .i64 0, .int .i64 0, .int .u32 0, .int .i64 0, .int .i64 0, .int .i64 0, .int .u32 0] 26 (0, 0))) := row_turn HRA.out ((Turn.refl W7.heap.size W9).setCell 3 _) HEB.out.2.2.symm
    have HCP : Hid (CT w (W9.setCell ⟨W7.heap.size, 3, none⟩ (.int .i64 x)) B b zs cap) := HCA.out.set _ _ _ (Nat.le_of_lt HWS.out)
    have cj := row_c HEA.out 3 _ rfl
    have fj := Lib.frozen_of_heap HEA.out 3
    clear hx c9 t9 hal HC9 HE9 HR9
    have HRF : Hid (((W9.setCell ⟨W7.heap.size, 3, none⟩ (.int .i64 x)).setRow w.heap.size #[.int .i64 y0, .int .i64 y1, .int .u32 y2, .int .i64 x, .int .i64 y4, .int .i64 y5, .int .u32 y6]).heap[w.heap.size]? = some (.cells #[.int .i64 y0, .int .i64 y1, .int .u32 y2, .int .i64 x, .int .i64 y4, .int .i64 y5, .int .u32 y6] 26 (0, 0))) := setRow_heap _ _ _ _ _ _ HRP.out
    have m0 := row_c HRF.out 0 _ rfl
    have m1 := row_c HRF.out 1 _ rfl
    have m2 := row_c HRF.out 2 _ rfl
    have m3 := row_c HRF.out 3 _ rfl
    have m4 := row_c HRF.out 4 _ rfl
    have m5 := row_c HRF.out 5 _ rfl
    have m6 := row_c HRF.out 6 _ rfl
    have HT : Hid (Turn B w ((W9.setCell ⟨W7.heap.size, 3, none⟩ (.int .i64 x)).setRow w.heap.size #[.int .i64 y0, .int .i64 y1, .int .u32 y2, .int .i64 x, .int .i64 y4, .int .i64 y5, .int .u32 y6])) := by
      have h1 := HCP.out.turn
      have h2 : Below w.heap.size (W9.setCell ⟨W7.heap.size, 3, none⟩ (.int .i64 x)) ((W9.setCell ⟨W7.heap.size, 3, none⟩ (.int .i64 x)).setRow w.heap.size #[.int .i64 y0, .int .i64 y1, .int .u32 y2, .int .i64 x, .int .i64 y4, .int .i64 y5, .int .u32 y6]) := below_setRow (Below.refl _ _) (Nat.le_refl _) _
      exact ⟨h2.os.trans h1.os, h2.tape.trans h1.tape, h2.output.trans h1.output, Nat.le_trans h1.size h2.size, fun k hk hn => (h2.block k hk).trans (h1.block k hk hn)⟩
    go_wp2_with (first | (refine wpList_load_row rfl 26 (.tmp 3) rfl W7.heap.size rfl 26 #[.int .i64 y0, .int .i64 y1, .int .u32 y2, .int .i64 x, .int .i64 y4, .int .i64 y5, .int .u32 y6] (0, 0) _ HEP.out Tryd.underlying26 rfl (by kernel_rfl) ?_) | (refine wpList_store_row rfl 26 (.tmp 2) (.tmp 40) rfl w.heap.size #[.int .i64 y0, .int .i64 y1, .int .u32 y2, .int .i64 x, .int .i64 y4, .int .i64 y5, .int .u32 y6] rfl rfl 26 #[.int .i64 0, .int .i64 0, .int .u32 0, .int .i64 0, .int .i64 0, .int .i64 0, .int .u32 0] HRP.out (by kernel_rfl) rfl (by simp [Value.oneCell']) ?_) | fail)
    exact bodyPost_ret (v := .agg #[.int .i64 y0, .int .i64 y1, .int .u32 y2, .int .i64 x, .int .i64 y4, .int .i64 y5, .int .u32 y6]) (by simp [results, Tryd.results30, go_sem, m0, m1, m2, m3, m4, m5, m6]) rfl ⟨_, _, _, _, _, _, _, rfl, (by
          have := HY0.out
          have := HY1.out
          have := HY2.out
          have := HY3.out
          have := HY4.out
          have := HY5.out
          have := HY6.out
          have hx := HX.out
          simp only [List.mem_cons, List.not_mem_nil, or_false] at hx
          exact ⟨by omega, by unfold Ex.Md; omega, by omega, by omega, by omega, by unfold Ex.Md; omega, by omega⟩), HT.out⟩
  · by_cases k1 : k = 1
    · have q0 : (k == 0) = false := beq_eq_false_iff_ne.2 k0
      have q1 : (k == 1) = true := by simp [k1]
      clear k0 k1
      go_wp2_with fail
      refine Calls.mono (draw_pick _ B W8.heap.size _ _ _ [-1, 1000000, 1000001, -9223372036854775808] (HC9.out.alloc _).cur (own_litD .i64 W8 3 [-1, 1000000, 1000001, -9223372036854775808]) (by have := HC9.out.cur.lt; omega) (by decide) (by decide)) ?_
      rintro e W9 ⟨x, rfl, hx, c9, t9⟩
      have HX : Hid (x ∈ [-1, 1000000, 1000001, -9223372036854775808]) := hx
      have HCA : Hid (CT w W9 B b zs cap) := (HC9.out.alloc _).step c9 t9
      have hal : Below W8.heap.size W8 (W8.alloc (.cells (([-1, 1000000, 1000001, -9223372036854775808] : List Int).map (Value.int .i64)).toArray 3)) := (Below.refl _ _).alloc (Nat.le_refl _) _
      have HEA : Hid (W9.heap[W7.heap.size]? = some (.cells #[.int .i64 y0, .int .i64 y1, .int .u32 y2, .int .i64 (y3 - 1), .int .i64 y4, .int .i64 y5, .int .u32 y6] 26 (0, 0))) := row_turn (row_below HE9.out hal) t9 HEB.out.1
      have HRA : Hid (W9.heap[w.heap.size]? = some (.cells #[.int .i64 0, .int .i64 0, .int .u32 0, .int .i64 0, .int .i64 0, .int .i64 0, .int .u32 0] 26 (0, 0))) := row_turn (row_below HR9.out hal) t9 HEB.out.2.1
      have HEP : Hid ((W9.setCell ⟨W7.heap.size, 0, none⟩ (.int .i64 x)).heap[W7.heap.size]? = some (.cells #[.int .i64 x, .int .i64 y1, .int .u32 y2, .int .i64 (y3 - 1), .int .i64 y4, .int .i64 y5, .int .u32 y6] 26 (0, 0))) := row_put HEA.out _
      have HRP : Hid ((W9.setCell ⟨W7.heap.size, 0, none⟩ (.int .i64 x)).heap[w.heap.size]? = some (.cells #[.int .i64 0, .int .i64 0, .int .u32 0, .int .i64 0, .int .i64 0, .int .i64 0, .int .u32 0] 26 (0, 0))) := row_turn HRA.out ((Turn.refl W7.heap.size W9).setCell 0 _) HEB.out.2.2.symm
      have HCP : Hid (CT w (W9.setCell ⟨W7.heap.size, 0, none⟩ (.int .i64 x)) B b zs cap) := HCA.out.set _ _ _ (Nat.le_of_lt HWS.out)
      have cj := row_c HEA.out 0 _ rfl
      have fj := Lib.frozen_of_heap HEA.out 0
      clear hx c9 t9 hal HC9 HE9 HR9
      have HRF : Hid (((W9.setCell ⟨W7.heap.size, 0, none⟩ (.int .i64 x)).setRow w.heap.size #[.int .i64 x, .int .i64 y1, .int .u32 y2, .int .i64 (y3 - 1), .int .i64 y4, .int .i64 y5, .int .u32 y6]).heap[w.heap.size]? = some (.cells #[.int .i64 x, .int .i64 y1, .int .u32 y2, .int .i64 (y3 - 1), .int .i64 y4, .int .i64 y5, .int .u32 y6] 26 (0, 0))) := setRow_heap _ _ _ _ _ _ HRP.out
      have m0 := row_c HRF.out 0 _ rfl
      have m1 := row_c HRF.out 1 _ rfl
      have m2 := row_c HRF.out 2 _ rfl
      have m3 := row_c HRF.out 3 _ rfl
      have m4 := row_c HRF.out 4 _ rfl
      have m5 := row_c HRF.out 5 _ rfl
      have m6 := row_c HRF.out 6 _ rfl
      have HT : Hid (Turn B w ((W9.setCell ⟨W7.heap.size, 0, none⟩ (.int .i64 x)).setRow w.heap.size #[.int .i64 x, .int .i64 y1, .int .u32 y2, .int .i64 (y3 - 1), .int .i64 y4, .int .i64 y5, .int .u32 y6])) := by
        have h1 := HCP.out.turn
        have h2 : Below w.heap.size (W9.setCell ⟨W7.heap.size, 0, none⟩ (.int .i64 x)) ((W9.setCell ⟨W7.heap.size, 0, none⟩ (.int .i64 x)).setRow w.heap.size #[.int .i64 x, .int .i64 y1, .int .u32 y2, .int .i64 (y3 - 1), .int .i64 y4, .int .i64 y5, .int .u32 y6]) := below_setRow (Below.refl _ _) (Nat.le_refl _) _
        exact ⟨h2.os.trans h1.os, h2.tape.trans h1.tape, h2.output.trans h1.output, Nat.le_trans h1.size h2.size, fun k hk hn => (h2.block k hk).trans (h1.block k hk hn)⟩
      go_wp2_with (first | (refine wpList_load_row rfl 26 (.tmp 3) rfl W7.heap.size rfl 26 #[.int .i64 x, .int .i64 y1, .int .u32 y2, .int .i64 (y3 - 1), .int .i64 y4, .int .i64 y5, .int .u32 y6] (0, 0) _ HEP.out Tryd.underlying26 rfl (by kernel_rfl) ?_) | (refine wpList_store_row rfl 26 (.tmp 2) (.tmp 40) rfl w.heap.size #[.int .i64 x, .int .i64 y1, .int .u32 y2, .int .i64 (y3 - 1), .int .i64 y4, .int .i64 y5, .int .u32 y6] rfl rfl 26 #[.int .i64 0, .int .i64 0, .int .u32 0, .int .i64 0, .int .i64 0, .int .i64 0, .int .u32 0] HRP.out (by kernel_rfl) rfl (by simp [Value.oneCell']) ?_) | fail)
      exact bodyPost_ret (v := .agg #[.int .i64 x, .int .i64 y1, .int .u32 y2, .int .i64 (y3 - 1), .int .i64 y4, .int .i64 y5, .int .u32 y6]) (by simp [results, Tryd.results30, go_sem, m0, m1, m2, m3, m4, m5, m6]) rfl ⟨_, _, _, _, _, _, _, rfl, (by
            have := HY0.out
            have := HY1.out
            have := HY2.out
            have := HY3.out
            have := HY4.out
            have := HY5.out
            have := HY6.out
            have hx := HX.out
            simp only [List.mem_cons, List.not_mem_nil, or_false] at hx
            exact ⟨by omega, by unfold Ex.Md; omega, by omega, by omega, by omega, by unfold Ex.Md; omega, by omega⟩), HT.out⟩
    · by_cases k2 : k = 2
      · have q0 : (k == 0) = false := beq_eq_false_iff_ne.2 k0
        have q1 : (k == 1) = false := beq_eq_false_iff_ne.2 k1
        have q2 : (k == 2) = true := by simp [k2]
        clear k0 k1 k2
        go_wp2_with fail
        refine Calls.mono (draw_pick _ B W8.heap.size _ _ _ [-5, 1000001] (HC9.out.alloc _).cur (own_litD .i64 W8 3 [-5, 1000001]) (by have := HC9.out.cur.lt; omega) (by decide) (by decide)) ?_
        rintro e W9 ⟨x, rfl, hx, c9, t9⟩
        have HX : Hid (x ∈ [-5, 1000001]) := hx
        have HCA : Hid (CT w W9 B b zs cap) := (HC9.out.alloc _).step c9 t9
        have hal : Below W8.heap.size W8 (W8.alloc (.cells (([-5, 1000001] : List Int).map (Value.int .i64)).toArray 3)) := (Below.refl _ _).alloc (Nat.le_refl _) _
        have HEA : Hid (W9.heap[W7.heap.size]? = some (.cells #[.int .i64 y0, .int .i64 y1, .int .u32 y2, .int .i64 (y3 - 1), .int .i64 y4, .int .i64 y5, .int .u32 y6] 26 (0, 0))) := row_turn (row_below HE9.out hal) t9 HEB.out.1
        have HRA : Hid (W9.heap[w.heap.size]? = some (.cells #[.int .i64 0, .int .i64 0, .int .u32 0, .int .i64 0, .int .i64 0, .int .i64 0, .int .u32 0] 26 (0, 0))) := row_turn (row_below HR9.out hal) t9 HEB.out.2.1
        have HEP : Hid ((W9.setCell ⟨W7.heap.size, 4, none⟩ (.int .i64 x)).heap[W7.heap.size]? = some (.cells #[.int .i64 y0, .int .i64 y1, .int .u32 y2, .int .i64 (y3 - 1), .int .i64 x, .int .i64 y5, .int .u32 y6] 26 (0, 0))) := row_put HEA.out _
        have HRP : Hid ((W9.setCell ⟨W7.heap.size, 4, none⟩ (.int .i64 x)).heap[w.heap.size]? = some (.cells #[.int .i64 0, .int .i64 0, .int .u32 0, .int .i64 0, .int .i64 0, .int .i64 0, .int .u32 0] 26 (0, 0))) := row_turn HRA.out ((Turn.refl W7.heap.size W9).setCell 4 _) HEB.out.2.2.symm
        have HCP : Hid (CT w (W9.setCell ⟨W7.heap.size, 4, none⟩ (.int .i64 x)) B b zs cap) := HCA.out.set _ _ _ (Nat.le_of_lt HWS.out)
        have cj := row_c HEA.out 4 _ rfl
        have fj := Lib.frozen_of_heap HEA.out 4
        clear hx c9 t9 hal HC9 HE9 HR9
        have HRF : Hid (((W9.setCell ⟨W7.heap.size, 4, none⟩ (.int .i64 x)).setRow w.heap.size #[.int .i64 y0, .int .i64 y1, .int .u32 y2, .int .i64 (y3 - 1), .int .i64 x, .int .i64 y5, .int .u32 y6]).heap[w.heap.size]? = some (.cells #[.int .i64 y0, .int .i64 y1, .int .u32 y2, .int .i64 (y3 - 1), .int .i64 x, .int .i64 y5, .int .u32 y6] 26 (0, 0))) := setRow_heap _ _ _ _ _ _ HRP.out
        have m0 := row_c HRF.out 0 _ rfl
        have m1 := row_c HRF.out 1 _ rfl
        have m2 := row_c HRF.out 2 _ rfl
        have m3 := row_c HRF.out 3 _ rfl
        have m4 := row_c HRF.out 4 _ rfl
        have m5 := row_c HRF.out 5 _ rfl
        have m6 := row_c HRF.out 6 _ rfl
        have HT : Hid (Turn B w ((W9.setCell ⟨W7.heap.size, 4, none⟩ (.int .i64 x)).setRow w.heap.size #[.int .i64 y0, .int .i64 y1, .int .u32 y2, .int .i64 (y3 - 1), .int .i64 x, .int .i64 y5, .int .u32 y6])) := by
          have h1 := HCP.out.turn
          have h2 : Below w.heap.size (W9.setCell ⟨W7.heap.size, 4, none⟩ (.int .i64 x)) ((W9.setCell ⟨W7.heap.size, 4, none⟩ (.int .i64 x)).setRow w.heap.size #[.int .i64 y0, .int .i64 y1, .int .u32 y2, .int .i64 (y3 - 1), .int .i64 x, .int .i64 y5, .int .u32 y6]) := below_setRow (Below.refl _ _) (Nat.le_refl _) _
          exact ⟨h2.os.trans h1.os, h2.tape.trans h1.tape, h2.output.trans h1.output, Nat.le_trans h1.size h2.size, fun k hk hn => (h2.block k hk).trans (h1.block k hk hn)⟩
        go_wp2_with (first | (refine wpList_load_row rfl 26 (.tmp 3) rfl W7.heap.size rfl 26 #[.int .i64 y0, .int .i64 y1, .int .u32 y2, .int .i64 (y3 - 1), .int .i64 x, .int .i64 y5, .int .u32 y6] (0, 0) _ HEP.out Tryd.underlying26 rfl (by kernel_rfl) ?_) | (refine wpList_store_row rfl 26 (.tmp 2) (.tmp 40) rfl w.heap.size #[.int .i64 y0, .int .i64 y1, .int .u32 y2, .int .i64 (y3 - 1), .int .i64 x, .int .i64 y5, .int .u32 y6] rfl rfl 26 #[.int .i64 0, .int .i64 0, .int .u32 0, .int .i64 0, .int .i64 0, .int .i64 0, .int .u32 0] HRP.out (by kernel_rfl) rfl (by simp [Value.oneCell']) ?_) | fail)
        exact bodyPost_ret (v := .agg #[.int .i64 y0, .int .i64 y1, .int .u32 y2, .int .i64 (y3 - 1), .int .i64 x, .int .i64 y5, .int .u32 y6]) (by simp [results, Tryd.results30, go_sem, m0, m1, m2, m3, m4, m5, m6]) rfl ⟨_, _, _, _, _, _, _, rfl, (by
              have := HY0.out
              have := HY1.out
              have := HY2.out
              have := HY3.out
              have := HY4.out
              have := HY5.out
              have := HY6.out
              have hx := HX.out
              simp only [List.mem_cons, List.not_mem_nil, or_false] at hx
              exact ⟨by omega, by unfold Ex.Md; omega, by omega, by omega, by omega, by unfold Ex.Md; omega, by omega⟩), HT.out⟩
      · have q0 : (k == 0) = false := beq_eq_false_iff_ne.2 k0
        have q1 : (k == 1) = false := beq_eq_false_iff_ne.2 k1
        have q2 : (k == 2) = false := beq_eq_false_iff_ne.2 k2
        clear k0 k1 k2
        have HRF : Hid ((W8.setRow w.heap.size #[.int .i64 y0, .int .i64 y1, .int .u32 y2, .int .i64 (y3 - 1), .int .i64 y4, .int .i64 y5, .int .u32 y6]).heap[w.heap.size]? = some (.cells #[.int .i64 y0, .int .i64 y1, .int .u32 y2, .int .i64 (y3 - 1), .int .i64 y4, .int .i64 y5, .int .u32 y6] 26 (0, 0))) := setRow_heap _ _ _ _ _ _ HR9.out
        have m0 := row_c HRF.out 0 _ rfl
        have m1 := row_c HRF.out 1 _ rfl
        have m2 := row_c HRF.out 2 _ rfl
        have m3 := row_c HRF.out 3 _ rfl
        have m4 := row_c HRF.out 4 _ rfl
        have m5 := row_c HRF.out 5 _ rfl
        have m6 := row_c HRF.out 6 _ rfl
        have HT : Hid (Turn B w (W8.setRow w.heap.size #[.int .i64 y0, .int .i64 y1, .int .u32 y2, .int .i64 (y3 - 1), .int .i64 y4, .int .i64 y5, .int .u32 y6])) := by
          have h1 := HC9.out.turn
          have h2 : Below w.heap.size W8 (W8.setRow w.heap.size #[.int .i64 y0, .int .i64 y1, .int .u32 y2, .int .i64 (y3 - 1), .int .i64 y4, .int .i64 y5, .int .u32 y6]) := below_setRow (Below.refl _ _) (Nat.le_refl _) _
          exact ⟨h2.os.trans h1.os, h2.tape.trans h1.tape, h2.output.trans h1.output, Nat.le_trans h1.size h2.size, fun k hk hn => (h2.block k hk).trans (h1.block k hk hn)⟩
        go_wp2_with (first | (refine wpList_load_row rfl 26 (.tmp 3) rfl W7.heap.size rfl 26 #[.int .i64 y0, .int .i64 y1, .int .u32 y2, .int .i64 (y3 - 1), .int .i64 y4, .int .i64 y5, .int .u32 y6] (0, 0) _ HE9.out Tryd.underlying26 rfl (by kernel_rfl) ?_) | (refine wpList_store_row rfl 26 (.tmp 2) (.tmp 40) rfl w.heap.size #[.int .i64 y0, .int .i64 y1, .int .u32 y2, .int .i64 (y3 - 1), .int .i64 y4, .int .i64 y5, .int .u32 y6] rfl rfl 26 #[.int .i64 0, .int .i64 0, .int .u32 0, .int .i64 0, .int .i64 0, .int .i64 0, .int .u32 0] HR9.out (by kernel_rfl) rfl (by simp [Value.oneCell']) ?_) | fail)
        exact bodyPost_ret (v := .agg #[.int .i64 y0, .int .i64 y1, .int .u32 y2, .int .i64 (y3 - 1), .int .i64 y4, .int .i64 y5, .int .u32 y6]) (by simp [results, Tryd.results30, go_sem, m0, m1, m2, m3, m4, m5, m6]) rfl ⟨_, _, _, _, _, _, _, rfl, (by
              have := HY0.out
              have := HY1.out
              have := HY2.out
              have := HY3.out
              have := HY4.out
              have := HY5.out
              have := HY6.out
              exact ⟨by omega, by unfold Ex.Md; omega, by omega, by omega, by omega, by unfold Ex.Md; omega, by omega⟩), HT.out⟩
theorem draw_evt (w : World) (b : Option Addr) (zs : List Int) (cap : Nat) (hs : Seg .u8 w b zs) (hb : ∀ z ∈ zs, (Lit.int .u8 z).wf = true) (hn : zs.length ≤ 1048576) :
    Calls Tryd.prog 13 #[.slice b zs.length cap] w fun e w' => ∃ a c p o f u s, e = .returned (.agg #[.int .i64 a, .int .i64 c, .int .u32 p, .int .i64 o, .int .i64 f, .int .i64 u, .int .u32 s]) ∧ EvDr a c p o f u s ∧ Below w.heap.size w w' := by
  have HB0 : Hid (Below w.heap.size w (w.alloc (.cells #[.int .i64 0, .int .i64 0, .int .u32 0, .int .i64 0, .int .i64 0, .int .i64 0, .int .u32 0] 26))) := (Below.refl _ _).alloc (Nat.le_refl _) _
  have HR : Hid ((w.alloc (.cells #[.int .i64 0, .int .i64 0, .int .u32 0, .int .i64 0, .int .i64 0, .int .i64 0, .int .u32 0] 26)).heap[w.heap.size]? = some (.cells #[.int .i64 0, .int .i64 0, .int .u32 0, .int .i64 0, .int .i64 0, .int .i64 0, .int .u32 0] 26 (0, 0))) := new_row w _ _ _ rfl
  have HNW : Hid (Calls Tryd.prog 31 #[.slice b zs.length cap] (w.alloc (.cells #[.int .i64 0, .int .i64 0, .int .u32 0, .int .i64 0, .int .i64 0, .int .i64 0, .int .u32 0] 26)) fun e w' => e = .returned (.pointer (some ⟨(w.alloc (.cells #[.int .i64 0, .int .i64 0, .int .u32 0, .int .i64 0, .int .i64 0, .int .i64 0, .int .u32 0] 26)).heap.size, 0, none⟩)) ∧ Cur w' (w.alloc (.cells #[.int .i64 0, .int .i64 0, .int .u32 0, .int .i64 0, .int .i64 0, .int .i64 0, .int .u32 0] 26)).heap.size b zs cap ∧ Below (w.alloc (.cells #[.int .i64 0, .int .i64 0, .int .u32 0, .int .i64 0, .int .i64 0, .int .i64 0, .int .u32 0] 26)).heap.size (w.alloc (.cells #[.int .i64 0, .int .i64 0, .int .u32 0, .int .i64 0, .int .i64 0, .int .i64 0, .int .u32 0] 26)) w') := draw_new _ b zs cap (hs.below HB0.out) hb hn
  obtain ⟨n, hnn⟩ : ∃ n, zs.length = n := ⟨_, rfl⟩
  rw [hnn] at HNW ⊢
  clear hs hb hn
  go_enter Tryd.func13, Tryd.ntmps13
  go_wp2_with fail
  refine Calls.mono HNW.out ?_
  rintro e w1 ⟨rfl, hc1, hb1⟩
  have hs1 : (w.alloc (.cells #[.int .i64 0, .int .i64 0, .int .u32 0, .int .i64 0, .int .i64 0, .int .i64 0, .int .u32 0] 26)).heap.size = w.heap.size + 1 := by simp
  have HR1 : Hid (w1.heap[w.heap.size]? = some (.cells #[.int .i64 0, .int .i64 0, .int .u32 0, .int .i64 0, .int .i64 0, .int .i64 0, .int .u32 0] 26 (0, 0))) := row_below HR.out hb1
  rw [hs1] at hc1
  have HB1 : Hid (Below w.heap.size w w1) := HB0.out.trans (hb1.mono HB0.out.size)
  go_wp2_with fail
  refine Calls.mono (draw_ev _ _ _ _ _ hc1) ?_
  rintro e w2 ⟨a, c, p, o, f, u, s, rfl, hd, ht⟩
  have HD : Hid (EvDr a c p o f u s) := hd
  have HR2 : Hid (w2.heap[w.heap.size]? = some (.cells #[.int .i64 0, .int .i64 0, .int .u32 0, .int .i64 0, .int .i64 0, .int .i64 0, .int .u32 0] 26 (0, 0))) := row_turn HR1.out ht (by simp)
  have HB2 : Hid (Below w.heap.size w w2) := HB1.out.trans (ht.below (by simp) HB1.out.size)
  have HRF : Hid ((w2.setRow w.heap.size #[.int .i64 a, .int .i64 c, .int .u32 p, .int .i64 o, .int .i64 f, .int .i64 u, .int .u32 s]).heap[w.heap.size]? = some (.cells #[.int .i64 a, .int .i64 c, .int .u32 p, .int .i64 o, .int .i64 f, .int .i64 u, .int .u32 s] 26 (0, 0))) := setRow_heap _ _ _ _ _ _ HR2.out
  have HBF : Hid (Below w.heap.size w (w2.setRow w.heap.size #[.int .i64 a, .int .i64 c, .int .u32 p, .int .i64 o, .int .i64 f, .int .i64 u, .int .u32 s])) := below_setRow HB2.out (Nat.le_refl _) _
  have m0 := row_c HRF.out 0 _ rfl
  have m1 := row_c HRF.out 1 _ rfl
  have m2 := row_c HRF.out 2 _ rfl
  have m3 := row_c HRF.out 3 _ rfl
  have m4 := row_c HRF.out 4 _ rfl
  have m5 := row_c HRF.out 5 _ rfl
  have m6 := row_c HRF.out 6 _ rfl
  clear hc1 hb1 hd ht hs1 HB0 HB1 HR HR1
  go_wp2_with (first | (refine wpList_store_row rfl 26 (.tmp 2) (.tmp 5) rfl w.heap.size #[.int .i64 a, .int .i64 c, .int .u32 p, .int .i64 o, .int .i64 f, .int .i64 u, .int .u32 s] rfl rfl 26 #[.int .i64 0, .int .i64 0, .int .u32 0, .int .i64 0, .int .i64 0, .int .i64 0, .int .u32 0] HR2.out (by kernel_rfl) rfl (by simp [Value.oneCell']) ?_) | fail)
  exact bodyPost_ret (v := .agg #[.int .i64 a, .int .i64 c, .int .u32 p, .int .i64 o, .int .i64 f, .int .i64 u, .int .u32 s]) (by simp [results, Tryd.results13, go_sem, m0, m1, m2, m3, m4, m5, m6]) rfl ⟨_, _, _, _, _, _, _, rfl, HD.out, HBF.out⟩
end Go.Proofs.YthlapikcjiajgaaDoor
