/-
  What the draw of 'n' windows returns. Conditions: the bytes drawn from are at most 1048576; 'n' is 1 to 4.
  What the draw of any list of windows returns. Conditions: the bytes drawn from are at most 1048576.
  What the draw of an access returns: some list of windows in memory of the call's own, some address, size and kind. Conditions: the bytes drawn from are at most 1048576.
-/
import Derived.Test.YtanffdedignegaaBas
import Derived.Test.YtanffdedignegaaProg
import Derived.Test.YtanffdedignegaaDwd
namespace Go.Proofs.Ytanffdedignegaa
open Go.ChangeShapes Go.WideShapes Go.ChangeAt Go.RowKit Go.Deep
set_option linter.unusedVariables false
set_option maxRecDepth 20000

theorem pick8 {y : Int} (h : y ∈ [3, 5, 1, 7, 4, 2, 6, (3 : Int)]) : 1 ≤ y ∧ y ≤ 7 := by simp at h; omega
theorem pick4 {y : Int} (h : y ∈ [0, 0, 1, (9 : Int)]) : 0 ≤ y ∧ y ≤ 9 := by simp at h; omega
theorem WL.start {w : World} {B : Nat} {a : Option Addr} {zs : List Int} {cap : Nat} (hc : Cur w B a zs cap) : WL w (w.alloc (.cells #[] 40)) B a zs cap (.slice (some ⟨w.heap.size, 0, none⟩) 0 0) 0 := by
  have hal : Below w.heap.size w (w.alloc (.cells #[] 40)) := (Below.refl _ _).alloc (Nat.le_refl _) _
  exact ⟨hc.below hal, Turn.of_below hal, ⟨[], by simp, OwnA.new w _ rfl, by simp⟩, hc.lt, fun b off e h0 => seg_lt hc.seg b off e h0⟩
theorem wrap_s {x : Int} (h : -1000000 ≤ x ∧ x ≤ 1000000) : IntKind.i64.wrap x = x := by rw [IntKind.wrap_i64]; omega
theorem cell_al {W : World} {p : Addr} {v : Value} {o : Obj} (h : W.cell? p = some v) : (W.alloc o).cell? p = some v :=
  (((Below.refl _ W).alloc (Nat.le_refl _) o).cell (World.block_lt_of_cell? W _ h)).trans h
theorem WL.curd {w0 W : World} {B : Nat} {a : Option Addr} {zs : List Int} {cap : Nat} {v : Value} {n : Nat} (h : WL w0 W B a zs cap v n) (o : Obj) : Cur (W.drew.alloc o) B a zs cap := h.cur.below ((Below.refl _ _).drew.alloc (Nat.le_refl _) _)
theorem WL.dre {w0 W : World} {B : Nat} {a : Option Addr} {zs : List Int} {cap : Nat} {v : Value} {n : Nat} (h : WL w0 W B a zs cap v n) : WL w0 W.drew B a zs cap v n := h.below ((Below.refl _ _).drew)
end Go.Proofs.Ytanffdedignegaa
namespace Go.Proofs.Ytanffdedignegaa
open Go.ChangeShapes Go.WideShapes Go.ChangeAt Go.RowKit Go.Deep
set_option linter.unusedVariables false
set_option maxRecDepth 20000

theorem ownsRow_low {w : World} {base b' : Nat} {e : TypeId} {size : Nat} {v : Value} {n : Nat} {xs : List Value} (h : w.ownsRow base e size v n xs) (hle : b' ≤ base) : w.ownsRow b' e size v n xs := by
  refine ⟨h.1, ?_⟩
  rcases h.2 with hn | ⟨g, cap, cur, e, hb, rest⟩
  · exact .inl hn
  · exact .inr ⟨g, cap, cur, e, by omega, rest⟩
theorem WL.lower {w W0 W : World} {B : Nat} {a : Option Addr} {zs : List Int} {cap : Nat} {v : Value} {n : Nat} (h : WL W0 W B a zs cap v n) (hc : Cur w B a zs cap) (ht : Turn B w W0) : WL w W B a zs cap v n := by
  obtain ⟨ys, h1, h2, h3⟩ := h.own
  exact ⟨h.cur, ht.trans h.turn, ⟨ys, h1, ownsRow_low h2 ht.size, h3⟩, hc.lt, fun b off e h0 => seg_lt hc.seg b off e h0⟩
theorem WL.pushL {w0 W W' : World} {B : Nat} {a : Option Addr} {zs : List Int} {cap : Nat} {v : Value} {n m gg c1 : Nat} {ys xs : List Int} (h : WL w0 W B a zs cap v n) (hys : ∀ z ∈ ys, Sm z) (ho : W.ownsRow w0.heap.size 40 3 v n (ys.map (Value.int .i64))) (hx : ∀ z ∈ xs, Sm z)
    (h1 : W'.ownsRow w0.heap.size 40 3 (.slice (some ⟨gg, 0, none⟩) (n + m) c1) (n + m) (ys.map (Value.int .i64) ++ xs.map (Value.int .i64))) (hg : W.grownBy W' v.ownBlock) : WL w0 W' B a zs cap (.slice (some ⟨gg, 0, none⟩) (n + m) c1) (n + m) := by
  have hb : Below w0.heap.size W W' := Below.grown (Below.refl _ _) hg h.turn.size (fun k e => by
    rcases ho.2 with ⟨rfl, _⟩ | ⟨g, cap, cur, rfl, hbs, _⟩
    · simp [Value.ownBlock] at e
    · simp [Value.ownBlock] at e; omega)
  refine ⟨h.cur.belowC hb h.lo h.seg, h.turn.then_below hb, ⟨ys ++ xs, fun z hz => ?_, by simpa using h1, fun e => by cases e⟩, h.lo, h.seg⟩
  rcases List.mem_append.1 hz with g | g
  · exact hys z g
  · exact hx z g
theorem WL.empty {w0 W : World} {B : Nat} {a : Option Addr} {zs : List Int} {cap : Nat} {v : Value} {n : Nat} (h : WL w0 W B a zs cap v n) : WL w0 (W.alloc (.cells #[] 40)) B a zs cap (.slice (some ⟨W.heap.size, 0, none⟩) 0 0) 0 := by
  have hal : Below W.heap.size W (W.alloc (.cells #[] 40)) := (Below.refl _ _).alloc (Nat.le_refl _) _
  exact ⟨h.cur.below hal, h.turn.trans (Turn.of_below hal), ⟨[], by simp, ownsRow_low (OwnA.new W _ rfl) h.turn.size, by simp⟩, h.lo, h.seg⟩
theorem small_of {y : Int} {l : List Int} (h : y ∈ l) (hl : ∀ z ∈ l, Sm z) : Sm y := hl y h
end Go.Proofs.Ytanffdedignegaa
namespace Go.Proofs.Ytanffdedignegaa
open Go.ChangeShapes Go.WideShapes Go.ChangeAt Go.RowKit Go.Deep
set_option linter.unusedVariables false
set_option maxRecDepth 20000

set_option maxHeartbeats 8000000 in
theorem draw_addr (w W : World) (B : Nat) (a : Option Addr) (zs : List Int) (cap : Nat) (v : Value) (m : Nat) (h : WL w W B a zs cap v m) (hm : m ≤ 8) :
    Calls Try.prog 31 #[.pointer (some ⟨B, 0, none⟩), v] W fun e w' => ∃ t : Int, e = .returned (.int .i64 t) ∧ WL w w' B a zs cap v m := by
  have HW : Hid _ := h
  obtain ⟨g, c1, rfl, hg1, hg2, hg3⟩ := h.own.form
  clear h
  by_cases h0 : m = 0
  · subst h0
    go_enter Try.func31, Try.ntmps31
    go_wp2_with fail
    refine Calls.mono (draw_below _ B _ _ _ _ HW.out.cur (by omega) (by omega)) ?_
    rintro e w1 ⟨x, rfl, hx0, hx1, hc1, ht1⟩
    have HW1 : Hid _ := HW.out.draw hc1 ht1
    clear hc1 ht1
    go_wp2
    go_ret
    exact ⟨_, rfl, HW1.out⟩
  have h0' : ((m : Int) == 0) = false := by simp; omega
  go_enter Try.func31, Try.ntmps31
  go_wp2_with fail
  refine Calls.mono (draw_once _ B _ _ _ _ HW.out.cur (by omega) (by omega)) ?_
  rintro e w1 ⟨q, rfl, hc1, ht1⟩
  have HW1 : Hid _ := HW.out.draw hc1 ht1
  clear hc1 ht1
  cases q
  rotate_left
  · go_wp2_with fail
    refine Calls.mono (draw_below _ B _ _ _ _ HW1.out.cur (by omega) (by omega)) ?_
    rintro e w2 ⟨x, rfl, hx0, hx1, hc2, ht2⟩
    have HW2 : Hid _ := HW1.out.draw hc2 ht2
    clear hc2 ht2
    go_wp2
    go_ret
    exact ⟨_, rfl, HW2.out⟩
  go_wp2_with fail
  refine Calls.mono (draw_below _ B _ _ _ _ HW1.out.cur (by omega) (by omega)) ?_
  rintro e w2 ⟨x, rfl, hx0, hx1, hc2, ht2⟩
  obtain ⟨k, rfl⟩ := Int.eq_ofNat_of_zero_le hx0
  have HW2 : Hid (WL w w2 B a zs cap (.slice (some ⟨g, 0, none⟩) m c1) m) := HW1.out.draw hc2 ht2
  clear hc2 ht2 HW HW1
  obtain ⟨x0, hx0', e0⟩ := HW2.out.own.cell (k * 3) (by omega)
  obtain ⟨x1, hx1', e1⟩ := HW2.out.own.cell (k * 3 + 1) (by omega)
  obtain ⟨x2, hx2', e2⟩ := HW2.out.own.cell (k * 3 + 2) (by omega)
  obtain ⟨s1, s2⟩ := hx1'
  have hw1 : IntKind.i64.wrap (x1 - 4) = x1 - 4 := wrap_s (by omega)
  have hw2 : IntKind.i64.wrap (x1 - 1) = x1 - 1 := wrap_s (by clear hw1; omega)
  have hne2 : w2.heap.size + 1 ≠ B := by clear hw1 hw2; have := HW2.out.cur.lt; omega
  have b0 := (Bk.new w2 #[.int .i64 x0, .int .i64 x1, .int .i64 x2] 40 w2.heap.size rfl).cell 0 _ rfl
  have b1 := (Bk.new w2 #[.int .i64 x0, .int .i64 x1, .int .i64 x2] 40 w2.heap.size rfl).cell 1 _ rfl
  replace b0 : (w2.alloc (.cells #[.int .i64 x0, .int .i64 x1, .int .i64 x2] 40)).cell? ⟨w2.heap.size, 0, none⟩ = some (.int .i64 x0) := b0
  replace b1 : (w2.alloc (.cells #[.int .i64 x0, .int .i64 x1, .int .i64 x2] 40)).cell? ⟨w2.heap.size, 1, none⟩ = some (.int .i64 x1) := b1
  have HWA : Hid (WL w (w2.alloc (.cells #[.int .i64 x0, .int .i64 x1, .int .i64 x2] 40)) B a zs cap (.slice (some ⟨g, 0, none⟩) m c1) m) := HW2.out.alloc _
  go_wp2
  have hbs : w2.heap.size < (w2.alloc (.cells #[.int .i64 x0, .int .i64 x1, .int .i64 x2] 40)).heap.size := by simp
  have hneB : w2.heap.size ≠ B := by clear hw1 hw2; have := HW2.out.cur.lt; omega
  generalize w2.alloc (.cells #[.int .i64 x0, .int .i64 x1, .int .i64 x2] 40) = W5 at b0 b1 HWA hbs ⊢
  generalize w2.heap.size = Q5 at b0 b1 hbs hneB ⊢
  have hne5 : W5.heap.size ≠ B := by clear hw1 hw2; have := HWA.out.cur.lt; omega
  clear HW2 e0 e1 e2 hne2
  go_region_held3 (fun w' => w'.cell? ⟨Q5, 0, none⟩ = some (.int .i64 x0) ∧ w'.cell? ⟨Q5, 1, none⟩ = some (.int .i64 x1)) (first | exact ⟨b0, b1⟩ | exact ⟨cell_al b0, cell_al b1⟩)
    (first | (go_at_call 15; refine Calls.mono (draw_pick _ B _ _ _ _ [0, 0, 4, 1, -1, x1 - 4, x1 - 1, x1] (HWA.out.curd _) ((own_lit .i64 W5 3 [0, 0, 4, 1, -1, x1 - 4, x1 - 1, x1]).below ((Below.refl _ _).drew)) hne5 (by simp) (by simp)) ?_; rintro u w10 ⟨y2, rfl, hy2, hc10, ht10⟩; replace b0 := (ht10.cell (b := Q5) (o := 0) (by simp; omega) hneB).trans (cell_al b0); replace b1 := (ht10.cell (b := Q5) (o := 1) (by simp; omega) hneB).trans (cell_al b1); have HW10 : Hid (WL w w10 B a zs cap (.slice (some ⟨g, 0, none⟩) m c1) m) := (HWA.out.dre.alloc _).draw hc10 ht10; clear hy2 hc10 ht10))
  go_wp2
  go_ret
  exact ⟨_, rfl, HW10.out⟩
/-- What a draw of an access leaves. -/
def FPost (w : World) (e : Ending) (w' : World) : Prop := ∃ g m c1 : Nat, ∃ ad sz kd : Int, e = .returned (.tuple #[.slice (some ⟨g, 0, none⟩) m c1, .int .u32 ad, .int .i64 sz, .int .i64 kd]) ∧ (0 ≤ ad ∧ ad < 4294967296) ∧ m ≤ 8 ∧ m ≤ c1 ∧ OwnZ w' w.heap.size (.slice (some ⟨g, 0, none⟩) m c1) m ∧ Below w.heap.size w w'
end Go.Proofs.Ytanffdedignegaa
