
/-
  What the draw of an access returns: some list of windows in memory of the call's own, some address, size and kind. Conditions: the bytes drawn from are at most 1048576.
-/
import Derived.Test.YtfdjfjkbbfcodaaBas
import Derived.Test.YtfdjfjkbbfcodaaProg
import Derived.Test.YtfdjfjkbbfcodaaDwa
namespace Go.Proofs.Ytfdjfjkbbfcodaa
open Go.ChangeShapes Go.WideShapes Go.ChangeAt Go.RowKit Go.Deep
set_option linter.unusedVariables false
set_option maxRecDepth 20000

set_option maxHeartbeats 8000000 in
theorem draw_addr (w W : World) (B : Nat) (a : Option Addr) (zs : List Int) (cap : Nat) (v : Value) (m : Nat) (h : WL w W B a zs cap v m) (hm : m ≤ 8) :
    Calls Try.prog 83 #[.pointer (some ⟨B, 0, none⟩), v] W fun e w' => ∃ t : Int, e = .returned (.int .i64 t) ∧ WL w w' B a zs cap v m := by
  have HW : Hid _ := h
  obtain ⟨g, c1, rfl, hg1, hg2, hg3⟩ := h.own.form
  clear h
  by_cases h0 : m = 0
  · subst h0
    go_enter Try.func83, Try.ntmps83
    go_wp2_with fail
    refine Calls.mono (draw_below _ B _ _ _ _ HW.out.cur (by omega) (by omega)) ?_
    rintro e w1 ⟨x, rfl, hx0, hx1, hc1, ht1⟩
    have HW1 : Hid _ := HW.out.draw hc1 ht1
    clear hc1 ht1
    go_wp2
    go_ret
    exact ⟨_, rfl, HW1.out⟩
  have h0' : ((m : Int) == 0) = false := by simp; omega
  go_enter Try.func83, Try.ntmps83
  go_wp2_with fail
  refine Calls.mono (draw_once _ B _ _ _ _ HW.out.cur (by omega) (by omega)) ?_
  rintro e w1 ⟨q, rfl, hc1, ht1⟩
  have HW1 : Hid _ := HW.out.draw hc1 ht1
  clear hc1 ht1
  cases q
  rotate_left
  · go_wp2_with fail
    refine Calls.mono (draw_below _ B _ _ _ _ HW1.out.cur (by omega) (by omega)) ?_
    rintro e w2 ⟨x, rfl, hx0, hx1, hc2, ht2⟩
    have HW2 : Hid _ := HW1.out.draw hc2 ht2
    clear hc2 ht2
    go_wp2
    go_ret
    exact ⟨_, rfl, HW2.out⟩
  go_wp2_with fail
  refine Calls.mono (draw_below _ B _ _ _ _ HW1.out.cur (by omega) (by omega)) ?_
  rintro e w2 ⟨x, rfl, hx0, hx1, hc2, ht2⟩
  obtain ⟨k, rfl⟩ := Int.eq_ofNat_of_zero_le hx0
  have HW2 : Hid (WL w w2 B a zs cap (.slice (some ⟨g, 0, none⟩) m c1) m) := HW1.out.draw hc2 ht2
  clear hc2 ht2 HW HW1
  obtain ⟨x0, hx0', e0⟩ := HW2.out.own.cell (k * 3) (by omega)
  obtain ⟨x1, hx1', e1⟩ := HW2.out.own.cell (k * 3 + 1) (by omega)
  obtain ⟨x2, hx2', e2⟩ := HW2.out.own.cell (k * 3 + 2) (by omega)
  obtain ⟨s1, s2⟩ := hx1'
  have hw1 : IntKind.i64.wrap (x1 - 4) = x1 - 4 := wrap_s (by omega)
  have hw2 : IntKind.i64.wrap (x1 - 1) = x1 - 1 := wrap_s (by clear hw1; omega)
  have hne2 : w2.heap.size + 1 ≠ B := by clear hw1 hw2; have := HW2.out.cur.lt; omega
  have b0 := (Bk.new w2 #[.int .i64 x0, .int .i64 x1, .int .i64 x2] 60 w2.heap.size rfl).cell 0 _ rfl
  have b1 := (Bk.new w2 #[.int .i64 x0, .int .i64 x1, .int .i64 x2] 60 w2.heap.size rfl).cell 1 _ rfl
  replace b0 : (w2.alloc (.cells #[.int .i64 x0, .int .i64 x1, .int .i64 x2] 60)).cell? ⟨w2.heap.size, 0, none⟩ = some (.int .i64 x0) := b0
  replace b1 : (w2.alloc (.cells #[.int .i64 x0, .int .i64 x1, .int .i64 x2] 60)).cell? ⟨w2.heap.size, 1, none⟩ = some (.int .i64 x1) := b1
  have HWA : Hid (WL w (w2.alloc (.cells #[.int .i64 x0, .int .i64 x1, .int .i64 x2] 60)) B a zs cap (.slice (some ⟨g, 0, none⟩) m c1) m) := HW2.out.alloc _
  go_wp2
  have hbs : w2.heap.size < (w2.alloc (.cells #[.int .i64 x0, .int .i64 x1, .int .i64 x2] 60)).heap.size := by simp
  have hneB : w2.heap.size ≠ B := by clear hw1 hw2; have := HW2.out.cur.lt; omega
  generalize w2.alloc (.cells #[.int .i64 x0, .int .i64 x1, .int .i64 x2] 60) = W5 at b0 b1 HWA hbs ⊢
  generalize w2.heap.size = Q5 at b0 b1 hbs hneB ⊢
  have hne5 : W5.heap.size ≠ B := by clear hw1 hw2; have := HWA.out.cur.lt; omega
  clear HW2 e0 e1 e2 hne2
  go_region_held3 (fun w' => w'.cell? ⟨Q5, 0, none⟩ = some (.int .i64 x0) ∧ w'.cell? ⟨Q5, 1, none⟩ = some (.int .i64 x1)) (first | exact ⟨b0, b1⟩ | exact ⟨cell_al b0, cell_al b1⟩)
    (first | (go_at_call 84; refine Calls.mono (draw_pick _ B _ _ _ _ [0, 0, 4, 1, -1, x1 - 4, x1 - 1, x1] (HWA.out.curd _) ((own_lit .i64 W5 3 [0, 0, 4, 1, -1, x1 - 4, x1 - 1, x1]).below ((Below.refl _ _).drew)) hne5 (by simp) (by simp)) ?_; rintro u w10 ⟨y2, rfl, hy2, hc10, ht10⟩; replace b0 := (ht10.cell (b := Q5) (o := 0) (by simp; omega) hneB).trans (cell_al b0); replace b1 := (ht10.cell (b := Q5) (o := 1) (by simp; omega) hneB).trans (cell_al b1); have HW10 : Hid (WL w w10 B a zs cap (.slice (some ⟨g, 0, none⟩) m c1) m) := (HWA.out.dre.alloc _).draw hc10 ht10; clear hy2 hc10 ht10))
  go_wp2
  go_ret
  exact ⟨_, rfl, HW10.out⟩
/-- What a draw of an access leaves. -/
def FPost (w : World) (e : Ending) (w' : World) : Prop := ∃ g m c1 : Nat, ∃ ad sz kd : Int, e = .returned (.tuple #[.slice (some ⟨g, 0, none⟩) m c1, .int .u32 ad, .int .i64 sz, .int .i64 kd]) ∧ (0 ≤ ad ∧ ad < 4294967296) ∧ m ≤ 8 ∧ m ≤ c1 ∧ OwnZ w' w.heap.size (.slice (some ⟨g, 0, none⟩) m c1) m ∧ Below w.heap.size w w'
set_option maxHeartbeats 8000000 in
theorem draw_fault (a : Option Addr) (zs : List Int) (cap : Nat) (w : World) (hs : Seg .u8 w a zs) (hb : ∀ z ∈ zs, (Lit.int .u8 z).wf = true) (hn : zs.length ≤ 1048576) :
    Calls Try.prog 45 #[.slice a zs.length cap] w (FPost w) := by
  have HN : Hid _ := draw_new w a zs cap hs hb hn
  generalize zs.length = zl at HN
  clear hs hb hn
  go_enter Try.func45, Try.ntmps45
  go_wp2_with fail
  refine Calls.mono HN.out ?_
  rintro e w1 ⟨rfl, hc1, hb1⟩
  have HC1 : Hid _ := hc1
  have HB1 : Hid _ := hb1
  clear hc1 hb1 HN
  go_wp2_with fail
  refine Calls.mono (draw_any w1 w.heap.size a zs cap HC1.out) ?_
  rintro e w2 ⟨v, m, rfl, hw2, hm⟩
  have HW2 : Hid (WL w1 w2 w.heap.size a zs cap v m) := hw2
  obtain ⟨g, c1, rfl, hg1, hg2, hg3⟩ := hw2.own.form
  clear hw2
  go_wp2_with fail
  refine Calls.mono (draw_addr w1 w2 w.heap.size a zs cap _ m HW2.out hm) ?_
  rintro e w3 ⟨t, rfl, hw3⟩
  have HW3 : Hid _ := hw3
  clear hw3 HW2
  have HEND : Hid (∀ (ad sz kd : Int) (W : World), WL w1 W w.heap.size a zs cap (.slice (some ⟨g, 0, none⟩) m c1) m → (0 ≤ ad ∧ ad < 4294967296) → FPost w (.returned (.tuple #[.slice (some ⟨g, 0, none⟩) m c1, .int .u32 ad, .int .i64 sz, .int .i64 kd])) W) := fun ad sz kd W h had => by
    obtain ⟨ys, h1, h2, h3⟩ := h.own
    exact ⟨g, m, c1, ad, sz, kd, rfl, had, hm, hg3, ⟨ys, h1, ownsRow_low h2 HB1.out.size, h3⟩, HB1.out.trans (h.turn.below (Nat.le_refl _) HB1.out.size)⟩
  have hne3 : w3.heap.size ≠ w.heap.size := by have := HW3.out.cur.lt; omega
  go_wp2_with fail
  refine Calls.mono (draw_pick _ w.heap.size w3.heap.size _ _ _ [1, 4, 4, 4] (HW3.out.alloc _).cur (own_lit .i64 w3 3 [1, 4, 4, 4]) hne3 (by decide) (by decide)) ?_
  rintro e w4 ⟨s1, rfl, hy4, hc4, ht4⟩
  have HW4 : Hid _ := (HW3.out.alloc _).draw hc4 ht4
  clear hc4 ht4 HW3 hne3 hy4
  have hne4 : w4.heap.size ≠ w.heap.size := by have := HW4.out.cur.lt; omega
  go_wp2_with fail
  refine Calls.mono (draw_pick _ w.heap.size w4.heap.size _ _ _ [1, 2, 4] (HW4.out.alloc _).cur (own_lit .i64 w4 3 [1, 2, 4]) hne4 (by decide) (by decide)) ?_
  rintro e w5 ⟨k1, rfl, hy5, hc5, ht5⟩
  have HW5 : Hid _ := (HW4.out.alloc _).draw hc5 ht5
  clear hc5 ht5 HW4 hne4 hy5
  go_wp2_with fail
  refine Calls.mono (draw_below _ w.heap.size _ _ _ _ HW5.out.cur (by omega) (by omega)) ?_
  rintro e w6 ⟨d, rfl, hd0, hd1, hc6, ht6⟩
  have HW6 : Hid _ := HW5.out.draw hc6 ht6
  clear hc6 ht6 HW5
  have hcase : d = 0 ∨ d = 1 ∨ ((d == 0) = false ∧ (d == 1) = false) := by
    by_cases h : d = 0 ∨ d = 1
    · omega
    · simp only [not_or] at h
      simp [h]
  clear hd0 hd1
  rcases hcase with rfl | rfl | ⟨d0, d1⟩
  · have hne6 : w6.heap.size ≠ w.heap.size := by have := HW6.out.cur.lt; omega
    go_wp2_with fail
    refine Calls.mono (draw_pick _ w.heap.size w6.heap.size _ _ _ [0, 2, 8] (HW6.out.alloc _).cur (own_lit .i64 w6 3 [0, 2, 8]) hne6 (by decide) (by decide)) ?_
    rintro e w7 ⟨s2, rfl, hy7, hc7, ht7⟩
    have HW7 : Hid _ := (HW6.out.alloc _).draw hc7 ht7
    clear hc7 ht7 HW6 hne6 hy7
    go_wp2
    exact bodyPost_ret (v := .tuple #[.slice (some ⟨g, 0, none⟩) m c1, .int .u32 (t % 4294967296), .int .i64 s2, .int .i64 k1]) (by simp [results, Try.results45, go_sem]) rfl (HEND.out (t % 4294967296) s2 k1 _ HW7.out ⟨Int.emod_nonneg _ (by decide), Int.emod_lt_of_pos _ (by decide)⟩)
  · have hne6 : w6.heap.size ≠ w.heap.size := by have := HW6.out.cur.lt; omega
    go_wp2_with fail
    refine Calls.mono (draw_pick _ w.heap.size w6.heap.size _ _ _ [0, 3, 8] (HW6.out.alloc _).cur (own_lit .i64 w6 3 [0, 3, 8]) hne6 (by decide) (by decide)) ?_
    rintro e w7 ⟨k2, rfl, hy7, hc7, ht7⟩
    have HW7 : Hid _ := (HW6.out.alloc _).draw hc7 ht7
    clear hc7 ht7 HW6 hne6 hy7
    go_wp2
    exact bodyPost_ret (v := .tuple #[.slice (some ⟨g, 0, none⟩) m c1, .int .u32 (t % 4294967296), .int .i64 s1, .int .i64 k2]) (by simp [results, Try.results45, go_sem]) rfl (HEND.out (t % 4294967296) s1 k2 _ HW7.out ⟨Int.emod_nonneg _ (by decide), Int.emod_lt_of_pos _ (by decide)⟩)
  · go_wp2
    exact bodyPost_ret (v := .tuple #[.slice (some ⟨g, 0, none⟩) m c1, .int .u32 (t % 4294967296), .int .i64 s1, .int .i64 k1]) (by simp [results, Try.results45, go_sem]) rfl (HEND.out (t % 4294967296) s1 k1 _ HW6.out ⟨Int.emod_nonneg _ (by decide), Int.emod_lt_of_pos _ (by decide)⟩)
end Go.Proofs.Ytfdjfjkbbfcodaa
