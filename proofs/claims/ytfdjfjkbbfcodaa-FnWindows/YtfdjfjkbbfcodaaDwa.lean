
/-
  What the draw of any list of windows returns. Conditions: the bytes drawn from are at most 1048576.
-/
import Derived.Test.YtfdjfjkbbfcodaaBas
import Derived.Test.YtfdjfjkbbfcodaaProg
import Derived.Test.YtfdjfjkbbfcodaaDwn
namespace Go.Proofs.Ytfdjfjkbbfcodaa
open Go.ChangeShapes Go.WideShapes Go.ChangeAt Go.RowKit Go.Deep
set_option linter.unusedVariables false
set_option maxRecDepth 20000

theorem ownsRow_low {w : World} {base b' : Nat} {e : TypeId} {size : Nat} {v : Value} {n : Nat} {xs : List Value} (h : w.ownsRow base e size v n xs) (hle : b' ≤ base) : w.ownsRow b' e size v n xs := by
  refine ⟨h.1, ?_⟩
  rcases h.2 with hn | ⟨g, cap, cur, e, hb, rest⟩
  · exact .inl hn
  · exact .inr ⟨g, cap, cur, e, by omega, rest⟩
theorem WL.lower {w W0 W : World} {B : Nat} {a : Option Addr} {zs : List Int} {cap : Nat} {v : Value} {n : Nat} (h : WL W0 W B a zs cap v n) (hc : Cur w B a zs cap) (ht : Turn B w W0) : WL w W B a zs cap v n := by
  obtain ⟨ys, h1, h2, h3⟩ := h.own
  exact ⟨h.cur, ht.trans h.turn, ⟨ys, h1, ownsRow_low h2 ht.size, h3⟩, hc.lt, fun b off e h0 => seg_lt hc.seg b off e h0⟩
theorem WL.pushL {w0 W W' : World} {B : Nat} {a : Option Addr} {zs : List Int} {cap : Nat} {v : Value} {n m gg c1 : Nat} {ys xs : List Int} (h : WL w0 W B a zs cap v n) (hys : ∀ z ∈ ys, Sm z) (ho : W.ownsRow w0.heap.size 60 3 v n (ys.map (Value.int .i64))) (hx : ∀ z ∈ xs, Sm z)
    (h1 : W'.ownsRow w0.heap.size 60 3 (.slice (some ⟨gg, 0, none⟩) (n + m) c1) (n + m) (ys.map (Value.int .i64) ++ xs.map (Value.int .i64))) (hg : W.grownBy W' v.ownBlock) : WL w0 W' B a zs cap (.slice (some ⟨gg, 0, none⟩) (n + m) c1) (n + m) := by
  have hb : Below w0.heap.size W W' := Below.grown (Below.refl _ _) hg h.turn.size (fun k e => by
    rcases ho.2 with ⟨rfl, _⟩ | ⟨g, cap, cur, rfl, hbs, _⟩
    · simp [Value.ownBlock] at e
    · simp [Value.ownBlock] at e; omega)
  refine ⟨h.cur.belowC hb h.lo h.seg, h.turn.then_below hb, ⟨ys ++ xs, fun z hz => ?_, by simpa using h1, fun e => by cases e⟩, h.lo, h.seg⟩
  rcases List.mem_append.1 hz with g | g
  · exact hys z g
  · exact hx z g
theorem WL.empty {w0 W : World} {B : Nat} {a : Option Addr} {zs : List Int} {cap : Nat} {v : Value} {n : Nat} (h : WL w0 W B a zs cap v n) : WL w0 (W.alloc (.cells #[] 60)) B a zs cap (.slice (some ⟨W.heap.size, 0, none⟩) 0 0) 0 := by
  have hal : Below W.heap.size W (W.alloc (.cells #[] 60)) := (Below.refl _ _).alloc (Nat.le_refl _) _
  exact ⟨h.cur.below hal, h.turn.trans (Turn.of_below hal), ⟨[], by simp, ownsRow_low (OwnA.new W _ rfl) h.turn.size, by simp⟩, h.lo, h.seg⟩
theorem small_of {y : Int} {l : List Int} (h : y ∈ l) (hl : ∀ z ∈ l, Sm z) : Sm y := hl y h
set_option maxHeartbeats 8000000 in
theorem draw_any (w : World) (B : Nat) (a : Option Addr) (zs : List Int) (cap : Nat) (hc : Cur w B a zs cap) :
    Calls Try.prog 82 #[.pointer (some ⟨B, 0, none⟩)] w fun e w' => ∃ v m, e = .returned v ∧ WL w w' B a zs cap v m ∧ m ≤ 8 := by
  have HC : Hid _ := hc
  clear hc
  obtain ⟨iA, hi⟩ := infoA'
  have HIN : Hid _ := hi
  clear hi
  go_enter Try.func82, Try.ntmps82
  go_wp2_with fail
  refine Calls.mono (draw_below _ B _ _ _ _ HC.out (by omega) (by omega)) ?_
  rintro e w1 ⟨x, rfl, hx0, hx1, hc1, ht1⟩
  obtain ⟨j, rfl⟩ := Int.eq_ofNat_of_zero_le hx0
  have HD1 : Hid _ := And.intro hc1 ht1
  have hj : j < 4 := by omega
  obtain ⟨n, HN⟩ : ∃ n, Hid (n = 1 + j) := ⟨_, rfl⟩
  have hn1 : 1 ≤ n := by rw [HN.out]; omega
  have hn4 : n ≤ 4 := by rw [HN.out]; omega
  have hnw : (1 : Int) + (j : Int) = (n : Int) := by rw [HN.out]; omega
  clear hc1 ht1 hx0 hx1 HN
  go_wp2_with fail
  refine Calls.mono (draw_wins w1 B a zs cap n HD1.out.1 hn1 hn4) ?_
  rintro e w2 ⟨v, rfl, hw2⟩
  have HW2 : Hid (WL w w2 B a zs cap v n) := hw2.lower HC.out HD1.out.2
  clear hw2 HD1 hnw hj
  go_wp2_with fail
  refine Calls.mono (draw_below _ B _ _ _ _ HW2.out.cur (by omega) (by omega)) ?_
  rintro e w3 ⟨d, rfl, hd0, hd1, hc3, ht3⟩
  have HW3 : Hid (WL w w3 B a zs cap v n) := HW2.out.draw hc3 ht3
  clear hc3 ht3 HW2
  obtain ⟨g, c1, rfl, hg1, hg2, hg3⟩ := HW3.out.own.form
  have hne3 : w3.heap.size ≠ B := by have := HW3.out.cur.lt; omega
  have hn1' : (0 : Int) < (n : Int) := by omega
  have hcase : d = 0 ∨ d = 1 ∨ d = 2 ∨ d = 3 ∨ d = 4 ∨ d = 5 ∨ ((d == 0) = false ∧ (d == 1) = false ∧ (d == 2) = false ∧ (d == 3) = false ∧ (d == 4) = false ∧ (d == 5) = false) := by
    by_cases h : d = 0 ∨ d = 1 ∨ d = 2 ∨ d = 3 ∨ d = 4 ∨ d = 5
    · omega
    · simp only [not_or] at h
      simp [h]
  clear hd0 hd1
  rcases hcase with rfl | rfl | rfl | rfl | rfl | rfl | ⟨d0, d1, d2, d3, d4, d5⟩
  · go_wp2_with fail
    refine Calls.mono (draw_pick _ B w3.heap.size _ _ _ [-4, 2, 2048, 2044] (HW3.out.alloc _).cur (own_lit .i64 w3 3 [-4, 2, 2048, 2044]) hne3 (by decide) (by decide)) ?_
    rintro e w4 ⟨y, rfl, hy, hc4, ht4⟩
    have hy' : Sm y := small_of hy (by unfold Sm; decide)
    have HW4 : Hid (WL w w4 B a zs cap _ n) := (HW3.out.alloc _).draw hc4 ht4
    clear hc4 ht4 hy HW3
    obtain ⟨x0, hx0, e0⟩ := HW4.out.own.cell 0 (by omega)
    have hfz := HW4.out.own.free
    go_wp2
    go_ret
    exact ⟨_, n, rfl, HW4.out.put 0 y hy', by omega⟩
  · go_wp2_with fail
    refine Calls.mono (draw_pick _ B w3.heap.size _ _ _ [0, -4, 6, 2048, 2052] (HW3.out.alloc _).cur (own_lit .i64 w3 3 [0, -4, 6, 2048, 2052]) hne3 (by decide) (by decide)) ?_
    rintro e w4 ⟨y, rfl, hy, hc4, ht4⟩
    have hy' : Sm y := small_of hy (by unfold Sm; decide)
    have HW4 : Hid (WL w w4 B a zs cap _ n) := (HW3.out.alloc _).draw hc4 ht4
    clear hc4 ht4 hy HW3
    obtain ⟨x0, hx0, e0⟩ := HW4.out.own.cell 1 (by omega)
    have hfz := HW4.out.own.free
    go_wp2
    go_ret
    exact ⟨_, n, rfl, HW4.out.put 1 y hy', by omega⟩
  · go_wp2_with fail
    refine Calls.mono (draw_pick _ B w3.heap.size _ _ _ [0, 8, -1] (HW3.out.alloc _).cur (own_lit .i64 w3 3 [0, 8, -1]) hne3 (by decide) (by decide)) ?_
    rintro e w4 ⟨y, rfl, hy, hc4, ht4⟩
    have hy' : Sm y := small_of hy (by unfold Sm; decide)
    have HW4 : Hid (WL w w4 B a zs cap _ n) := (HW3.out.alloc _).draw hc4 ht4
    clear hc4 ht4 hy HW3
    obtain ⟨x0, hx0, e0⟩ := HW4.out.own.cell 2 (by omega)
    have hfz := HW4.out.own.free
    go_wp2
    go_ret
    exact ⟨_, n, rfl, HW4.out.put 2 y hy', by omega⟩
  · obtain ⟨x0, hx0, e0⟩ := HW3.out.own.cell 0 (by omega)
    obtain ⟨x1, hx1, e1⟩ := HW3.out.own.cell 1 (by omega)
    obtain ⟨x2, hx2, e2⟩ := HW3.out.own.cell 2 (by omega)
    have HWB : Hid (WL w (w3.alloc (.cells #[.int .i64 x0, .int .i64 x1, .int .i64 x2] 60)) B a zs cap _ n) := HW3.out.alloc _
    obtain ⟨ys, hys, hown7, hnv⟩ := HWB.out.own
    have HBS : Hid (w.heap.size ≤ (w3.alloc (.cells #[.int .i64 x0, .int .i64 x1, .int .i64 x2] 60)).heap.size) := HWB.out.turn.size
    have HZ : Hid (∀ (gg cap1 : Nat) (w9 : World), w9.ownsRow w.heap.size 60 3 (.slice (some ⟨gg, 0, none⟩) (n + 1) cap1) (n + 1) (ys.map (Value.int .i64) ++ [.int .i64 x0, .int .i64 x1, .int .i64 x2]) → (w3.alloc (.cells #[.int .i64 x0, .int .i64 x1, .int .i64 x2] 60)).grownBy w9 (Value.slice (some ⟨g, 0, none⟩) n c1).ownBlock → WL w w9 B a zs cap (.slice (some ⟨gg, 0, none⟩) (n + 1) cap1) (n + 1)) := fun gg cap1 w9 h1 h2 =>
      HWB.out.push hys hown7 ⟨hx0, hx1, hx2⟩ h1 h2
    clear HWB hys hnv HW3
    go_wp2_with (at_builtin; (refine wpList_append_lies _ rfl (.tmp 37) (.tmp 41) 25 rfl w.heap.size 60 iA (.agg #[.int .i64 0, .int .i64 0, .int .i64 0]) 3 24 Try.underlying25 HIN.out.1 HIN.out.2.1 HIN.out.2.2.1 HIN.out.2.2.2 rfl (by omega) _ _ _ rfl hown7 _ 1 1 [.int .i64 x0, .int .i64 x1, .int .i64 x2] rfl rfl (news_acc _ (x0, x1, x2) _ (by simp)) (one_acc (x0, x1, x2)) (by omega) (by unfold maxLen; omega) (by omega) HBS.out _ rfl ?_; intro gg cap1 w9 hown1 hgrow hat hlt1; have HYY : Hid _ := HZ.out gg cap1 w9 hown1 hgrow; clear hown1 hgrow hat hlt1))
    go_ret
    exact ⟨_, n + 1, rfl, HYY.out, by omega⟩
  · go_wp2_with fail
    refine Calls.mono (draw_wins w3 B a zs cap 4 HW3.out.cur (by omega) (by omega)) ?_
    rintro e w4 ⟨v2, rfl, hw4⟩
    have HWB : Hid (WL w w4 B a zs cap _ n) := HW3.out.draw hw4.cur hw4.turn
    obtain ⟨g2, c2, rfl, hh1, hh2, hh3⟩ := hw4.own.form
    obtain ⟨xs2, hxs2, hown2, hnv2⟩ := hw4.own
    obtain ⟨ys, hys, hown7, hnv⟩ := HWB.out.own
    have HBS : Hid (w.heap.size ≤ w4.heap.size) := HWB.out.turn.size
    have hl2 : (xs2.map (Value.int .i64)).length = 4 * 3 := hown2.1
    have hnews : ∀ j u, (xs2.map (Value.int .i64))[j]? = some u → w4.cell? ((⟨g2, 0, none⟩ : Addr).add j) = some u := fun j u hju => by
      have hj : j < 4 * 3 := by
        rcases Nat.lt_or_ge j (4 * 3) with h | h
        · exact h
        · rw [List.getElem?_eq_none (by omega)] at hju; cases hju
      rw [add_plain, Nat.zero_add, World.ownsRow.cellAt hown2 j hj]
      exact hju
    have hone : ∀ u ∈ xs2.map (Value.int .i64), u.oneCell' = true := fun u hu => by
      obtain ⟨z, _, rfl⟩ := List.mem_map.1 hu
      rfl
    have HZ : Hid (∀ (gg cap1 : Nat) (w9 : World), w9.ownsRow w.heap.size 60 3 (.slice (some ⟨gg, 0, none⟩) (n + 4) cap1) (n + 4) (ys.map (Value.int .i64) ++ xs2.map (Value.int .i64)) → w4.grownBy w9 (Value.slice (some ⟨g, 0, none⟩) n c1).ownBlock → WL w w9 B a zs cap (.slice (some ⟨gg, 0, none⟩) (n + 4) cap1) (n + 4)) := fun gg cap1 w9 h1 h2 =>
      HWB.out.pushL hys hown7 hxs2 h1 h2
    have HNW : Hid _ := And.intro hnews (And.intro hone hl2)
    clear HWB hys hnv HW3 hw4 hown2 hxs2 hnv2 hnews hone hl2
    generalize xs2.map (Value.int .i64) = news at HNW HZ
    go_wp2_with (at_builtin; (refine wpList_append_lies _ rfl (.tmp 45) (.tmp 47) 25 rfl w.heap.size 60 iA (.agg #[.int .i64 0, .int .i64 0, .int .i64 0]) 3 24 Try.underlying25 HIN.out.1 HIN.out.2.1 HIN.out.2.2.1 HIN.out.2.2.2 rfl (by omega) _ _ _ rfl hown7 _ 4 c2 news rfl HNW.out.2.2 HNW.out.1 HNW.out.2.1 (by omega) (by unfold maxLen; omega) (by omega) HBS.out _ rfl ?_; intro gg cap1 w9 hown1 hgrow hat hlt1; have HYY : Hid _ := HZ.out gg cap1 w9 hown1 hgrow; clear hown1 hgrow hat hlt1))
    go_ret
    exact ⟨_, n + 4, rfl, HYY.out, by omega⟩
  · go_wp2
    go_ret
    exact ⟨_, 0, rfl, HW3.out.empty, by omega⟩
  · go_wp2
    go_ret
    exact ⟨_, n, rfl, HW3.out, by omega⟩
end Go.Proofs.Ytfdjfjkbbfcodaa
