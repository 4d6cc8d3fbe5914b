
/-
  What the draw of 'n' windows returns. Conditions: the bytes drawn from are at most 1048576; 'n' is 1 to 4.
-/
import Derived.Test.YtfdjfjkbbfcodaaBas
import Derived.Test.YtfdjfjkbbfcodaaProg
import Derived.Test.YtfdjfjkbbfcodaaDwd
namespace Go.Proofs.Ytfdjfjkbbfcodaa
open Go.ChangeShapes Go.WideShapes Go.ChangeAt Go.RowKit Go.Deep
set_option linter.unusedVariables false
set_option maxRecDepth 20000

theorem pick8 {y : Int} (h : y ∈ [3, 5, 1, 7, 4, 2, 6, (3 : Int)]) : 1 ≤ y ∧ y ≤ 7 := by simp at h; omega
theorem pick4 {y : Int} (h : y ∈ [0, 0, 1, (9 : Int)]) : 0 ≤ y ∧ y ≤ 9 := by simp at h; omega
theorem WL.start {w : World} {B : Nat} {a : Option Addr} {zs : List Int} {cap : Nat} (hc : Cur w B a zs cap) : WL w (w.alloc (.cells #[] 60)) B a zs cap (.slice (some ⟨w.heap.size, 0, none⟩) 0 0) 0 := by
  have hal : Below w.heap.size w (w.alloc (.cells #[] 60)) := (Below.refl _ _).alloc (Nat.le_refl _) _
  exact ⟨hc.below hal, Turn.of_below hal, ⟨[], by simp, OwnA.new w _ rfl, by simp⟩, hc.lt, fun b off e h0 => seg_lt hc.seg b off e h0⟩
theorem wrap_s {x : Int} (h : -1000000 ≤ x ∧ x ≤ 1000000) : IntKind.i64.wrap x = x := by rw [IntKind.wrap_i64]; omega
theorem cell_al {W : World} {p : Addr} {v : Value} {o : Obj} (h : W.cell? p = some v) : (W.alloc o).cell? p = some v :=
  (((Below.refl _ W).alloc (Nat.le_refl _) o).cell (World.block_lt_of_cell? W _ h)).trans h
theorem WL.curd {w0 W : World} {B : Nat} {a : Option Addr} {zs : List Int} {cap : Nat} {v : Value} {n : Nat} (h : WL w0 W B a zs cap v n) (o : Obj) : Cur (W.drew.alloc o) B a zs cap := h.cur.below ((Below.refl _ _).drew.alloc (Nat.le_refl _) _)
theorem WL.dre {w0 W : World} {B : Nat} {a : Option Addr} {zs : List Int} {cap : Nat} {v : Value} {n : Nat} (h : WL w0 W B a zs cap v n) : WL w0 W.drew B a zs cap v n := h.below ((Below.refl _ _).drew)
set_option maxHeartbeats 8000000 in
theorem draw_wins (w : World) (B : Nat) (a : Option Addr) (zs : List Int) (cap n : Nat) (hc : Cur w B a zs cap) (hn1 : 1 ≤ n) (hn : n ≤ 4) :
    Calls Try.prog 101 #[.pointer (some ⟨B, 0, none⟩), .int .i64 (n : Int)] w fun e w' => ∃ v, e = .returned v ∧ WL w w' B a zs cap v n := by
  have HW0 : Hid _ := WL.start hc
  clear hc
  obtain ⟨iA, hi⟩ := infoA'
  have HIN : Hid _ := hi
  clear hi
  go_enter Try.func101, Try.ntmps101
  go_wp2_with fail
  refine Calls.mono (draw_below _ B _ _ _ _ HW0.out.cur (by omega) (by omega)) ?_
  rintro e w1 ⟨x, rfl, hx0, hx1, hc1, ht1⟩
  have HI : Hid _ := HW0.out.draw hc1 ht1
  clear hc1 ht1 HW0
  go_wp2
  go_loopw [5, 6, 7] (fun v at' i wr => ∃ (k : Nat) (t : Int), k ≤ n ∧ i = .int .i64 k ∧ at' = .int .i64 t ∧ 0 ≤ t ∧ t ≤ 1000 * (k + 1) ∧ Hid (WL w wr B a zs cap v k)) (fun _ _ i _ => n - (intOf i).toNat)
  case atStart => exact ⟨0, 4 * x, by omega, rfl, by go_num, by omega, by omega, HI.out⟩
  case round =>
    obtain ⟨k, t, hk, rfl, rfl, ht0, ht1, HR⟩ := hrel
    clear HI
    by_cases hkn : k < n
    rotate_left
    · obtain rfl : k = n := by omega
      clear hkn ht0 ht1 hx0 hx1 hk
      by_cases h1 : k = 1
      · subst h1
        go_wp2
        go_ret
        exact ⟨_, rfl, HR.out⟩
      have h1' : (1 : Int) < (k : Int) := by omega
      go_wp2_with fail
      refine Calls.mono (draw_once _ B _ _ _ _ HR.out.cur (by omega) (by omega)) ?_
      rintro e w2 ⟨q, rfl, hc2, htt2⟩
      have HW2 : Hid (WL w w2 B a zs cap u5 k) := HR.out.draw hc2 htt2
      clear hc2 htt2 HR
      cases q
      · go_wp2
        go_ret
        exact ⟨_, rfl, HW2.out⟩
      obtain ⟨g, c1, rfl, hg1, hg2, hg3⟩ := HW2.out.own.form
      have hfz := HW2.out.own.free
      obtain ⟨x0, hx0, e0⟩ := HW2.out.own.cell 0 (by omega)
      obtain ⟨x1, hx1, e1⟩ := HW2.out.own.cell 1 (by omega)
      obtain ⟨x2, hx2, e2⟩ := HW2.out.own.cell 2 (by omega)
      have hkk : k = 2 ∨ k = 3 ∨ k = 4 := by omega
      rcases hkk with rfl | rfl | rfl
      · obtain ⟨y0, hy0, f0⟩ := HW2.out.own.cell 3 (by omega)
        obtain ⟨y1, hy1, f1⟩ := HW2.out.own.cell 4 (by omega)
        obtain ⟨y2, hy2, f2⟩ := HW2.out.own.cell 5 (by omega)
        go_wp2
        go_region
        all_goals
          go_wp2
          go_ret
          exact ⟨_, rfl, ((((((((HW2.out.put 0 y0 hy0).put 1 y1 hy1).put 2 y2 hy2).put 3 x0 hx0).put 4 x1 hx1).put 5 x2 hx2).alloc _).alloc _).dre⟩
      · obtain ⟨y0, hy0, f0⟩ := HW2.out.own.cell 6 (by omega)
        obtain ⟨y1, hy1, f1⟩ := HW2.out.own.cell 7 (by omega)
        obtain ⟨y2, hy2, f2⟩ := HW2.out.own.cell 8 (by omega)
        go_wp2
        go_region
        all_goals
          go_wp2
          go_ret
          exact ⟨_, rfl, ((((((((HW2.out.put 0 y0 hy0).put 1 y1 hy1).put 2 y2 hy2).put 6 x0 hx0).put 7 x1 hx1).put 8 x2 hx2).alloc _).alloc _).dre⟩
      · obtain ⟨y0, hy0, f0⟩ := HW2.out.own.cell 9 (by omega)
        obtain ⟨y1, hy1, f1⟩ := HW2.out.own.cell 10 (by omega)
        obtain ⟨y2, hy2, f2⟩ := HW2.out.own.cell 11 (by omega)
        go_wp2
        go_region
        all_goals
          go_wp2
          go_ret
          exact ⟨_, rfl, ((((((((HW2.out.put 0 y0 hy0).put 1 y1 hy1).put 2 y2 hy2).put 9 x0 hx0).put 10 x1 hx1).put 11 x2 hx2).alloc _).alloc _).dre⟩
    have hkn' : (k : Int) < (n : Int) := by omega
    go_wp2_with fail
    refine Calls.mono (draw_below _ B _ _ _ _ HR.out.cur (by omega) (by omega)) ?_
    rintro e w2 ⟨z, rfl, hz0, hz1, hc2, htt2⟩
    have HW2 : Hid (WL w w2 B a zs cap u5 k) := HR.out.draw hc2 htt2
    clear hc2 htt2 HR
    have hne2 : w2.heap.size ≠ B := by have := HW2.out.cur.lt; omega
    go_wp2_with fail
    refine Calls.mono (draw_pick _ B w2.heap.size _ _ _ [3, 5, 1, 7, 4, 2, 6, 3] (HW2.out.alloc _).cur (own_lit .i64 w2 3 [3, 5, 1, 7, 4, 2, 6, 3]) hne2 (by decide) (by decide)) ?_
    rintro e w3 ⟨y, rfl, hy, hc3, htt3⟩
    obtain ⟨hy0, hy1⟩ := pick8 hy
    have HW3 : Hid (WL w w3 B a zs cap u5 k) := (HW2.out.alloc _).draw hc3 htt3
    clear hc3 htt3 hy HW2 hne2
    have HWB : Hid (WL w ((w3.alloc (.cells #[.int .i64 t, .int .i64 (4 * (1 + z)), .int .i64 y] 60)).alloc (.cells #[.int .i64 t, .int .i64 (4 * (1 + z)), .int .i64 y] 60)) B a zs cap u5 k) := (HW3.out.alloc _).alloc _
    obtain ⟨ys, hys, hown7, hnv⟩ := HWB.out.own
    have hob : some w3.heap.size ≠ u5.ownBlock := fun e => by
      obtain ⟨g, c1, e2, h1, h2, h3⟩ := HW3.out.own.form
      rw [e2] at e
      simp [Value.ownBlock] at e
      omega
    have hszw : w.heap.size ≤ w3.heap.size := HW3.out.turn.size
    have HBS : Hid (w.heap.size ≤ ((w3.alloc (.cells #[.int .i64 t, .int .i64 (4 * (1 + z)), .int .i64 y] 60)).alloc (.cells #[.int .i64 t, .int .i64 (4 * (1 + z)), .int .i64 y] 60)).heap.size) := by show _ ≤ _; simp; omega
    have HZ : Hid (∀ (gg cap1 : Nat) (w9 : World), w9.ownsRow w.heap.size 60 3 (.slice (some ⟨gg, 0, none⟩) (k + 1) cap1) (k + 1) (ys.map (Value.int .i64) ++ [.int .i64 t, .int .i64 (4 * (1 + z)), .int .i64 y]) → ((w3.alloc (.cells #[.int .i64 t, .int .i64 (4 * (1 + z)), .int .i64 y] 60)).alloc (.cells #[.int .i64 t, .int .i64 (4 * (1 + z)), .int .i64 y] 60)).grownBy w9 u5.ownBlock → WL w w9 B a zs cap (.slice (some ⟨gg, 0, none⟩) (k + 1) cap1) (k + 1) ∧ w9.cell? ⟨w3.heap.size, 1, none⟩ = some (.int .i64 (4 * (1 + z)))) := fun gg cap1 w9 h1 h2 => by
      refine ⟨HWB.out.push hys hown7 ⟨⟨by omega, by omega⟩, ⟨by omega, by omega⟩, ⟨by omega, by omega⟩⟩ h1 h2, ?_⟩
      have hbl := h2.block w3.heap.size (by simp; omega) hob
      rw [World.cell?_of_block (a := ⟨w3.heap.size, 1, none⟩) hbl]
      exact ((Bk.new w3 #[.int .i64 t, .int .i64 (4 * (1 + z)), .int .i64 y] 60 w3.heap.size rfl).alloc _).cell 1 _ rfl
    clear HW3 HWB hys hob hnv
    go_wp2_with (at_builtin; (refine wpList_append_lies _ rfl (.tmp 29) (.tmp 31) 25 rfl w.heap.size 60 iA (.agg #[.int .i64 0, .int .i64 0, .int .i64 0]) 3 24 Try.underlying25 HIN.out.1 HIN.out.2.1 HIN.out.2.2.1 HIN.out.2.2.2 rfl (by omega) _ _ _ rfl hown7 _ 1 1 [.int .i64 t, .int .i64 (4 * (1 + z)), .int .i64 y] rfl rfl (news_acc _ (t, 4 * (1 + z), y) _ (by simp)) (one_acc (t, 4 * (1 + z), y)) (by omega) (by unfold maxLen; omega) (by omega) HBS.out _ rfl ?_; intro gg cap1 w9 hown1 hgrow hat hlt1; have HYY : Hid _ := HZ.out gg cap1 w9 hown1 hgrow; clear hown1 hgrow hat hlt1))
    have b1 := HYY.out.2
    clear HZ HBS hown7
    have hb9 : w3.heap.size < w9.heap.size := World.block_lt_of_cell? w9 _ b1
    have hne9 : w9.heap.size ≠ B := by have := HYY.out.1.cur.lt; omega
    have hne3 : w3.heap.size ≠ B := by have := HYY.out.1.lo; omega
    have hw1 : IntKind.i64.wrap (t + 4 * (1 + z)) = t + 4 * (1 + z) := wrap_s (by omega)
    go_region_held3 (fun w' => w'.cell? ⟨w3.heap.size, 1, none⟩ = some (.int .i64 (4 * (1 + z)))) (first | exact b1 | exact cell_al b1)
      (first | (go_at_call 84; refine Calls.mono (draw_pick _ B _ _ _ _ [0, 0, 1, 9] (HYY.out.1.curd _) ((own_lit .i64 w9 3 [0, 0, 1, 9]).below ((Below.refl _ _).drew)) hne9 (by decide) (by decide)) ?_; rintro u w10 ⟨y2, rfl, hy2, hc10, ht10⟩; replace b1 := (ht10.cell (b := w3.heap.size) (o := 1) (by simp; omega) hne3).trans (cell_al b1); obtain ⟨hy20, hy21⟩ := pick4 hy2; have hw2 : IntKind.i64.wrap (4 * y2) = 4 * y2 := wrap_s (by clear hw1; omega); have hw3 : IntKind.i64.wrap (t + 4 * (1 + z) + 4 * y2) = t + 4 * (1 + z) + 4 * y2 := wrap_s (by clear hw1 hw2; omega); have HW10 : Hid (WL w w10 B a zs cap (.slice (some ⟨gg, 0, none⟩) (k + 1) cap1) (k + 1)) := (HYY.out.1.dre.alloc _).draw hc10 ht10; clear hy2 hc10 ht10))
    clear HYY b1 hb9 hne9 hne3 hszw hw1 hw2 hw3
    go_wp2
    go_roundw
    case rel => exact ⟨k + 1, _, by omega, by go_num, rfl, by omega, by omega, HW10⟩
    case measure => simp [intOf]; omega
end Go.Proofs.Ytfdjfjkbbfcodaa
