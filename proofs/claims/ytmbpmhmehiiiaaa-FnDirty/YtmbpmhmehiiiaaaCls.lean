
/-
  The lines of a cache: what the program's own function hands back; both sides alike. Conditions: the rows and their ways are at most 1048576 together.
-/
import Derived.Test.YtmbpmhmehiiiaaaRows
import Derived.Test.YtmbpmhmehiiiaaaCli
import Derived.Test.YtmbpmhmehiiiaaaCki
import Derived.Test.YtmbpmhmehiiiaaaIln
import Derived.Test.YtmbpmhmehiiiaaaShelf
import Derived.Sort.OwnSortedInts
namespace Go.Proofs.Ytmbpmhmehiiiaaa
open Go.ChangeShapes Go.WideShapes Go.ChangeAt Go.RowKit Go.Deep Go.Sort
set_option linter.unusedVariables false

theorem sort_any (blk cap : Nat) (zs : List Int) (w : World) (hH : Holds (Value.int .i64) w blk 0 zs.toArray) (hlt : blk < w.heap.size) (hsz : zs.length ≤ 1048576) :
    Calls Try.prog 35 #[.slice (some ⟨blk, 0, none⟩) zs.length cap] w fun e w' => e = .returned (.tuple #[]) ∧ Holds (Value.int .i64) w' blk 0 (sortL zs).toArray ∧ Below blk w w' := by
  refine (Try.slices_Sort_int blk 0 cap zs w hH hlt (by omega)).mono ?_
  rintro e w' ⟨rfl, n, os, rfl⟩
  refine ⟨rfl, ?_, ?_⟩
  · exact holds_grow _ _ os blk 0 _ (by simpa [putRow, mapBlock, Sort.ahead] using hlt) (holds_putRow _ _ blk 0 _ _ (holds_ahead _ w n blk 0 _ hH) (by simp))
  · exact (Below.refl blk w).grown (grownBy_sortedI _) (by omega) (fun j hj => by cases hj; exact Nat.le_refl _)
/-- A list is handed back, in memory of the call's own. -/
def LPost (X : World) (zs : List Int) (e : Ending) (w' : World) : Prop :=
  ∃ a cap, e = .returned (.slice a zs.length cap) ∧ Below X.heap.size X w' ∧ OI w' X.heap.size w'.heap.size a zs
theorem OwnL.oi {w : World} {base : Nat} {v : Value} {zs : List Int} (h : OwnL w base v zs) : ∃ a cap, v = .slice a zs.length cap ∧ OI w base w.heap.size a zs := by
  rcases h.2 with ⟨h0, h1⟩ | ⟨g, cap, cur, rfl, hb, hg, h1, h2, h3, h4⟩
  · exact ⟨none, 0, by rw [h0, h1], fun h => absurd h (by omega)⟩
  · have hlt : g < w.heap.size := by
      rcases Nat.lt_or_ge g w.heap.size with hlt | hge
      · exact hlt
      · rw [Array.getElem?_eq_none hge] at hg; cases hg
    refine ⟨_, _, rfl, fun h0 => ⟨g, 0, rfl, hb, hlt, hlt, fun i hi => ?_, fun i hi => by simp [World.frozen?, hg]⟩⟩
    rw [Nat.zero_add]
    have e : cur[i]? = some (.int .i64 (zs.getD i 0)) := by
      have := congrArg (·[i]?) h4
      simp only [Nat.mul_one] at this
      rw [List.getElem?_take, if_pos hi] at this
      simpa [hi, List.getD] using this
    simp [World.cell?, hg, e]
theorem OwnL.holds {w : World} {base g cap : Nat} {zs : List Int} (h : OwnL w base (.slice (some ⟨g, 0, none⟩) zs.length cap) zs) : Holds (Value.int .i64) w g 0 zs.toArray ∧ g < w.heap.size ∧ base ≤ g := by
  rcases h.2 with ⟨h0, h1⟩ | ⟨g', cap', cur, e, hb, hg, h1, h2, h3, h4⟩
  · cases h0
  · injection e with e1 e2 e3
    injection e1 with e1
    injection e1 with e1
    subst e1
    have hlt : g < w.heap.size := by
      rcases Nat.lt_or_ge g w.heap.size with hlt | hge
      · exact hlt
      · rw [Array.getElem?_eq_none hge] at hg; cases hg
    refine ⟨fun i hi => ?_, hlt, hb⟩
    have hi' : i < zs.length := by simpa using hi
    have e : cur[i]? = some (.int .i64 (zs.getD i 0)) := by
      have := congrArg (·[i]?) h4
      simp only [Nat.mul_one] at this
      rw [List.getElem?_take, if_pos hi'] at this
      simpa [hi', List.getD] using this
    rw [Nat.zero_add]
    refine ⟨?_, by simp [World.frozen?, hg]⟩
    simp [World.cell?, hg, e, List.getD, hi']
theorem oi_of_holds {w : World} {g lo hi : Nat} {zs : List Int} (h : Holds (Value.int .i64) w g 0 zs.toArray) (h1 : lo ≤ g) (h2 : g < hi) (h3 : g < w.heap.size) : OI w lo hi (some ⟨g, 0, none⟩) zs := fun h0 => by
  refine ⟨g, 0, rfl, h1, h2, h3, fun i hi => ?_, fun i hi => (h i (by simpa using hi)).2⟩
  rw [(h i (by simpa using hi)).1]
  simp [List.getD, hi]
set_option maxHeartbeats 1000000 in
theorem impl_li_no (s y l : Int) (a : Option Addr) (cap n : Nat) (D : Nat → List Wy) (w : World) (hs : RSeg w a n D) (hn : n ≤ 1048576) (ht : tot D n ≤ 1048576) (hq : ¬ CacheOkP s y l n D) :
    Calls Try.prog 13 #[cch s y l (.slice a n cap)] w (LPost w []) := by
  have hal1 : Below w.heap.size w (w.alloc (.cells #[.int .i64 s, .int .i64 y, .int .i64 l, .slice a n cap] 34)) := (Below.refl _ _).alloc (Nat.le_refl _) _
  have hal := hal1.alloc hal1.size (.cells #[] 3)
  have HC : Hid _ := impl_cachek s y l a cap n D _ (RSeg.below hs hal) hn ht false (by simp [hq])
  have HB0 : Hid _ := hal
  clear hs hal hal1 hq
  go_enter Try.func13, Try.ntmps13
  go_wp2_with fail
  refine Calls.mono HC.out ?_
  rintro u w1 ⟨rfl, hb1⟩
  have HZ : Hid _ := HB0.out.trans (hb1.mono HB0.out.size)
  clear hb1
  go_wp2
  go_ret
  exact ⟨_, _, rfl, HZ.out, fun h => absurd h (by simp)⟩
set_option maxHeartbeats 4000000 in
theorem impl_li (n : Nat) (y l : Int) (a : Option Addr) (cap : Nat) (D : Nat → List Wy) (w : World) (hs : RSeg w a n D) (hn : n ≤ 1048576) (ht : tot D n ≤ 1048576) (hq : CacheOkP (n : Int) y l n D) :
    Calls Try.prog 13 #[cch (n : Int) y l (.slice a n cap)] w (LPost w (sortL (allL n D n))) := by
  have hal1 : Below w.heap.size w (w.alloc (.cells #[.int .i64 n, .int .i64 y, .int .i64 l, .slice a n cap] 34)) := (Below.refl _ _).alloc (Nat.le_refl _) _
  have hal := hal1.alloc hal1.size (.cells #[] 3)
  have HC : Hid _ := impl_cachek (n : Int) y l a cap n D _ (RSeg.below hs hal) hn ht true (by simp [hq])
  have HB0 : Hid _ := hal
  have HO : Hid (OwnL _ _ _ _) := OwnL.new (w.alloc (.cells #[.int .i64 n, .int .i64 y, .int .i64 l, .slice a n cap] 34)) (w.heap.size + 1) (by simp)
  have hn16 : n ≤ 16 := by have := (shapeOk_parts hq.1).1; omega
  have hn1 : 1 ≤ n := by have := (shapeOk_parts hq.1).1; omega
  have HOK : Hid (CacheOkP (n : Int) y l n D) := hq
  have HT : Hid _ := ht
  have HS : Hid _ := hs
  obtain ⟨i3, hi1, hi2, hi3, hi4⟩ := info3'
  have HI : Hid _ := And.intro hi1 (And.intro hi2 (And.intro hi3 hi4))
  clear hs hal hal1 hq ht hi1 hi2 hi3 hi4
  go_enter Try.func13, Try.ntmps13
  go_wp2_with fail
  refine Calls.mono HC.out ?_
  rintro u w1 ⟨rfl, hb1⟩
  have hbw := HB0.out.trans (hb1.mono HB0.out.size)
  have B0 := ((Bk.new w #[.int .i64 n, .int .i64 y, .int .i64 l, .slice a n cap] 34 w.heap.size rfl).alloc (.cells #[] 3)).below hb1
  have hz1 : w.heap.size + 1 < w1.heap.size := by have := hb1.size; simp at this; omega
  have k3 := B0.cell 3 _ rfl
  have HS1 : Hid (Below w.heap.size w w1 ∧ Bk w1 w.heap.size #[.int .i64 n, .int .i64 y, .int .i64 l, .slice a n cap] ∧ OwnL w1 (w.heap.size + 1) (.slice (some ⟨w.heap.size + 1, 0, none⟩) 0 0) []) := ⟨hbw, B0, OwnL.below HO.out hb1⟩
  clear hb1 hbw HC HB0 B0 HO
  go_wp2
  clear k3
  go_loopw [3, 16] (fun v i wr => ∃ (r k g cp : Nat), r ≤ n ∧ i = .int .i64 r ∧ v = .slice (some ⟨g, 0, none⟩) k cp ∧ w1.heap.size ≤ wr.heap.size ∧ Hid ((allL n D r).length = k ∧ Below w.heap.size w wr ∧ Bk wr w.heap.size #[.int .i64 n, .int .i64 y, .int .i64 l, .slice a n cap] ∧ OwnL wr (w.heap.size + 1) (.slice (some ⟨g, 0, none⟩) k cp) (allL n D r))) (fun _ i _ => n - (intOf i).toNat)
  case atStart => exact ⟨0, 0, _, _, by omega, rfl, rfl, Nat.le_refl _, rfl, HS1.out.1, HS1.out.2.1, HS1.out.2.2⟩
  case round =>
    obtain ⟨r, k, g, cp, hr, rfl, rfl, hsz, HR⟩ := hrel
    by_cases hlt : r < n
    rotate_left
    · obtain rfl : r = n := by omega
      obtain ⟨hkl, hbw, B0, hown⟩ := HR.out
      have hN : (allL r D r).length ≤ 1048576 := by rw [allL_len]; exact HT.out
      obtain ⟨all, HALL⟩ : ∃ all, Hid (allL r D r = all) := ⟨_, rfl⟩
      rw [HALL.out] at hkl hown hN
      rw [← hkl] at hown
      obtain ⟨hh, hg1, hg2⟩ := OwnL.holds hown
      have HC : Hid _ := sort_any g cp all wr hh hg1 hN
      have HKL : Hid _ := hkl
      have HBW : Hid _ := hbw
      clear hkl hbw B0 hown hh HR
      rw [HKL.out] at HC
      go_wp2_with fail
      refine Calls.mono HC.out ?_
      rintro u w2 ⟨rfl, hh2, hb2⟩
      have HZ : Hid (Below w.heap.size w w2 ∧ OI w2 w.heap.size w2.heap.size (some ⟨g, 0, none⟩) (sortL all)) := ⟨HBW.out.trans (hb2.mono (by omega)), oi_of_holds hh2 (by omega) (Nat.lt_of_lt_of_le hg1 hb2.size) (Nat.lt_of_lt_of_le hg1 hb2.size)⟩
      clear hh2 hb2 HC
      go_wp2
      go_ret
      refine ⟨some ⟨g, 0, none⟩, cp, ?_, HZ.out.1, ?_⟩
      · rw [sortL_len, HALL.out, HKL.out]
        rfl
      · rw [HALL.out]
        exact HZ.out.2
    have hlt' : (r : Int) < (n : Int) := by omega
    obtain ⟨b1, o1, a1, c1, rfl, hbl1, e1, s1⟩ := RSeg.at (w := w) HS.out r hlt
    replace e1 := kept_cell HR.out.2.1 e1
    have hlen : (D r).length ≤ 1048576 := Nat.le_trans (tot_row D hlt) HT.out
    have HX : Hid _ := s1
    have hal : (allL n D r).length + (D r).length ≤ 1048576 := by rw [allL_len]; have := tot_mono D (show r + 1 ≤ n by omega); simp only [tot] at this; have := HT.out; omega
    have HNX : Hid (allL n D (r + 1) = allL n D r ++ rowL n (D r) r (D r).length) := rfl
    have HG : Hid (∀ i, i < (D r).length → 0 ≤ tg (D r) i ∧ tg (D r) i ≤ 65535) := fun i hi => ((HOK.out.2.2 r hlt).2 i hi).1
    generalize D r = ws at HX e1 hlen HNX hal HG
    generalize allL n D r = zs at HNX hal HR
    clear s1 hbl1
    obtain ⟨len, Hlen⟩ : ∃ len, Hid (ws.length = len) := ⟨_, rfl⟩
    rw [Hlen.out] at e1 hlen hal
    go_wp2
    clear e1
    go_loopw [3, 23] (fun v i wr' => ∃ (j k' g' cp' : Nat), j ≤ len ∧ i = .int .i64 j ∧ v = .slice (some ⟨g', 0, none⟩) k' cp' ∧ w1.heap.size ≤ wr'.heap.size ∧ Hid ((zs ++ rowL n ws r j).length = k' ∧ Below w.heap.size w wr' ∧ Bk wr' w.heap.size #[.int .i64 n, .int .i64 y, .int .i64 l, .slice (some ⟨b1, o1, none⟩) n cap] ∧ OwnL wr' (w.heap.size + 1) (.slice (some ⟨g', 0, none⟩) k' cp') (zs ++ rowL n ws r j))) (fun _ i _ => len - (intOf i).toNat)
    case atStart => exact ⟨0, k, g, cp, by omega, rfl, rfl, hsz, by simpa [rowL] using HR.out.1, HR.out.2.1, HR.out.2.2.1, by simpa [rowL] using HR.out.2.2.2⟩
    case round =>
      obtain ⟨j, k', g', cp', hj, rfl, rfl, hsz2, HR2⟩ := hrel
      clear HR
      by_cases hjl : j < len
      rotate_left
      · obtain rfl : j = len := by omega
        have HF : Hid _ := HR2.out
        go_wp2
        go_roundw
        case rel => exact ⟨r + 1, k', g', cp', by omega, by go_num, rfl, hsz2, by rw [HNX.out, Hlen.out]; exact HF.out.1, HF.out.2.1, HF.out.2.2.1, by rw [HNX.out, Hlen.out]; exact HF.out.2.2.2⟩
        case measure => simp [intOf]; omega
      have hjl' : (j : Int) < (len : Int) := by omega
      obtain ⟨hkl, hbw, B0, hown⟩ := HR2.out
      obtain ⟨b2, o2, rfl, hbl2, c2, d2⟩ := WSeg.at (w := w) HX.out j (by rw [Hlen.out]; exact hjl)
      replace c2 := kept_cell hbw c2
      replace d2 := kept_cell hbw d2
      change _ = some (Value.int .i64 (tg ws j)) at c2
      have htg := HG.out j (by rw [Hlen.out]; exact hjl)
      obtain ⟨hw1, hw2⟩ := line_wrap (s := (n : Int)) (r := (r : Int)) htg ⟨by omega, by omega⟩ ⟨by omega, by omega⟩
      have HS2 : Hid (zs ++ rowL n ws r (j + 1) = (zs ++ rowL n ws r j) ++ [tg ws j * (n : Int) + (r : Int)]) := by show _ = _; rw [rowL_succ, List.append_assoc]
      have hyl : (zs ++ rowL n ws r j).length ≤ 1048576 := by simp [rowL_len]; omega
      generalize tg ws j = t at c2 hw1 hw2 HS2 htg
      generalize (ws.getD j wd).2 = dd at d2
      generalize zs ++ rowL n ws r j = ys at hkl hown HS2 hyl
      have hal1 : Below wr.heap.size wr (wr.alloc (.cells #[.int .i64 t, .bool dd] 61)) := (Below.refl _ _).alloc (Nat.le_refl _) _
      have hal2 : Below wr.heap.size wr ((wr.alloc (.cells #[.int .i64 t, .bool dd] 61)).alloc (.cells #[.int .i64 (t * (n : Int) + (r : Int))] 3)) := hal1.alloc hal1.size _
      have k0 := kept_cell hal1 (B0.cell 0 _ rfl)
      have k00 := B0.cell 0 _ rfl
      have hown2 : ((wr.alloc (.cells #[.int .i64 t, .bool dd] 61)).alloc (.cells #[.int .i64 (t * (n : Int) + (r : Int))] 3)).ownsRow (w.heap.size + 1) 3 1 (.slice (some ⟨g', 0, none⟩) k' cp') ys.length (ys.map (Value.int .i64)) := OwnL.below hown hal2
      have hlow := own_low hown
      have HZ : Hid (∀ (gg cap1 : Nat) (w9 : World), w9.ownsRow (w.heap.size + 1) 3 1 (.slice (some ⟨gg, 0, none⟩) (ys.length + 1) cap1) (ys.length + 1) (ys.map (Value.int .i64) ++ [.int .i64 (t * (n : Int) + (r : Int))]) → ((wr.alloc (.cells #[.int .i64 t, .bool dd] 61)).alloc (.cells #[.int .i64 (t * (n : Int) + (r : Int))] 3)).grownBy w9 (Value.slice (some ⟨g', 0, none⟩) k' cp').ownBlock → (zs ++ rowL n ws r (j + 1)).length = k' + 1 ∧ Below w.heap.size w w9 ∧ Bk w9 w.heap.size #[.int .i64 n, .int .i64 y, .int .i64 l, .slice (some ⟨b1, o1, none⟩) n cap] ∧ OwnL w9 (w.heap.size + 1) (.slice (some ⟨gg, 0, none⟩) (k' + 1) cap1) (zs ++ rowL n ws r (j + 1)) ∧ w1.heap.size ≤ w9.heap.size) := fun gg cap1 w9 h1 h2 => by
        have hb6 := hbw.trans (hal2.mono hbw.size)
        rw [HS2.out]
        subst hkl
        exact ⟨by simp, Below.grown hb6 h2 hb6.size (fun g e => by have := hlow g e; omega), (B0.below hal2).grown h2 hlow (by omega), OwnL.snoc h1, Nat.le_trans hsz2 (Nat.le_trans hal2.size h2.size)⟩
      have hkk : k' ≤ 1048576 := by omega
      have HKL : Hid _ := hkl
      clear hbl2 hbw B0 hown hal1 hal2 hlow HR2 hkl
      go_wp2_with (at_builtin; (refine wpList_append_lies _ rfl (.tmp 27) (.tmp 36) 44 rfl (w.heap.size + 1) 3 i3 (.int .i64 0) 1 8 Try.underlying44 HI.out.1 HI.out.2.1 HI.out.2.2.1 HI.out.2.2.2 rfl (by omega) _ _ _ rfl hown2 _ 1 1 [.int .i64 (t * (n : Int) + (r : Int))] rfl rfl (news_int _ _ _ (by simp)) (one_int _) (by omega) (by unfold maxLen; omega) (by omega) (by simp; omega) _ rfl ?_; intro gg cap1 w9 hown1 hgrow hat hlt1; have HY : Hid _ := HZ.out gg cap1 w9 hown1 hgrow; clear hown1 hgrow hat hlt1; rw [HKL.out]))
      go_roundw
      case rel => exact ⟨j + 1, k' + 1, gg, cap1, by omega, by go_num, rfl, HY.out.2.2.2.2, HY.out.1, HY.out.2.1, HY.out.2.2.1, HY.out.2.2.2.1⟩
      case measure => simp [intOf]; omega
end Go.Proofs.Ytmbpmhmehiiiaaa
