
/-
  A drawn run of a table of pages: whatever the bytes, a size and at most 2002 addresses, in memory of their own. Conditions: the bytes are at most 1048576.
-/
import Derived.Test.YtdjfijkgmeapdaaProg
import Derived.Test.YtdjfijkgmeapdaaCdx
import Derived.Test.YtdjfijkgmeapdaaOnl
import Derived.Test.YtdjfijkgmeapdaaApl
import Derived.Deep.AppendLies
namespace Go.Proofs.Ytdjfijkgmeapdaa
open Go.ChangeShapes Go.WideShapes Go.ChangeAt Go.RowKit Go.Deep
set_option linter.unusedVariables false

/-- The drawing of numbers: the cursor, and the list so far, from block 'base' on. -/
structure DL (w wr : World) (base B : Nat) (a : Option Addr) (zs : List Int) (cap : Nat) (v : Value) (xs : List Int) : Prop where
  ct : CT w wr B a zs cap
  own : OwnL wr base v xs
  nv : v ≠ .slice none 0 0
  le : w.heap.size ≤ base
  ls : base ≤ wr.heap.size
theorem ownL_turn {w X : World} {B base : Nat} {v : Value} {ys : List Int} (h : OwnL w base v ys) (ht : Turn B w X) (hB : B < base) : OwnL X base v ys := by
  refine ⟨h.1, ?_⟩
  rcases h.2 with hn | ⟨g, cap, cur, e, hbs, hgg, rest⟩
  · exact .inl hn
  · refine .inr ⟨g, cap, cur, e, hbs, ?_, rest⟩
    have hlt : g < w.heap.size := by
      rcases Nat.lt_or_ge g w.heap.size with hlt | hge
      · exact hlt
      · rw [Array.getElem?_eq_none hge] at hgg; cases hgg
    rw [ht.block g hlt (by omega)]
    exact hgg
theorem OwnL.lt {w : World} {base : Nat} {v : Value} {ys : List Int} (h : OwnL w base v ys) : ∀ g, v.ownBlock = some g → base ≤ g ∧ g < w.heap.size := fun g e => by
  rcases h.2 with ⟨h0, h1⟩ | ⟨g', cap, cur, rfl, hb, hg, r⟩
  · subst h0; cases e
  · have e' : g' = g := by have : some g' = some g := e; injection this
    subst e'
    refine ⟨hb, ?_⟩
    rcases Nat.lt_or_ge g' w.heap.size with hlt | hge
    · exact hlt
    · rw [Array.getElem?_eq_none hge] at hg; cases hg
theorem OwnL.set {w : World} {base Y j : Nat} {v u : Value} {ys : List Int} (h : OwnL w base v ys) (hv : ∀ g, v.ownBlock = some g → g ≠ Y) : OwnL (w.setCell ⟨Y, j, none⟩ u) base v ys := by
  have hbt : Betw Y (Y + 1) w (w.setCell ⟨Y, j, none⟩ u) := (Betw.refl _ _ w).setCell (p := ⟨Y, j, none⟩) (Nat.le_refl _) (by simp) _
  refine ⟨h.1, ?_⟩
  rcases h.2 with hn | ⟨g, cap, cur, e, hbs, hgg, rest⟩
  · exact .inl hn
  · refine .inr ⟨g, cap, cur, e, hbs, ?_, rest⟩
    have hlt : g < w.heap.size := by
      rcases Nat.lt_or_ge g w.heap.size with hlt | hge
      · exact hlt
      · rw [Array.getElem?_eq_none hge] at hgg; cases hgg
    have hne := hv g (by rw [e]; rfl)
    rw [hbt.block g hlt (by omega)]
    exact hgg
variable {w wr : World} {base B : Nat} {a : Option Addr} {zs : List Int} {cap : Nat} {v : Value} {xs : List Int}
theorem DL.below {X : World} (h : DL w wr base B a zs cap v xs) (hb : Below wr.heap.size wr X) : DL w X base B a zs cap v xs := ⟨h.ct.below hb, h.own.below hb, h.nv, h.le, Nat.le_trans h.ls hb.size⟩
theorem DL.step {X : World} (h : DL w wr base B a zs cap v xs) (hc : Cur X B a zs cap) (ht : Turn B wr X) : DL w X base B a zs cap v xs := ⟨h.ct.step hc ht, ownL_turn h.own ht (by have := h.ct.lo; have := h.le; omega), h.nv, h.le, Nat.le_trans h.ls ht.size⟩
theorem DL.low {X : World} {v' : Value} {xs' : List Int} (h : DL w wr base B a zs cap v xs) (hb : Below base wr X) (ho : OwnL X base v' xs') (hv : v' ≠ .slice none 0 0) : DL w X base B a zs cap v' xs' :=
  ⟨⟨h.ct.cur.belowC hb (by have := h.ct.lo; have := h.le; omega) (fun b off e h0 => by have := h.ct.la b off e h0; have := h.le; omega), ⟨hb.os.trans h.ct.turn.os, hb.tape.trans h.ct.turn.tape, hb.output.trans h.ct.turn.output, Nat.le_trans h.ct.turn.size hb.size, fun k hk hn => (hb.block k (by have := h.le; omega)).trans (h.ct.turn.block k hk hn)⟩, h.ct.lo, h.ct.la⟩, ho, hv, h.le, Nat.le_trans h.ls hb.size⟩
theorem DL.set {Y j : Nat} {u : Value} (h : DL w wr base B a zs cap v xs) (hY : w.heap.size ≤ Y) (hv : ∀ g, v.ownBlock = some g → g ≠ Y) : DL w (wr.setCell ⟨Y, j, none⟩ u) base B a zs cap v xs :=
  ⟨h.ct.set Y j u hY, h.own.set hv, h.nv, h.le, by rw [nblk_setCell]; exact h.ls⟩
theorem DL.from {w0 : World} (h : DL w wr base B a zs cap v xs) (h0 : CT w0 w B a zs cap) : DL w0 wr base B a zs cap v xs :=
  ⟨⟨h.ct.cur, h0.turn.trans h.ct.turn, h0.lo, h0.la⟩, h.own, h.nv, Nat.le_trans h0.turn.size h.le, h.ls⟩
/-- What DrawTlbRun answers. -/
def DTP (w : World) (e : Ending) (w' : World) : Prop := ∃ (s : Int) (v : Value) (xs : List Int), e = .returned (.tuple #[.int .i64 s, v]) ∧ xs.length ≤ 2002 ∧ Below w.heap.size w w' ∧ OwnL w' w.heap.size v xs ∧ v ≠ .slice none 0 0
set_option maxRecDepth 20000 in
set_option maxHeartbeats 4000000 in
theorem draw_run (w : World) (a : Option Addr) (zs : List Int) (cap n : Nat) (hs : Seg .u8 w a zs) (hb : ∀ z ∈ zs, (Lit.int .u8 z).wf = true) (hl : zs.length = n) (hn : n ≤ 1048576) :
    Calls Try.prog 5 #[.slice a n cap] w (DTP w) := by
  have HN : Hid (Calls Try.prog 13 #[.slice a n cap] w fun e w' => e = .returned (.pointer (some ⟨w.heap.size, 0, none⟩)) ∧ Cur w' w.heap.size a zs cap ∧ Below w.heap.size w w') := by
    rw [← hl]
    exact draw_new w a zs cap hs hb (by omega)
  have HS80 : Hid (∀ X, Calls Try.prog 15 #[.slice a n cap, .int .i64 80] X fun e w' => ∃ x : Int, e = .returned (.int .i64 x) ∧ 1 ≤ x ∧ x ≤ 80 ∧ w' = X) := fun X => size_80 a n cap X hn
  clear hs hb hl
  obtain ⟨iS, hi1, hi2, hi3, hi4⟩ := info3'
  have HIN : Hid (Try.prog.info? 3 = some iS ∧ iS.zero = some (.int .i64 0) ∧ iS.size = 1 ∧ iS.bytes = 8) := ⟨hi1, hi2, hi3, hi4⟩
  clear hi1 hi2 hi3 hi4
  go_enter Try.func5, Try.ntmps5
  go_wp2_with fail
  refine HN.out.mono ?_
  rintro e w0 ⟨rfl, hc0, hb0⟩
  have HWB : Hid (Below w.heap.size w w0) := hb0
  obtain ⟨C, hC⟩ : ∃ C, w.heap.size = C := ⟨_, rfl⟩
  rw [hC] at hc0
  have HCW : Hid (w.heap.size ≤ C) := Nat.le_of_eq hC
  have HC0 : Hid (CT w0 w0 C a zs cap) := CT.start hc0
  clear HN hb0 hc0
  go_wp2_with fail
  try rw [hC]
  clear hC
  refine (draw_below _ _ _ _ _ _ HC0.out.cur (by omega) (by omega)).mono ?_
  rintro e w1 ⟨s, rfl, hs0, hs1, hc1, ht1⟩
  have HC1 : Hid (CT w0 w1 C a zs cap) := HC0.out.step hc1 ht1
  obtain ⟨S, hS⟩ : ∃ S, 1 + s = S := ⟨_, rfl⟩
  have hwS : IntKind.i64.wrap (1 + s) = S := by rw [hS, IntKind.wrap_i64]; omega
  clear HC0 hc1 ht1 hS
  obtain ⟨base, hbase⟩ : ∃ b, b = w1.heap.size := ⟨_, rfl⟩
  have HD1 : Hid (DL w0 (w1.alloc (.cells #[] 3)) base C a zs cap (.slice (some ⟨base, 0, none⟩) 0 0) []) := ⟨HC1.out.alloc _, by rw [hbase]; exact OwnL.new _ _ rfl, by simp, by have := HC1.out.turn.size; omega, by rw [hbase]; simp⟩
  clear HC1
  go_wp2_with fail
  revert HD1
  generalize (w1.alloc (.cells #[] 3)) = V1
  try rw [← hbase]
  clear hbase
  intro HD1
  refine (HS80.out _).mono ?_
  rintro e w2 ⟨z, rfl, hz1, hz2, hw2⟩
  subst hw2
  go_wp2_with fail
  refine (draw_below _ _ _ _ _ _ HD1.out.ct.cur (by omega) (by omega)).mono ?_
  rintro e w3 ⟨m, rfl, hm0, hm1, hc3, ht3⟩
  have HD3 : Hid (DL w0 w3 base C a zs cap (.slice (some ⟨base, 0, none⟩) 0 0) []) := HD1.out.step hc3 ht3
  clear HD1 hc3 ht3 HS80
  go_wp2_with fail
  refine (draw_once _ _ _ _ _ _ HD3.out.ct.cur (by omega) (by omega)).mono ?_
  rintro e w4 ⟨q4, rfl, hc4, ht4⟩
  have HD4 : Hid (DL w0 w4 base C a zs cap (.slice (some ⟨base, 0, none⟩) 0 0) []) := HD3.out.step hc4 ht4
  clear HD3 hc4 ht4
  obtain ⟨m, rfl⟩ : ∃ M : Nat, m = (M : Int) := ⟨m.toNat, by omega⟩
  cases q4
  · go_wp2
    go_loopw [6, 8] (fun v i wr => ∃ j : Nat, j ≤ m ∧ i = .int .i64 j ∧ Hid (∃ xs, xs.length = j ∧ DL w0 wr base C a zs cap v xs)) (fun _ i _ => m - (intOf i).toNat)
    case atStart => exact ⟨0, by omega, rfl, [], rfl, HD4.out⟩
    case round =>
      obtain ⟨i, hi, rfl, HR⟩ := hrel
      clear HD4
      by_cases hin : i < m
      rotate_left
      · obtain rfl : i = m := by omega
        obtain ⟨xs, h1, h2⟩ := HR.out
        obtain ⟨g5, c5, rfl, hcc⟩ := h2.own.shape h2.nv h1
        have HXL : Hid (xs.length ≤ 2001) := by show _ ≤ _; omega
        have HD : Hid (DL w0 wr base C a zs cap (.slice (some ⟨g5, 0, none⟩) i c5) xs) := h2
        clear HR h1 h2 hcc
        go_wp2_with fail
        refine (draw_once _ _ _ _ _ _ HD.out.ct.cur (by omega) (by omega)).mono ?_
        rintro e W7 ⟨q7, rfl, hc7, ht7⟩
        replace HD : Hid (DL w0 W7 base C a zs cap (.slice (some ⟨g5, 0, none⟩) i c5) xs) := HD.out.step hc7 ht7
        clear hc7 ht7
        cases q7
        · replace HXL : Hid (xs.length ≤ 2002) := Nat.le_trans HXL.out (by omega)
          go_wp2_with fail
          refine (draw_once _ _ _ _ _ _ HD.out.ct.cur (by omega) (by omega)).mono ?_
          rintro e W9 ⟨q9, rfl, hc9, ht9⟩
          replace HD : Hid (DL w0 W9 base C a zs cap (.slice (some ⟨g5, 0, none⟩) i c5) xs) := HD.out.step hc9 ht9
          clear hc9 ht9
          cases q9
          · go_wp2
            exact bodyPost_ret (v := .tuple #[.int .i64 S, (.slice (some ⟨g5, 0, none⟩) i c5)]) (by simp [results, Try.results5, go_sem]) rfl ⟨_, _, xs, rfl, HXL.out, HWB.out.trans (HD.out.ct.turn.below HCW.out HWB.out.size), HD.out.own.low (by have := HD.out.le; have := HWB.out.size; omega), HD.out.nv⟩
          · have HO : Hid (Own .i64 (W9.alloc (.cells #[.int .i64 0, .int .i64 9] 3)) W9.heap.size [0, 9]) := own_litD .i64 W9 3 [0, 9]
            have hgB : C < W9.heap.size := HD.out.ct.cur.lt
            replace HD : Hid (DL w0 (W9.alloc (.cells #[.int .i64 0, .int .i64 9] 3)) base C a zs cap (.slice (some ⟨g5, 0, none⟩) i c5) xs) := HD.out.below ((Below.refl _ _).alloc (Nat.le_refl _) _)
            go_wp2_with fail
            refine (draw_pick _ _ _ _ _ _ [0, 9] HD.out.ct.cur HO.out (by omega) (by simp) (by simp)).mono ?_
            rintro e W10 ⟨y, rfl, hy, hc10, ht10⟩
            replace HD : Hid (DL w0 W10 base C a zs cap (.slice (some ⟨g5, 0, none⟩) i c5) xs) := HD.out.step hc10 ht10
            clear hc10 ht10 hy HO
            go_wp2
            exact bodyPost_ret (v := .tuple #[.int .i64 y, (.slice (some ⟨g5, 0, none⟩) i c5)]) (by simp [results, Try.results5, go_sem]) rfl ⟨_, _, xs, rfl, HXL.out, HWB.out.trans (HD.out.ct.turn.below HCW.out HWB.out.size), HD.out.own.low (by have := HD.out.le; have := HWB.out.size; omega), HD.out.nv⟩
        · have HO : Hid (Own .i64 (W7.alloc (.cells #[.int .i64 (-1), .int .i64 65535, .int .i64 65536] 3)) W7.heap.size [-1, 65535, 65536]) := own_litD .i64 W7 3 [-1, 65535, 65536]
          have hgB : C < W7.heap.size := HD.out.ct.cur.lt
          replace HD : Hid (DL w0 (W7.alloc (.cells #[.int .i64 (-1), .int .i64 65535, .int .i64 65536] 3)) base C a zs cap (.slice (some ⟨g5, 0, none⟩) i c5) xs) := HD.out.below ((Below.refl _ _).alloc (Nat.le_refl _) _)
          go_wp2_with fail
          refine (draw_pick _ _ _ _ _ _ [-1, 65535, 65536] HD.out.ct.cur HO.out (by omega) (by simp) (by simp)).mono ?_
          rintro e W8 ⟨y, rfl, hy, hc8, ht8⟩
          replace HD : Hid (DL w0 W8 base C a zs cap (.slice (some ⟨g5, 0, none⟩) i c5) xs) := HD.out.step hc8 ht8
          clear hc8 ht8 hy HO
          have hsl : xs.length ≤ 2100 := by have := HXL.out; omega
          obtain ⟨LX, HLX⟩ : ∃ l, Hid (xs.length + 1 = l) := ⟨_, rfl⟩
          have hal : Below W8.heap.size W8 (W8.alloc (.cells #[.int .i64 y] 3)) := (Below.refl _ _).alloc (Nat.le_refl _) _
          have HPA : Hid (DL w0 (W8.alloc (.cells #[.int .i64 y] 3)) base C a zs cap (.slice (some ⟨g5, 0, none⟩) i c5) xs) := HD.out.below hal
          have hownA : (W8.alloc (.cells #[.int .i64 y] 3)).ownsRow base 3 1 (.slice (some ⟨g5, 0, none⟩) i c5) xs.length (xs.map (Value.int .i64)) := HPA.out.own
          have HSZ : Hid (base ≤ (W8.alloc (.cells #[.int .i64 y] 3)).heap.size) := HPA.out.ls
          have HZ : Hid (∀ (gg cap1 : Nat) (w9 : World), w9.ownsRow base 3 1 (.slice (some ⟨gg, 0, none⟩) (xs.length + 1) cap1) (xs.length + 1) (xs.map (Value.int .i64) ++ [.int .i64 y]) → (W8.alloc (.cells #[.int .i64 y] 3)).grownBy w9 ((.slice (some ⟨g5, 0, none⟩) i c5) : Value).ownBlock → ∃ xs', xs'.length ≤ 2002 ∧ DL w0 w9 base C a zs cap (.slice (some ⟨gg, 0, none⟩) LX cap1) xs') := fun gg cap1 w9 g1 g2 => ⟨xs ++ [y], by have := HXL.out; simp; omega, HPA.out.low (Below.grown (Below.refl _ _) g2 HSZ.out (fun g e => (HPA.out.own.lt g e).1)) (by rw [← HLX.out]; exact OwnL.snoc g1) (by simp)⟩
          clear hal HD HPA
          go_wp2_with (at_builtin; (refine wpList_append_lies _ rfl (.tmp 36) (.tmp 40) 24 rfl base 3 iS (.int .i64 0) 1 8 Try.underlying24 HIN.out.1 HIN.out.2.1 HIN.out.2.2.1 HIN.out.2.2.2 rfl (by omega) (.slice (some ⟨g5, 0, none⟩) i c5) xs.length (xs.map (Value.int .i64)) rfl hownA _ 1 1 [.int .i64 y] rfl rfl (news_int _ _ _ (by simp)) (one_int _) (by omega) (by unfold maxLen; omega) (by omega) HSZ.out _ rfl ?_; intro gg cap1 w9 hown1 hgrow hat hlt1; have HYY : Hid _ := HZ.out gg cap1 w9 hown1 hgrow; clear hown1 hgrow hat hlt1; rw [HLX.out]))
          obtain ⟨xs2, hx2, hd2⟩ := HYY.out
          clear HYY HZ HXL hownA HSZ hsl HLX
          revert hx2 hd2
          generalize xs2 = xs
          intro hx2 hd2
          have HXL : Hid (xs.length ≤ 2002) := hx2
          have HD : Hid (DL w0 w9 base C a zs cap (.slice (some ⟨gg, 0, none⟩) LX cap1) xs) := hd2
          clear hx2 hd2
          try go_wp2_with fail
          refine (draw_once _ _ _ _ _ _ HD.out.ct.cur (by omega) (by omega)).mono ?_
          rintro e W9 ⟨q9, rfl, hc9, ht9⟩
          replace HD : Hid (DL w0 W9 base C a zs cap (.slice (some ⟨gg, 0, none⟩) LX cap1) xs) := HD.out.step hc9 ht9
          clear hc9 ht9
          cases q9
          · go_wp2
            exact bodyPost_ret (v := .tuple #[.int .i64 S, (.slice (some ⟨gg, 0, none⟩) LX cap1)]) (by simp [results, Try.results5, go_sem]) rfl ⟨_, _, xs, rfl, HXL.out, HWB.out.trans (HD.out.ct.turn.below HCW.out HWB.out.size), HD.out.own.low (by have := HD.out.le; have := HWB.out.size; omega), HD.out.nv⟩
          · have HO : Hid (Own .i64 (W9.alloc (.cells #[.int .i64 0, .int .i64 9] 3)) W9.heap.size [0, 9]) := own_litD .i64 W9 3 [0, 9]
            have hgB : C < W9.heap.size := HD.out.ct.cur.lt
            replace HD : Hid (DL w0 (W9.alloc (.cells #[.int .i64 0, .int .i64 9] 3)) base C a zs cap (.slice (some ⟨gg, 0, none⟩) LX cap1) xs) := HD.out.below ((Below.refl _ _).alloc (Nat.le_refl _) _)
            go_wp2_with fail
            refine (draw_pick _ _ _ _ _ _ [0, 9] HD.out.ct.cur HO.out (by omega) (by simp) (by simp)).mono ?_
            rintro e W10 ⟨y, rfl, hy, hc10, ht10⟩
            replace HD : Hid (DL w0 W10 base C a zs cap (.slice (some ⟨gg, 0, none⟩) LX cap1) xs) := HD.out.step hc10 ht10
            clear hc10 ht10 hy HO
            go_wp2
            exact bodyPost_ret (v := .tuple #[.int .i64 y, (.slice (some ⟨gg, 0, none⟩) LX cap1)]) (by simp [results, Try.results5, go_sem]) rfl ⟨_, _, xs, rfl, HXL.out, HWB.out.trans (HD.out.ct.turn.below HCW.out HWB.out.size), HD.out.own.low (by have := HD.out.le; have := HWB.out.size; omega), HD.out.nv⟩
      have hin' : (i : Int) < (m : Int) := by omega
      obtain ⟨xs, h1, h2⟩ := HR.out
      have HXL : Hid (xs.length = i) := h1
      have HD1 : Hid (DL w0 wr base C a zs cap u6 xs) := h2
      clear HR h1 h2
      go_wp2_with fail
      refine (draw_below _ _ _ _ _ _ HD1.out.ct.cur (by omega) (by omega)).mono ?_
      rintro e w5 ⟨y, rfl, hy0, hy1, hc5, ht5⟩
      have HD : Hid (DL w0 w5 base C a zs cap u6 xs) := HD1.out.step hc5 ht5
      clear HD1 hc5 ht5
      have hsl : xs.length ≤ 2100 := by have := HXL.out; omega
      have hal : Below w5.heap.size w5 (w5.alloc (.cells #[.int .i64 y] 3)) := (Below.refl _ _).alloc (Nat.le_refl _) _
      have HPA : Hid (DL w0 (w5.alloc (.cells #[.int .i64 y] 3)) base C a zs cap u6 xs) := HD.out.below hal
      have hownA : (w5.alloc (.cells #[.int .i64 y] 3)).ownsRow base 3 1 u6 xs.length (xs.map (Value.int .i64)) := HPA.out.own
      have HSZ : Hid (base ≤ (w5.alloc (.cells #[.int .i64 y] 3)).heap.size) := HPA.out.ls
      have HZ : Hid (∀ (gg cap1 : Nat) (w9 : World), w9.ownsRow base 3 1 (.slice (some ⟨gg, 0, none⟩) (xs.length + 1) cap1) (xs.length + 1) (xs.map (Value.int .i64) ++ [.int .i64 y]) → (w5.alloc (.cells #[.int .i64 y] 3)).grownBy w9 (u6 : Value).ownBlock → ∃ xs', xs'.length = i + 1 ∧ DL w0 w9 base C a zs cap (.slice (some ⟨gg, 0, none⟩) (xs.length + 1) cap1) xs') := fun gg cap1 w9 g1 g2 => ⟨xs ++ [y], by rw [List.length_append, HXL.out]; rfl, HPA.out.low (Below.grown (Below.refl _ _) g2 HSZ.out (fun g e => (HPA.out.own.lt g e).1)) (OwnL.snoc g1) (by simp)⟩
      clear hal HD HPA
      go_wp2_with (at_builtin; (refine wpList_append_lies _ rfl (.tmp 29) (.tmp 32) 24 rfl base 3 iS (.int .i64 0) 1 8 Try.underlying24 HIN.out.1 HIN.out.2.1 HIN.out.2.2.1 HIN.out.2.2.2 rfl (by omega) u6 xs.length (xs.map (Value.int .i64)) rfl hownA _ 1 1 [.int .i64 y] rfl rfl (news_int _ _ _ (by simp)) (one_int _) (by omega) (by unfold maxLen; omega) (by omega) HSZ.out _ rfl ?_; intro gg cap1 w9 hown1 hgrow hat hlt1; have HYY : Hid _ := HZ.out gg cap1 w9 hown1 hgrow; clear hown1 hgrow hat hlt1))
      go_roundw
      case rel => exact ⟨i + 1, by omega, by go_num, HYY⟩
      case measure => simp [intOf]; omega
  · go_wp2_with fail
    refine (draw_below _ _ _ _ _ _ HD4.out.ct.cur (by omega) (by omega)).mono ?_
    rintro e w6 ⟨z6, rfl, hz60, hz61, hc6, ht6⟩
    have HD6 : Hid (DL w0 w6 base C a zs cap (.slice (some ⟨base, 0, none⟩) 0 0) []) := HD4.out.step hc6 ht6
    clear HD4 hc6 ht6
    obtain ⟨M2, hM2⟩ : ∃ M : Nat, 2000 + z6 = (M : Int) := ⟨(2000 + z6).toNat, by omega⟩
    have hwM : IntKind.i64.wrap (2000 + z6) = (M2 : Int) := by rw [hM2, IntKind.wrap_i64]; omega
    have hMb : M2 ≤ 2001 := by omega
    clear hM2
    go_wp2
    go_loopw [6, 8] (fun v i wr => ∃ j : Nat, j ≤ M2 ∧ i = .int .i64 j ∧ Hid (∃ xs, xs.length = j ∧ DL w0 wr base C a zs cap v xs)) (fun _ i _ => M2 - (intOf i).toNat)
    case atStart => exact ⟨0, by omega, rfl, [], rfl, HD6.out⟩
    case round =>
      obtain ⟨i, hi, rfl, HR⟩ := hrel
      clear HD6
      by_cases hin : i < M2
      rotate_left
      · obtain rfl : i = M2 := by omega
        obtain ⟨xs, h1, h2⟩ := HR.out
        obtain ⟨g5, c5, rfl, hcc⟩ := h2.own.shape h2.nv h1
        have HXL : Hid (xs.length ≤ 2001) := by show _ ≤ _; omega
        have HD : Hid (DL w0 wr base C a zs cap (.slice (some ⟨g5, 0, none⟩) i c5) xs) := h2
        clear HR h1 h2 hcc
        go_wp2_with fail
        refine (draw_once _ _ _ _ _ _ HD.out.ct.cur (by omega) (by omega)).mono ?_
        rintro e W7 ⟨q7, rfl, hc7, ht7⟩
        replace HD : Hid (DL w0 W7 base C a zs cap (.slice (some ⟨g5, 0, none⟩) i c5) xs) := HD.out.step hc7 ht7
        clear hc7 ht7
        cases q7
        · replace HXL : Hid (xs.length ≤ 2002) := Nat.le_trans HXL.out (by omega)
          go_wp2_with fail
          refine (draw_once _ _ _ _ _ _ HD.out.ct.cur (by omega) (by omega)).mono ?_
          rintro e W9 ⟨q9, rfl, hc9, ht9⟩
          replace HD : Hid (DL w0 W9 base C a zs cap (.slice (some ⟨g5, 0, none⟩) i c5) xs) := HD.out.step hc9 ht9
          clear hc9 ht9
          cases q9
          · go_wp2
            exact bodyPost_ret (v := .tuple #[.int .i64 S, (.slice (some ⟨g5, 0, none⟩) i c5)]) (by simp [results, Try.results5, go_sem]) rfl ⟨_, _, xs, rfl, HXL.out, HWB.out.trans (HD.out.ct.turn.below HCW.out HWB.out.size), HD.out.own.low (by have := HD.out.le; have := HWB.out.size; omega), HD.out.nv⟩
          · have HO : Hid (Own .i64 (W9.alloc (.cells #[.int .i64 0, .int .i64 9] 3)) W9.heap.size [0, 9]) := own_litD .i64 W9 3 [0, 9]
            have hgB : C < W9.heap.size := HD.out.ct.cur.lt
            replace HD : Hid (DL w0 (W9.alloc (.cells #[.int .i64 0, .int .i64 9] 3)) base C a zs cap (.slice (some ⟨g5, 0, none⟩) i c5) xs) := HD.out.below ((Below.refl _ _).alloc (Nat.le_refl _) _)
            go_wp2_with fail
            refine (draw_pick _ _ _ _ _ _ [0, 9] HD.out.ct.cur HO.out (by omega) (by simp) (by simp)).mono ?_
            rintro e W10 ⟨y, rfl, hy, hc10, ht10⟩
            replace HD : Hid (DL w0 W10 base C a zs cap (.slice (some ⟨g5, 0, none⟩) i c5) xs) := HD.out.step hc10 ht10
            clear hc10 ht10 hy HO
            go_wp2
            exact bodyPost_ret (v := .tuple #[.int .i64 y, (.slice (some ⟨g5, 0, none⟩) i c5)]) (by simp [results, Try.results5, go_sem]) rfl ⟨_, _, xs, rfl, HXL.out, HWB.out.trans (HD.out.ct.turn.below HCW.out HWB.out.size), HD.out.own.low (by have := HD.out.le; have := HWB.out.size; omega), HD.out.nv⟩
        · have HO : Hid (Own .i64 (W7.alloc (.cells #[.int .i64 (-1), .int .i64 65535, .int .i64 65536] 3)) W7.heap.size [-1, 65535, 65536]) := own_litD .i64 W7 3 [-1, 65535, 65536]
          have hgB : C < W7.heap.size := HD.out.ct.cur.lt
          replace HD : Hid (DL w0 (W7.alloc (.cells #[.int .i64 (-1), .int .i64 65535, .int .i64 65536] 3)) base C a zs cap (.slice (some ⟨g5, 0, none⟩) i c5) xs) := HD.out.below ((Below.refl _ _).alloc (Nat.le_refl _) _)
          go_wp2_with fail
          refine (draw_pick _ _ _ _ _ _ [-1, 65535, 65536] HD.out.ct.cur HO.out (by omega) (by simp) (by simp)).mono ?_
          rintro e W8 ⟨y, rfl, hy, hc8, ht8⟩
          replace HD : Hid (DL w0 W8 base C a zs cap (.slice (some ⟨g5, 0, none⟩) i c5) xs) := HD.out.step hc8 ht8
          clear hc8 ht8 hy HO
          have hsl : xs.length ≤ 2100 := by have := HXL.out; omega
          obtain ⟨LX, HLX⟩ : ∃ l, Hid (xs.length + 1 = l) := ⟨_, rfl⟩
          have hal : Below W8.heap.size W8 (W8.alloc (.cells #[.int .i64 y] 3)) := (Below.refl _ _).alloc (Nat.le_refl _) _
          have HPA : Hid (DL w0 (W8.alloc (.cells #[.int .i64 y] 3)) base C a zs cap (.slice (some ⟨g5, 0, none⟩) i c5) xs) := HD.out.below hal
          have hownA : (W8.alloc (.cells #[.int .i64 y] 3)).ownsRow base 3 1 (.slice (some ⟨g5, 0, none⟩) i c5) xs.length (xs.map (Value.int .i64)) := HPA.out.own
          have HSZ : Hid (base ≤ (W8.alloc (.cells #[.int .i64 y] 3)).heap.size) := HPA.out.ls
          have HZ : Hid (∀ (gg cap1 : Nat) (w9 : World), w9.ownsRow base 3 1 (.slice (some ⟨gg, 0, none⟩) (xs.length + 1) cap1) (xs.length + 1) (xs.map (Value.int .i64) ++ [.int .i64 y]) → (W8.alloc (.cells #[.int .i64 y] 3)).grownBy w9 ((.slice (some ⟨g5, 0, none⟩) i c5) : Value).ownBlock → ∃ xs', xs'.length ≤ 2002 ∧ DL w0 w9 base C a zs cap (.slice (some ⟨gg, 0, none⟩) LX cap1) xs') := fun gg cap1 w9 g1 g2 => ⟨xs ++ [y], by have := HXL.out; simp; omega, HPA.out.low (Below.grown (Below.refl _ _) g2 HSZ.out (fun g e => (HPA.out.own.lt g e).1)) (by rw [← HLX.out]; exact OwnL.snoc g1) (by simp)⟩
          clear hal HD HPA
          go_wp2_with (at_builtin; (refine wpList_append_lies _ rfl (.tmp 36) (.tmp 40) 24 rfl base 3 iS (.int .i64 0) 1 8 Try.underlying24 HIN.out.1 HIN.out.2.1 HIN.out.2.2.1 HIN.out.2.2.2 rfl (by omega) (.slice (some ⟨g5, 0, none⟩) i c5) xs.length (xs.map (Value.int .i64)) rfl hownA _ 1 1 [.int .i64 y] rfl rfl (news_int _ _ _ (by simp)) (one_int _) (by omega) (by unfold maxLen; omega) (by omega) HSZ.out _ rfl ?_; intro gg cap1 w9 hown1 hgrow hat hlt1; have HYY : Hid _ := HZ.out gg cap1 w9 hown1 hgrow; clear hown1 hgrow hat hlt1; rw [HLX.out]))
          obtain ⟨xs2, hx2, hd2⟩ := HYY.out
          clear HYY HZ HXL hownA HSZ hsl HLX
          revert hx2 hd2
          generalize xs2 = xs
          intro hx2 hd2
          have HXL : Hid (xs.length ≤ 2002) := hx2
          have HD : Hid (DL w0 w9 base C a zs cap (.slice (some ⟨gg, 0, none⟩) LX cap1) xs) := hd2
          clear hx2 hd2
          try go_wp2_with fail
          refine (draw_once _ _ _ _ _ _ HD.out.ct.cur (by omega) (by omega)).mono ?_
          rintro e W9 ⟨q9, rfl, hc9, ht9⟩
          replace HD : Hid (DL w0 W9 base C a zs cap (.slice (some ⟨gg, 0, none⟩) LX cap1) xs) := HD.out.step hc9 ht9
          clear hc9 ht9
          cases q9
          · go_wp2
            exact bodyPost_ret (v := .tuple #[.int .i64 S, (.slice (some ⟨gg, 0, none⟩) LX cap1)]) (by simp [results, Try.results5, go_sem]) rfl ⟨_, _, xs, rfl, HXL.out, HWB.out.trans (HD.out.ct.turn.below HCW.out HWB.out.size), HD.out.own.low (by have := HD.out.le; have := HWB.out.size; omega), HD.out.nv⟩
          · have HO : Hid (Own .i64 (W9.alloc (.cells #[.int .i64 0, .int .i64 9] 3)) W9.heap.size [0, 9]) := own_litD .i64 W9 3 [0, 9]
            have hgB : C < W9.heap.size := HD.out.ct.cur.lt
            replace HD : Hid (DL w0 (W9.alloc (.cells #[.int .i64 0, .int .i64 9] 3)) base C a zs cap (.slice (some ⟨gg, 0, none⟩) LX cap1) xs) := HD.out.below ((Below.refl _ _).alloc (Nat.le_refl _) _)
            go_wp2_with fail
            refine (draw_pick _ _ _ _ _ _ [0, 9] HD.out.ct.cur HO.out (by omega) (by simp) (by simp)).mono ?_
            rintro e W10 ⟨y, rfl, hy, hc10, ht10⟩
            replace HD : Hid (DL w0 W10 base C a zs cap (.slice (some ⟨gg, 0, none⟩) LX cap1) xs) := HD.out.step hc10 ht10
            clear hc10 ht10 hy HO
            go_wp2
            exact bodyPost_ret (v := .tuple #[.int .i64 y, (.slice (some ⟨gg, 0, none⟩) LX cap1)]) (by simp [results, Try.results5, go_sem]) rfl ⟨_, _, xs, rfl, HXL.out, HWB.out.trans (HD.out.ct.turn.below HCW.out HWB.out.size), HD.out.own.low (by have := HD.out.le; have := HWB.out.size; omega), HD.out.nv⟩
      have hin' : (i : Int) < (M2 : Int) := by omega
      obtain ⟨xs, h1, h2⟩ := HR.out
      have HXL : Hid (xs.length = i) := h1
      have HD1 : Hid (DL w0 wr base C a zs cap u6 xs) := h2
      clear HR h1 h2
      go_wp2_with fail
      refine (draw_below _ _ _ _ _ _ HD1.out.ct.cur (by omega) (by omega)).mono ?_
      rintro e w5 ⟨y, rfl, hy0, hy1, hc5, ht5⟩
      have HD : Hid (DL w0 w5 base C a zs cap u6 xs) := HD1.out.step hc5 ht5
      clear HD1 hc5 ht5
      have hsl : xs.length ≤ 2100 := by have := HXL.out; omega
      have hal : Below w5.heap.size w5 (w5.alloc (.cells #[.int .i64 y] 3)) := (Below.refl _ _).alloc (Nat.le_refl _) _
      have HPA : Hid (DL w0 (w5.alloc (.cells #[.int .i64 y] 3)) base C a zs cap u6 xs) := HD.out.below hal
      have hownA : (w5.alloc (.cells #[.int .i64 y] 3)).ownsRow base 3 1 u6 xs.length (xs.map (Value.int .i64)) := HPA.out.own
      have HSZ : Hid (base ≤ (w5.alloc (.cells #[.int .i64 y] 3)).heap.size) := HPA.out.ls
      have HZ : Hid (∀ (gg cap1 : Nat) (w9 : World), w9.ownsRow base 3 1 (.slice (some ⟨gg, 0, none⟩) (xs.length + 1) cap1) (xs.length + 1) (xs.map (Value.int .i64) ++ [.int .i64 y]) → (w5.alloc (.cells #[.int .i64 y] 3)).grownBy w9 (u6 : Value).ownBlock → ∃ xs', xs'.length = i + 1 ∧ DL w0 w9 base C a zs cap (.slice (some ⟨gg, 0, none⟩) (xs.length + 1) cap1) xs') := fun gg cap1 w9 g1 g2 => ⟨xs ++ [y], by rw [List.length_append, HXL.out]; rfl, HPA.out.low (Below.grown (Below.refl _ _) g2 HSZ.out (fun g e => (HPA.out.own.lt g e).1)) (OwnL.snoc g1) (by simp)⟩
      clear hal HD HPA
      go_wp2_with (at_builtin; (refine wpList_append_lies _ rfl (.tmp 29) (.tmp 32) 24 rfl base 3 iS (.int .i64 0) 1 8 Try.underlying24 HIN.out.1 HIN.out.2.1 HIN.out.2.2.1 HIN.out.2.2.2 rfl (by omega) u6 xs.length (xs.map (Value.int .i64)) rfl hownA _ 1 1 [.int .i64 y] rfl rfl (news_int _ _ _ (by simp)) (one_int _) (by omega) (by unfold maxLen; omega) (by omega) HSZ.out _ rfl ?_; intro gg cap1 w9 hown1 hgrow hat hlt1; have HYY : Hid _ := HZ.out gg cap1 w9 hown1 hgrow; clear hown1 hgrow hat hlt1))
      go_roundw
      case rel => exact ⟨i + 1, by omega, by go_num, HYY⟩
      case measure => simp [intOf]; omega
end Go.Proofs.Ytdjfijkgmeapdaa
