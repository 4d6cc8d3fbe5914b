
/-
  A drawn script of a device: whatever the bytes, at most 1001 ops, in memory of its own. Conditions: the bytes are at most 1048576.
-/
import Derived.Test.YthfmggfohegpnaaRows
import Derived.Test.YthfmggfohegpnaaCop2
namespace Go.Proofs.Ythfmggfohegpnaa
open Go.ChangeShapes Go.WideShapes Go.ChangeAt Go.RowKit Go.Deep
set_option linter.unusedVariables false

set_option maxRecDepth 20000 in
set_option maxHeartbeats 1500000 in
theorem draw_dplay (w : World) (a : Option Addr) (zs : List Int) (cap n0 : Nat) (hs : Seg .u8 w a zs) (hb8 : ∀ z ∈ zs, (Lit.int .u8 z).wf = true) (hn : n0 ≤ 1048576) (hl : zs.length = n0) :
    Calls Try.prog 32 #[.slice a n0 cap] w fun e w' => ∃ (a' : Option Addr) (xs : List Cp) (n' c' : Nat), e = .returned (.slice a' n' c') ∧ Below w.heap.size w w' ∧ PI w' w.heap.size w'.heap.size a' xs ∧ xs.length = n' ∧ n' ≤ 1001 := by
  have HN : Hid (Calls Try.prog 52 #[.slice a n0 cap] w fun e w' => e = .returned (.pointer (some ⟨w.heap.size, 0, none⟩)) ∧ Cur w' w.heap.size a zs cap ∧ Below w.heap.size w w') := by
    have := draw_new w a zs cap hs hb8 (by omega)
    rw [hl] at this
    show Calls _ _ _ _ _
    simpa using this
  have hn' : n0 ≤ 1048576 := hn
  clear hs hb8 hl hn
  obtain ⟨iS, hi1, hi2, hi3, hi4⟩ := infoOP'
  have HIN : Hid (Try.prog.info? 54 = some iS ∧ iS.zero = some (.agg #[.int .i64 0, .int .u32 0]) ∧ iS.size = 2 ∧ iS.bytes = 16) := ⟨hi1, hi2, hi3, hi4⟩
  clear hi1 hi2 hi3 hi4
  go_enter Try.func32, Try.ntmps32
  go_wp2_with fail
  refine HN.out.mono ?_
  rintro e w1 ⟨rfl, hc1, hb1⟩
  have HC1 : Hid (Cur w1 w.heap.size a zs cap) := hc1
  have HB1 : Hid (Below w.heap.size w w1) := hb1
  have hB1 := hc1.lt
  clear hc1 hb1 HN
  go_wp2_with fail
  refine (size_80 _ _ _ _ hn').mono ?_
  rintro e w3' ⟨x, rfl, hx1, hx2, rfl⟩
  go_wp2_with fail
  refine (draw_below _ _ _ _ _ _ HC1.out hx1 (by omega)).mono ?_
  rintro e w4 ⟨y, rfl, hy0, hy1, hc4, ht4⟩
  obtain ⟨m, hm⟩ : ∃ m : Nat, (m : Int) = y := ⟨y.toNat, by omega⟩
  subst hm
  have hz4 := ht4.size
  have HC5 : Hid (Cur w4 w.heap.size a zs cap) := hc4
  have HB4 : Hid (Below w.heap.size w w4) := HB1.out.trans (ht4.below (by omega) HB1.out.size)
  clear hc4 ht4 HC1 HB1
  go_wp2_with fail
  refine (draw_ops _ _ _ _ _ m HC5.out (by omega)).mono ?_
  have hB4 := HC5.out.lt
  rintro e w5 ⟨v, xs, rfl, hl5, hd5⟩
  generalize hbs : w4.heap.size = base at hd5
  have HD5 : Hid (DOp w4 w5 base w.heap.size a zs cap v xs) := hd5
  have HX5 : Hid (xs.length ≤ 100) := (show xs.length ≤ 100 by omega)
  have hw5 : base ≤ w5.heap.size := by rw [← hbs]; exact hd5.ct.turn.size
  clear hd5 HC5 hl5
  go_wp2_with fail
  refine (draw_once _ _ _ _ _ _ HD5.out.ct.cur (by omega) (by omega)).mono ?_
  rintro e w6 ⟨q, rfl, hc6, ht6⟩
  have hz6 := ht6.size
  have HD5b : Hid (DOp w4 w6 base w.heap.size a zs cap v xs) := HD5.out.step hc6 ht6
  clear HD5 hc6 ht6
  cases q
  · have HD6 := HD5b
    have HX6 : Hid (xs.length ≤ 101) := (show xs.length ≤ 101 by have := HX5.out; omega)
    clear HD5b HX5
    go_wp2_with fail
    refine (draw_once _ _ _ _ _ _ HD6.out.ct.cur (by omega) (by omega)).mono ?_
    rintro e w8 ⟨q2, rfl, hc8, ht8⟩
    have HD8 : Hid (DOp w4 w8 base w.heap.size a zs cap v xs) := HD6.out.step hc8 ht8
    clear HD6 hc8 ht8
    cases q2
    · have HBW : Hid (Below w.heap.size w w8) := HB4.out.trans (HD8.out.ct.turn.below (by omega) (by omega))
      have HDO : Hid (OwnO w8 base v xs ∧ xs.length ≤ 1001) := ⟨HD8.out.own, by have := HX6.out; omega⟩
      clear HD8
      obtain ⟨a9, c9, e9, o9⟩ := HDO.out.1.pi
      have hxl := HDO.out.2
      subst e9
      go_wp2
      go_ret
      exact ⟨a9, xs, xs.length, c9, rfl, HBW.out, o9.wide (by omega) (Nat.le_refl _), rfl, hxl⟩
    · go_wp2_with fail
      refine (draw_below _ _ _ _ _ _ HD8.out.ct.cur (by omega) (by omega)).mono ?_
      rintro e w9 ⟨z9, rfl, hz90, hz91, hc9, ht9⟩
      have HD9 : Hid (DOp w4 w9 base w.heap.size a zs cap v xs) := HD8.out.step hc9 ht9
      have hw9 : w4.heap.size ≤ w9.heap.size := HD9.out.ct.turn.size
      clear HD8 hc9 ht9
      obtain ⟨m9, hm9⟩ : ∃ m9 : Nat, (m9 : Int) = 1000 + z9 := ⟨(1000 + z9).toNat, by omega⟩
      have hwm : IntKind.i64.wrap (1000 + z9) = (m9 : Int) := by rw [IntKind.wrap_i64]; omega
      have hsum : 1000 + z9 = (m9 : Int) := hm9.symm
      have hm1 : m9 ≤ 1001 := by omega
      clear HX6 hm9
      go_wp2_with fail
      refine (draw_ops _ _ _ _ _ m9 HD9.out.ct.cur hm1).mono ?_
      rintro e w10 ⟨v3, xs3, rfl, hl10, hd10⟩
      have HBW : Hid (Below w.heap.size w w10) := (HB4.out.trans (HD9.out.ct.turn.below (by omega) (by omega))).trans (hd10.ct.turn.below (by omega) (by omega))
      have HDO : Hid (OwnO w10 w9.heap.size v3 xs3 ∧ xs3.length ≤ 1001) := ⟨hd10.own, by omega⟩
      clear HD9 hd10 hwm hsum hl10
      obtain ⟨a9, c9, e9, o9⟩ := HDO.out.1.pi
      have hxl := HDO.out.2
      subst e9
      go_wp2
      go_ret
      exact ⟨a9, xs3, xs3.length, c9, rfl, HBW.out, o9.wide (by omega) (Nat.le_refl _), rfl, hxl⟩
  · have HO : Hid (Own .i64 (w6.alloc (.cells #[.int .i64 (-1), .int .i64 3] 3)) w6.heap.size [-1, 3]) := own_litD .i64 w6 3 [-1, 3]
    have hzB : w.heap.size < w6.heap.size := by omega
    have HD6a : Hid (DOp w4 (w6.alloc (.cells #[.int .i64 (-1), .int .i64 3] 3)) base w.heap.size a zs cap v xs) := HD5b.out.below ((Below.refl _ _).alloc (Nat.le_refl _) _)
    clear HD5b
    go_wp2_with fail
    refine (draw_pick _ _ _ _ _ _ [-1, 3] HD6a.out.ct.cur HO.out (by omega) (by simp) (by simp)).mono ?_
    rintro e w7 ⟨z7, rfl, hz7, hc7, ht7⟩
    have hs7 : base ≤ w7.heap.size := by have := ht7.size; simp at this; omega
    have HPA : Hid (DOp w4 (w7.alloc (.cells #[.int .i64 z7, .int .u32 0] 54)) base w.heap.size a zs cap v xs) := (HD6a.out.step hc7 ht7).below ((Below.refl _ _).alloc (Nat.le_refl _) _)
    clear HD6a HO hz7 hc7 ht7
    have hownA : (w7.alloc (.cells #[.int .i64 z7, .int .u32 0] 54)).ownsRow base 54 2 v xs.length (cpCells xs) := HPA.out.own
    have HSZ : Hid (base ≤ (w7.alloc (.cells #[.int .i64 z7, .int .u32 0] 54)).heap.size) := (show base ≤ (w7.alloc (.cells #[.int .i64 z7, .int .u32 0] 54)).heap.size by simp; omega)
    have hsl : xs.length ≤ 100 := HX5.out
    have HZ : Hid (∀ (gg cap1 : Nat) (w9 : World), w9.ownsRow base 54 2 (.slice (some ⟨gg, 0, none⟩) (xs.length + 1) cap1) (xs.length + 1) (cpCells xs ++ [.int .i64 z7, .int .u32 0]) → (w7.alloc (.cells #[.int .i64 z7, .int .u32 0] 54)).grownBy w9 v.ownBlock → DOp w4 w9 base w.heap.size a zs cap (.slice (some ⟨gg, 0, none⟩) (xs.length + 1) cap1) (xs ++ [(z7, 0)])) := fun gg cap1 w9 g1 g2 => HPA.out.low (Below.grown (Below.refl _ _) g2 HSZ.out (fun g e => (HPA.out.own_lt g e).1)) (OwnO.snoc g1) (by simp)
    clear HPA
    go_wp2_with (first | fail | (at_builtin; (refine wpList_append_lies _ rfl (.tmp 15) (.tmp 20) 43 rfl base 54 iS (.agg #[.int .i64 0, .int .u32 0]) 2 16 Try.underlying43 HIN.out.1 HIN.out.2.1 HIN.out.2.2.1 HIN.out.2.2.2 rfl (by omega) v xs.length (cpCells xs) rfl hownA _ 1 1 [.int .i64 z7, .int .u32 0] rfl rfl (news_op _ _ _ _ (by simp)) (one_sd _ _) (by omega) (by unfold maxLen; omega) (by omega) HSZ.out _ rfl ?_; intro gg cap1 w9 hown1 hgrow hat hlt1; have HD6 : Hid (DOp w4 w9 base w.heap.size a zs cap (.slice (some ⟨gg, 0, none⟩) (xs.length + 1) cap1) (xs ++ [(z7, 0)])) := HZ.out gg cap1 w9 hown1 hgrow; clear hown1 hgrow hat hlt1)))
    have HX6 : Hid ((xs ++ [(z7, (0 : Int))]).length ≤ 101) := (show (xs ++ [(z7, (0 : Int))]).length ≤ 101 by rw [List.length_append]; simp; omega)
    clear HZ HSZ hownA HX5 hsl
    generalize (.slice (some ⟨gg, 0, none⟩) (xs.length + 1) cap1 : Value) = v' at HD6 ⊢
    generalize xs ++ [(z7, (0 : Int))] = xs' at HD6 HX6
    go_wp2_with fail
    refine (draw_once _ _ _ _ _ _ HD6.out.ct.cur (by omega) (by omega)).mono ?_
    rintro e w8 ⟨q2, rfl, hc8, ht8⟩
    have HD8 : Hid (DOp w4 w8 base w.heap.size a zs cap v' xs') := HD6.out.step hc8 ht8
    clear HD6 hc8 ht8
    cases q2
    · have HBW : Hid (Below w.heap.size w w8) := HB4.out.trans (HD8.out.ct.turn.below (by omega) (by omega))
      have HDO : Hid (OwnO w8 base v' xs' ∧ xs'.length ≤ 1001) := ⟨HD8.out.own, by have := HX6.out; omega⟩
      clear HD8
      obtain ⟨a9, c9, e9, o9⟩ := HDO.out.1.pi
      have hxl := HDO.out.2
      subst e9
      go_wp2
      go_ret
      exact ⟨a9, xs', xs'.length, c9, rfl, HBW.out, o9.wide (by omega) (Nat.le_refl _), rfl, hxl⟩
    · go_wp2_with fail
      refine (draw_below _ _ _ _ _ _ HD8.out.ct.cur (by omega) (by omega)).mono ?_
      rintro e w9 ⟨z9, rfl, hz90, hz91, hc9, ht9⟩
      have HD9 : Hid (DOp w4 w9 base w.heap.size a zs cap v' xs') := HD8.out.step hc9 ht9
      have hw9 : w4.heap.size ≤ w9.heap.size := HD9.out.ct.turn.size
      clear HD8 hc9 ht9
      obtain ⟨m9, hm9⟩ : ∃ m9 : Nat, (m9 : Int) = 1000 + z9 := ⟨(1000 + z9).toNat, by omega⟩
      have hwm : IntKind.i64.wrap (1000 + z9) = (m9 : Int) := by rw [IntKind.wrap_i64]; omega
      have hsum : 1000 + z9 = (m9 : Int) := hm9.symm
      have hm1 : m9 ≤ 1001 := by omega
      clear HX6 hm9
      go_wp2_with fail
      refine (draw_ops _ _ _ _ _ m9 HD9.out.ct.cur hm1).mono ?_
      rintro e w10 ⟨v3, xs3, rfl, hl10, hd10⟩
      have HBW : Hid (Below w.heap.size w w10) := (HB4.out.trans (HD9.out.ct.turn.below (by omega) (by omega))).trans (hd10.ct.turn.below (by omega) (by omega))
      have HDO : Hid (OwnO w10 w9.heap.size v3 xs3 ∧ xs3.length ≤ 1001) := ⟨hd10.own, by omega⟩
      clear HD9 hd10 hwm hsum hl10
      obtain ⟨a9, c9, e9, o9⟩ := HDO.out.1.pi
      have hxl := HDO.out.2
      subst e9
      go_wp2
      go_ret
      exact ⟨a9, xs3, xs3.length, c9, rfl, HBW.out, o9.wide (by omega) (Nat.le_refl _), rfl, hxl⟩
end Go.Proofs.Ythfmggfohegpnaa
