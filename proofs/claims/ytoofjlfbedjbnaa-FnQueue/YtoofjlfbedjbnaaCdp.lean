
/-
  A drawn script of a channel: whatever the bytes, a row and at most 1001 ops, in memory of its own. Conditions: the bytes are at most 1048576.
-/
import Derived.Test.YtoofjlfbedjbnaaRows
import Derived.Test.YtoofjlfbedjbnaaCop1
namespace Go.Proofs.Ytoofjlfbedjbnaa
open Go.ChangeShapes Go.WideShapes Go.ChangeAt Go.RowKit Go.Deep
set_option linter.unusedVariables false

theorem OwnO.turn' {w wr : World} {base B : Nat} {a : Option Addr} {zs : List Int} {cap : Nat} {v : Value} {xs : List Cp} (h : DOp w wr base B a zs cap v xs) : OwnO wr base v xs := h.own
set_option maxRecDepth 20000 in
set_option maxHeartbeats 1500000 in
theorem draw_play (w : World) (a : Option Addr) (zs : List Int) (cap n0 : Nat) (hs : Seg .u8 w a zs) (hb8 : ∀ z ∈ zs, (Lit.int .u8 z).wf = true) (hn : n0 ≤ 1048576) (hl : zs.length = n0) :
    Calls Try.prog 54 #[.slice a n0 cap] w fun e w' => ∃ (k f t d : Int) (a' : Option Addr) (xs : List Cp) (n' c' : Nat), e = .returned (.tuple #[crw k f t d, .slice a' n' c']) ∧ Below w.heap.size w w' ∧ PI w' w.heap.size w'.heap.size a' xs ∧ xs.length = n' ∧ n' ≤ 1001 := by
  have HN : Hid (Calls Try.prog 79 #[.slice a n0 cap] (w.alloc (.cells (crow 0 0 0 0) 25)) fun e w' => e = .returned (.pointer (some ⟨w.heap.size + 1, 0, none⟩)) ∧ Cur w' (w.heap.size + 1) a zs cap ∧ Below (w.heap.size + 1) (w.alloc (.cells (crow 0 0 0 0) 25)) w') := by
    have := draw_new (w.alloc (.cells (crow 0 0 0 0) 25)) a zs cap (hs.below ((Below.refl _ _).alloc (Nat.le_refl _) _)) hb8 (by omega)
    rw [hl] at this
    show Calls _ _ _ _ _
    simpa using this
  have K0 : Hid (Bk (w.alloc (.cells (crow 0 0 0 0) 25)) w.heap.size (crow 0 0 0 0)) := Bk.new _ _ _ _ rfl
  have HB0 : Hid (Below w.heap.size w (w.alloc (.cells (crow 0 0 0 0) 25))) := (Below.refl _ w).alloc (Nat.le_refl _) _
  have hn' : n0 ≤ 1048576 := hn
  clear hs hb8 hl hn
  obtain ⟨iS, hi1, hi2, hi3, hi4⟩ := infoOP'
  have HIN : Hid (Try.prog.info? 76 = some iS ∧ iS.zero = some (.agg #[.int .i64 0, .int .u32 0]) ∧ iS.size = 2 ∧ iS.bytes = 16) := ⟨hi1, hi2, hi3, hi4⟩
  clear hi1 hi2 hi3 hi4
  go_enter Try.func54, Try.ntmps54
  go_wp2_with fail
  refine HN.out.mono ?_
  rintro e w1 ⟨rfl, hc1, hb1⟩
  generalize hBB : w.heap.size + 1 = B at hc1 hb1
  have hBw : w.heap.size < B := by omega
  have HC1 : Hid (Cur w1 B a zs cap) := hc1
  have HB1 : Hid (Below w.heap.size w w1) := HB0.out.trans (hb1.mono (by omega))
  have K1 : Hid (Bk w1 w.heap.size (crow 0 0 0 0)) := K0.out.low hb1 (by omega)
  have hB1 := hc1.lt
  clear hc1 hb1 K0 HB0 HN
  go_wp2_with fail
  refine (draw_anyr _ _ _ _ _ HC1.out).mono ?_
  rintro e w2 ⟨k, f, t, d, rfl, hc2, ht2⟩
  have hz2 := ht2.size
  have HC4 : Hid (Cur (w2.alloc (.cells (crow k f t d) 25)) B a zs cap) := hc2.below ((Below.refl _ _).alloc (Nat.le_refl _) _)
  have HB4 : Hid (Below w.heap.size w (w2.alloc (.cells (crow k f t d) 25))) := (HB1.out.trans (ht2.below (by omega) HB1.out.size)).alloc (Nat.le_trans HB1.out.size hz2) _
  have K4 : Hid (Bk (w2.alloc (.cells (crow k f t d) 25)) w.heap.size (crow 0 0 0 0)) := (K1.out.turn ht2 (by omega)).alloc _
  have P4 : Hid (Bk (w2.alloc (.cells (crow k f t d) 25)) w2.heap.size (crow k f t d)) := Bk.new _ _ _ _ rfl
  clear hc2 ht2 HC1 HB1 K1
  go_wp2_with fail
  refine (size_80 _ _ _ _ hn').mono ?_
  revert HC4 HB4 K4 P4
  generalize hA2 : (w2.alloc (.cells (crow k f t d) 25)) = w3
  have hP3 : w2.heap.size < w3.heap.size := by rw [← hA2]; simp
  generalize w2.heap.size = P at hP3 hz2 ⊢
  intro HC4 HB4 K4 P4
  rintro e w3' ⟨x, rfl, hx1, hx2, rfl⟩
  go_wp2_with fail
  refine (draw_below _ _ _ _ _ _ HC4.out hx1 (by omega)).mono ?_
  rintro e w4 ⟨y, rfl, hy0, hy1, hc4, ht4⟩
  obtain ⟨m, hm⟩ : ∃ m : Nat, (m : Int) = y := ⟨y.toNat, by omega⟩
  subst hm
  have hz4 := ht4.size
  have hP4 : P < w4.heap.size := Nat.lt_of_lt_of_le P4.out.lt hz4
  have HC5 : Hid (Cur w4 B a zs cap) := hc4
  replace HB4 : Hid (Below w.heap.size w w4) := HB4.out.trans (ht4.below (by omega) HB4.out.size)
  replace K4 : Hid (Bk w4 w.heap.size (crow 0 0 0 0)) := K4.out.turn ht4 (by omega)
  replace P4 : Hid (Bk w4 P (crow k f t d)) := P4.out.turn ht4 (by omega)
  clear hc4 ht4 HC4 hA2
  go_wp2_with fail
  refine (draw_ops _ _ _ _ _ m HC5.out (by omega)).mono ?_
  have hB4 := HC5.out.lt
  have hPw : w.heap.size < P := by omega
  rintro e w5 ⟨v, xs, rfl, hl5, hd5⟩
  generalize hbs : w4.heap.size = base at hd5
  have HD5 : Hid (DOp w4 w5 base B a zs cap v xs) := hd5
  have HX5 : Hid (xs.length ≤ 100) := (show xs.length ≤ 100 by omega)
  have hw5 : base ≤ w5.heap.size := by rw [← hbs]; exact hd5.ct.turn.size
  clear hd5 HC5 hl5
  go_wp2_with fail
  refine (draw_once _ _ _ _ _ _ HD5.out.ct.cur (by omega) (by omega)).mono ?_
  rintro e w6 ⟨q, rfl, hc6, ht6⟩
  have hz6 := ht6.size
  have HD5b : Hid (DOp w4 w6 base B a zs cap v xs) := HD5.out.step hc6 ht6
  clear HD5 hc6 ht6
  cases q
  · have HD6 := HD5b
    have HX6 : Hid (xs.length ≤ 101) := (show xs.length ≤ 101 by have := HX5.out; omega)
    clear HD5b HX5
    go_wp2_with fail
    refine (draw_once _ _ _ _ _ _ HD6.out.ct.cur (by omega) (by omega)).mono ?_
    rintro e w8 ⟨q2, rfl, hc8, ht8⟩
    have HD8 : Hid (DOp w4 w8 base B a zs cap v xs) := HD6.out.step hc8 ht8
    clear HD6 hc8 ht8
    cases q2
    · have K : Hid (Bk w8 w.heap.size (crow 0 0 0 0)) := K4.out.turn HD8.out.ct.turn (by omega)
      have PP : Hid (Bk w8 P (crow k f t d)) := P4.out.turn HD8.out.ct.turn (by omega)
      have HBW : Hid (Below w.heap.size w w8) := HB4.out.trans (HD8.out.ct.turn.below (by omega) (by omega))
      have HDO : Hid (OwnO w8 base v xs ∧ xs.length ≤ 1001) := ⟨HD8.out.own, by have := HX6.out; omega⟩
      clear HD8
      have p0 := K.out.cell 0 _ rfl
      have r0 := PP.out.cell 0 _ rfl
      have p1 := K.out.cell 1 _ rfl
      have r1 := PP.out.cell 1 _ rfl
      have p2 := K.out.cell 2 _ rfl
      have r2 := PP.out.cell 2 _ rfl
      have p3 := K.out.cell 3 _ rfl
      have r3 := PP.out.cell 3 _ rfl
      have pf := K.out.free
      have k9 : Bk ((((w8.setCell ⟨w.heap.size, 0, none⟩ (.int .i64 k)).setCell ⟨w.heap.size, 1, none⟩ (.int .i64 f)).setCell ⟨w.heap.size, 2, none⟩ (.int .i64 t)).setCell ⟨w.heap.size, 3, none⟩ (.int .i64 d)) (w.heap.size) (crow k f t d) := ((((K.out).set 0 (.int .i64 k) (by simp) (cs' := crow k 0 0 0) rfl).set 1 (.int .i64 f) (by simp) (cs' := crow k f 0 0) rfl).set 2 (.int .i64 t) (by simp) (cs' := crow k f t 0) rfl).set 3 (.int .i64 d) (by simp) (cs' := crow k f t d) rfl
      have hbt : Betw w.heap.size (w.heap.size + 1) w8 ((((w8.setCell ⟨w.heap.size, 0, none⟩ (.int .i64 k)).setCell ⟨w.heap.size, 1, none⟩ (.int .i64 f)).setCell ⟨w.heap.size, 2, none⟩ (.int .i64 t)).setCell ⟨w.heap.size, 3, none⟩ (.int .i64 d)) := (((((Betw.refl w.heap.size (w.heap.size + 1) w8)).setCell (p := ⟨w.heap.size, 0, none⟩) (Nat.le_refl _) (by simp) _).setCell (p := ⟨w.heap.size, 1, none⟩) (Nat.le_refl _) (by simp) _).setCell (p := ⟨w.heap.size, 2, none⟩) (Nat.le_refl _) (by simp) _).setCell (p := ⟨w.heap.size, 3, none⟩) (Nat.le_refl _) (by simp) _
      have hb9 : Below w.heap.size w ((((w8.setCell ⟨w.heap.size, 0, none⟩ (.int .i64 k)).setCell ⟨w.heap.size, 1, none⟩ (.int .i64 f)).setCell ⟨w.heap.size, 2, none⟩ (.int .i64 t)).setCell ⟨w.heap.size, 3, none⟩ (.int .i64 d)) := HBW.out.trans (hbt.below (Nat.le_refl _) HBW.out.size)
      obtain ⟨a9, c9, e9, o9⟩ := HDO.out.1.pi
      have ho9 : PI ((((w8.setCell ⟨w.heap.size, 0, none⟩ (.int .i64 k)).setCell ⟨w.heap.size, 1, none⟩ (.int .i64 f)).setCell ⟨w.heap.size, 2, none⟩ (.int .i64 t)).setCell ⟨w.heap.size, 3, none⟩ (.int .i64 d)) w.heap.size ((((w8.setCell ⟨w.heap.size, 0, none⟩ (.int .i64 k)).setCell ⟨w.heap.size, 1, none⟩ (.int .i64 f)).setCell ⟨w.heap.size, 2, none⟩ (.int .i64 t)).setCell ⟨w.heap.size, 3, none⟩ (.int .i64 d)).heap.size a9 xs := (o9.betw hbt (.inr (by omega))).wide (by omega) hbt.size
      have hxl := HDO.out.2
      subst e9
      go_wp2
      clear p0 r0 p1 r1 p2 r2 p3 r3 pf hbt
      revert k9 hb9 ho9
      generalize ((((w8.setCell ⟨w.heap.size, 0, none⟩ (.int .i64 k)).setCell ⟨w.heap.size, 1, none⟩ (.int .i64 f)).setCell ⟨w.heap.size, 2, none⟩ (.int .i64 t)).setCell ⟨w.heap.size, 3, none⟩ (.int .i64 d)) = Wf
      intro k9 hb9 ho9
      have q0 := k9.cell 0 _ rfl
      have q1 := k9.cell 1 _ rfl
      have q2 := k9.cell 2 _ rfl
      have q3 := k9.cell 3 _ rfl
      exact bodyPost_ret (v := .tuple #[crw k f t d, .slice a9 xs.length c9]) (by simp [results, Try.results54, go_sem, q0, q1, q2, q3]) rfl ⟨k, f, t, d, a9, xs, xs.length, c9, rfl, hb9, ho9, rfl, hxl⟩
    · go_wp2_with fail
      refine (draw_below _ _ _ _ _ _ HD8.out.ct.cur (by omega) (by omega)).mono ?_
      rintro e w9 ⟨z9, rfl, hz90, hz91, hc9, ht9⟩
      have HD9 : Hid (DOp w4 w9 base B a zs cap v xs) := HD8.out.step hc9 ht9
      have hw9 : w4.heap.size ≤ w9.heap.size := HD9.out.ct.turn.size
      clear HD8 hc9 ht9
      obtain ⟨m9, hm9⟩ : ∃ m9 : Nat, (m9 : Int) = 1000 + z9 := ⟨(1000 + z9).toNat, by omega⟩
      have hwm : IntKind.i64.wrap (1000 + z9) = (m9 : Int) := by rw [IntKind.wrap_i64]; omega
      have hsum : 1000 + z9 = (m9 : Int) := hm9.symm
      have hm1 : m9 ≤ 1001 := by omega
      clear HX6 hm9
      go_wp2_with fail
      refine (draw_ops _ _ _ _ _ m9 HD9.out.ct.cur hm1).mono ?_
      rintro e w10 ⟨v3, xs3, rfl, hl10, hd10⟩
      have K : Hid (Bk w10 w.heap.size (crow 0 0 0 0)) := (K4.out.turn HD9.out.ct.turn (by omega)).turn hd10.ct.turn (by omega)
      have PP : Hid (Bk w10 P (crow k f t d)) := (P4.out.turn HD9.out.ct.turn (by omega)).turn hd10.ct.turn (by omega)
      have HBW : Hid (Below w.heap.size w w10) := (HB4.out.trans (HD9.out.ct.turn.below (by omega) (by omega))).trans (hd10.ct.turn.below (by omega) (by omega))
      have HDO : Hid (OwnO w10 w9.heap.size v3 xs3 ∧ xs3.length ≤ 1001) := ⟨hd10.own, by omega⟩
      clear HD9 hd10 hwm hsum hl10
      have p0 := K.out.cell 0 _ rfl
      have r0 := PP.out.cell 0 _ rfl
      have p1 := K.out.cell 1 _ rfl
      have r1 := PP.out.cell 1 _ rfl
      have p2 := K.out.cell 2 _ rfl
      have r2 := PP.out.cell 2 _ rfl
      have p3 := K.out.cell 3 _ rfl
      have r3 := PP.out.cell 3 _ rfl
      have pf := K.out.free
      have k9 : Bk ((((w10.setCell ⟨w.heap.size, 0, none⟩ (.int .i64 k)).setCell ⟨w.heap.size, 1, none⟩ (.int .i64 f)).setCell ⟨w.heap.size, 2, none⟩ (.int .i64 t)).setCell ⟨w.heap.size, 3, none⟩ (.int .i64 d)) (w.heap.size) (crow k f t d) := ((((K.out).set 0 (.int .i64 k) (by simp) (cs' := crow k 0 0 0) rfl).set 1 (.int .i64 f) (by simp) (cs' := crow k f 0 0) rfl).set 2 (.int .i64 t) (by simp) (cs' := crow k f t 0) rfl).set 3 (.int .i64 d) (by simp) (cs' := crow k f t d) rfl
      have hbt : Betw w.heap.size (w.heap.size + 1) w10 ((((w10.setCell ⟨w.heap.size, 0, none⟩ (.int .i64 k)).setCell ⟨w.heap.size, 1, none⟩ (.int .i64 f)).setCell ⟨w.heap.size, 2, none⟩ (.int .i64 t)).setCell ⟨w.heap.size, 3, none⟩ (.int .i64 d)) := (((((Betw.refl w.heap.size (w.heap.size + 1) w10)).setCell (p := ⟨w.heap.size, 0, none⟩) (Nat.le_refl _) (by simp) _).setCell (p := ⟨w.heap.size, 1, none⟩) (Nat.le_refl _) (by simp) _).setCell (p := ⟨w.heap.size, 2, none⟩) (Nat.le_refl _) (by simp) _).setCell (p := ⟨w.heap.size, 3, none⟩) (Nat.le_refl _) (by simp) _
      have hb9 : Below w.heap.size w ((((w10.setCell ⟨w.heap.size, 0, none⟩ (.int .i64 k)).setCell ⟨w.heap.size, 1, none⟩ (.int .i64 f)).setCell ⟨w.heap.size, 2, none⟩ (.int .i64 t)).setCell ⟨w.heap.size, 3, none⟩ (.int .i64 d)) := HBW.out.trans (hbt.below (Nat.le_refl _) HBW.out.size)
      obtain ⟨a9, c9, e9, o9⟩ := HDO.out.1.pi
      have ho9 : PI ((((w10.setCell ⟨w.heap.size, 0, none⟩ (.int .i64 k)).setCell ⟨w.heap.size, 1, none⟩ (.int .i64 f)).setCell ⟨w.heap.size, 2, none⟩ (.int .i64 t)).setCell ⟨w.heap.size, 3, none⟩ (.int .i64 d)) w.heap.size ((((w10.setCell ⟨w.heap.size, 0, none⟩ (.int .i64 k)).setCell ⟨w.heap.size, 1, none⟩ (.int .i64 f)).setCell ⟨w.heap.size, 2, none⟩ (.int .i64 t)).setCell ⟨w.heap.size, 3, none⟩ (.int .i64 d)).heap.size a9 xs3 := (o9.betw hbt (.inr (by omega))).wide (by omega) hbt.size
      have hxl := HDO.out.2
      subst e9
      go_wp2
      clear p0 r0 p1 r1 p2 r2 p3 r3 pf hbt
      revert k9 hb9 ho9
      generalize ((((w10.setCell ⟨w.heap.size, 0, none⟩ (.int .i64 k)).setCell ⟨w.heap.size, 1, none⟩ (.int .i64 f)).setCell ⟨w.heap.size, 2, none⟩ (.int .i64 t)).setCell ⟨w.heap.size, 3, none⟩ (.int .i64 d)) = Wf
      intro k9 hb9 ho9
      have q0 := k9.cell 0 _ rfl
      have q1 := k9.cell 1 _ rfl
      have q2 := k9.cell 2 _ rfl
      have q3 := k9.cell 3 _ rfl
      exact bodyPost_ret (v := .tuple #[crw k f t d, .slice a9 xs3.length c9]) (by simp [results, Try.results54, go_sem, q0, q1, q2, q3]) rfl ⟨k, f, t, d, a9, xs3, xs3.length, c9, rfl, hb9, ho9, rfl, hxl⟩
  · have HO : Hid (Own .i64 (w6.alloc (.cells #[.int .i64 (-1), .int .i64 4] 3)) w6.heap.size [-1, 4]) := own_litD .i64 w6 3 [-1, 4]
    have hzB : B < w6.heap.size := by omega
    have HD6a : Hid (DOp w4 (w6.alloc (.cells #[.int .i64 (-1), .int .i64 4] 3)) base B a zs cap v xs) := HD5b.out.below ((Below.refl _ _).alloc (Nat.le_refl _) _)
    clear HD5b
    go_wp2_with fail
    refine (draw_pick _ _ _ _ _ _ [-1, 4] HD6a.out.ct.cur HO.out (by omega) (by simp) (by simp)).mono ?_
    rintro e w7 ⟨z7, rfl, hz7, hc7, ht7⟩
    have hs7 : base ≤ w7.heap.size := by have := ht7.size; simp at this; omega
    have HPA : Hid (DOp w4 (w7.alloc (.cells #[.int .i64 z7, .int .u32 0] 76)) base B a zs cap v xs) := (HD6a.out.step hc7 ht7).below ((Below.refl _ _).alloc (Nat.le_refl _) _)
    clear HD6a HO hz7 hc7 ht7
    have hownA : (w7.alloc (.cells #[.int .i64 z7, .int .u32 0] 76)).ownsRow base 76 2 v xs.length (cpCells xs) := HPA.out.own
    have HSZ : Hid (base ≤ (w7.alloc (.cells #[.int .i64 z7, .int .u32 0] 76)).heap.size) := (show base ≤ (w7.alloc (.cells #[.int .i64 z7, .int .u32 0] 76)).heap.size by simp; omega)
    have hsl : xs.length ≤ 100 := HX5.out
    have HZ : Hid (∀ (gg cap1 : Nat) (w9 : World), w9.ownsRow base 76 2 (.slice (some ⟨gg, 0, none⟩) (xs.length + 1) cap1) (xs.length + 1) (cpCells xs ++ [.int .i64 z7, .int .u32 0]) → (w7.alloc (.cells #[.int .i64 z7, .int .u32 0] 76)).grownBy w9 v.ownBlock → DOp w4 w9 base B a zs cap (.slice (some ⟨gg, 0, none⟩) (xs.length + 1) cap1) (xs ++ [(z7, 0)])) := fun gg cap1 w9 g1 g2 => HPA.out.low (Below.grown (Below.refl _ _) g2 HSZ.out (fun g e => (HPA.out.own_lt g e).1)) (OwnO.snoc g1) (by simp)
    clear HPA
    go_wp2_with (first | fail | (at_builtin; (refine wpList_append_lies _ rfl (.tmp 19) (.tmp 24) 64 rfl base 76 iS (.agg #[.int .i64 0, .int .u32 0]) 2 16 Try.underlying64 HIN.out.1 HIN.out.2.1 HIN.out.2.2.1 HIN.out.2.2.2 rfl (by omega) v xs.length (cpCells xs) rfl hownA _ 1 1 [.int .i64 z7, .int .u32 0] rfl rfl (news_op _ _ _ _ (by simp)) (one_sd _ _) (by omega) (by unfold maxLen; omega) (by omega) HSZ.out _ rfl ?_; intro gg cap1 w9 hown1 hgrow hat hlt1; have HD6 : Hid (DOp w4 w9 base B a zs cap (.slice (some ⟨gg, 0, none⟩) (xs.length + 1) cap1) (xs ++ [(z7, 0)])) := HZ.out gg cap1 w9 hown1 hgrow; clear hown1 hgrow hat hlt1)))
    have HX6 : Hid ((xs ++ [(z7, (0 : Int))]).length ≤ 101) := (show (xs ++ [(z7, (0 : Int))]).length ≤ 101 by rw [List.length_append]; simp; omega)
    clear HZ HSZ hownA HX5 hsl
    generalize (.slice (some ⟨gg, 0, none⟩) (xs.length + 1) cap1 : Value) = v' at HD6 ⊢
    generalize xs ++ [(z7, (0 : Int))] = xs' at HD6 HX6
    go_wp2_with fail
    refine (draw_once _ _ _ _ _ _ HD6.out.ct.cur (by omega) (by omega)).mono ?_
    rintro e w8 ⟨q2, rfl, hc8, ht8⟩
    have HD8 : Hid (DOp w4 w8 base B a zs cap v' xs') := HD6.out.step hc8 ht8
    clear HD6 hc8 ht8
    cases q2
    · have K : Hid (Bk w8 w.heap.size (crow 0 0 0 0)) := K4.out.turn HD8.out.ct.turn (by omega)
      have PP : Hid (Bk w8 P (crow k f t d)) := P4.out.turn HD8.out.ct.turn (by omega)
      have HBW : Hid (Below w.heap.size w w8) := HB4.out.trans (HD8.out.ct.turn.below (by omega) (by omega))
      have HDO : Hid (OwnO w8 base v' xs' ∧ xs'.length ≤ 1001) := ⟨HD8.out.own, by have := HX6.out; omega⟩
      clear HD8
      have p0 := K.out.cell 0 _ rfl
      have r0 := PP.out.cell 0 _ rfl
      have p1 := K.out.cell 1 _ rfl
      have r1 := PP.out.cell 1 _ rfl
      have p2 := K.out.cell 2 _ rfl
      have r2 := PP.out.cell 2 _ rfl
      have p3 := K.out.cell 3 _ rfl
      have r3 := PP.out.cell 3 _ rfl
      have pf := K.out.free
      have k9 : Bk ((((w8.setCell ⟨w.heap.size, 0, none⟩ (.int .i64 k)).setCell ⟨w.heap.size, 1, none⟩ (.int .i64 f)).setCell ⟨w.heap.size, 2, none⟩ (.int .i64 t)).setCell ⟨w.heap.size, 3, none⟩ (.int .i64 d)) (w.heap.size) (crow k f t d) := ((((K.out).set 0 (.int .i64 k) (by simp) (cs' := crow k 0 0 0) rfl).set 1 (.int .i64 f) (by simp) (cs' := crow k f 0 0) rfl).set 2 (.int .i64 t) (by simp) (cs' := crow k f t 0) rfl).set 3 (.int .i64 d) (by simp) (cs' := crow k f t d) rfl
      have hbt : Betw w.heap.size (w.heap.size + 1) w8 ((((w8.setCell ⟨w.heap.size, 0, none⟩ (.int .i64 k)).setCell ⟨w.heap.size, 1, none⟩ (.int .i64 f)).setCell ⟨w.heap.size, 2, none⟩ (.int .i64 t)).setCell ⟨w.heap.size, 3, none⟩ (.int .i64 d)) := (((((Betw.refl w.heap.size (w.heap.size + 1) w8)).setCell (p := ⟨w.heap.size, 0, none⟩) (Nat.le_refl _) (by simp) _).setCell (p := ⟨w.heap.size, 1, none⟩) (Nat.le_refl _) (by simp) _).setCell (p := ⟨w.heap.size, 2, none⟩) (Nat.le_refl _) (by simp) _).setCell (p := ⟨w.heap.size, 3, none⟩) (Nat.le_refl _) (by simp) _
      have hb9 : Below w.heap.size w ((((w8.setCell ⟨w.heap.size, 0, none⟩ (.int .i64 k)).setCell ⟨w.heap.size, 1, none⟩ (.int .i64 f)).setCell ⟨w.heap.size, 2, none⟩ (.int .i64 t)).setCell ⟨w.heap.size, 3, none⟩ (.int .i64 d)) := HBW.out.trans (hbt.below (Nat.le_refl _) HBW.out.size)
      obtain ⟨a9, c9, e9, o9⟩ := HDO.out.1.pi
      have ho9 : PI ((((w8.setCell ⟨w.heap.size, 0, none⟩ (.int .i64 k)).setCell ⟨w.heap.size, 1, none⟩ (.int .i64 f)).setCell ⟨w.heap.size, 2, none⟩ (.int .i64 t)).setCell ⟨w.heap.size, 3, none⟩ (.int .i64 d)) w.heap.size ((((w8.setCell ⟨w.heap.size, 0, none⟩ (.int .i64 k)).setCell ⟨w.heap.size, 1, none⟩ (.int .i64 f)).setCell ⟨w.heap.size, 2, none⟩ (.int .i64 t)).setCell ⟨w.heap.size, 3, none⟩ (.int .i64 d)).heap.size a9 xs' := (o9.betw hbt (.inr (by omega))).wide (by omega) hbt.size
      have hxl := HDO.out.2
      subst e9
      go_wp2
      clear p0 r0 p1 r1 p2 r2 p3 r3 pf hbt
      revert k9 hb9 ho9
      generalize ((((w8.setCell ⟨w.heap.size, 0, none⟩ (.int .i64 k)).setCell ⟨w.heap.size, 1, none⟩ (.int .i64 f)).setCell ⟨w.heap.size, 2, none⟩ (.int .i64 t)).setCell ⟨w.heap.size, 3, none⟩ (.int .i64 d)) = Wf
      intro k9 hb9 ho9
      have q0 := k9.cell 0 _ rfl
      have q1 := k9.cell 1 _ rfl
      have q2 := k9.cell 2 _ rfl
      have q3 := k9.cell 3 _ rfl
      exact bodyPost_ret (v := .tuple #[crw k f t d, .slice a9 xs'.length c9]) (by simp [results, Try.results54, go_sem, q0, q1, q2, q3]) rfl ⟨k, f, t, d, a9, xs', xs'.length, c9, rfl, hb9, ho9, rfl, hxl⟩
    · go_wp2_with fail
      refine (draw_below _ _ _ _ _ _ HD8.out.ct.cur (by omega) (by omega)).mono ?_
      rintro e w9 ⟨z9, rfl, hz90, hz91, hc9, ht9⟩
      have HD9 : Hid (DOp w4 w9 base B a zs cap v' xs') := HD8.out.step hc9 ht9
      have hw9 : w4.heap.size ≤ w9.heap.size := HD9.out.ct.turn.size
      clear HD8 hc9 ht9
      obtain ⟨m9, hm9⟩ : ∃ m9 : Nat, (m9 : Int) = 1000 + z9 := ⟨(1000 + z9).toNat, by omega⟩
      have hwm : IntKind.i64.wrap (1000 + z9) = (m9 : Int) := by rw [IntKind.wrap_i64]; omega
      have hsum : 1000 + z9 = (m9 : Int) := hm9.symm
      have hm1 : m9 ≤ 1001 := by omega
      clear HX6 hm9
      go_wp2_with fail
      refine (draw_ops _ _ _ _ _ m9 HD9.out.ct.cur hm1).mono ?_
      rintro e w10 ⟨v3, xs3, rfl, hl10, hd10⟩
      have K : Hid (Bk w10 w.heap.size (crow 0 0 0 0)) := (K4.out.turn HD9.out.ct.turn (by omega)).turn hd10.ct.turn (by omega)
      have PP : Hid (Bk w10 P (crow k f t d)) := (P4.out.turn HD9.out.ct.turn (by omega)).turn hd10.ct.turn (by omega)
      have HBW : Hid (Below w.heap.size w w10) := (HB4.out.trans (HD9.out.ct.turn.below (by omega) (by omega))).trans (hd10.ct.turn.below (by omega) (by omega))
      have HDO : Hid (OwnO w10 w9.heap.size v3 xs3 ∧ xs3.length ≤ 1001) := ⟨hd10.own, by omega⟩
      clear HD9 hd10 hwm hsum hl10
      have p0 := K.out.cell 0 _ rfl
      have r0 := PP.out.cell 0 _ rfl
      have p1 := K.out.cell 1 _ rfl
      have r1 := PP.out.cell 1 _ rfl
      have p2 := K.out.cell 2 _ rfl
      have r2 := PP.out.cell 2 _ rfl
      have p3 := K.out.cell 3 _ rfl
      have r3 := PP.out.cell 3 _ rfl
      have pf := K.out.free
      have k9 : Bk ((((w10.setCell ⟨w.heap.size, 0, none⟩ (.int .i64 k)).setCell ⟨w.heap.size, 1, none⟩ (.int .i64 f)).setCell ⟨w.heap.size, 2, none⟩ (.int .i64 t)).setCell ⟨w.heap.size, 3, none⟩ (.int .i64 d)) (w.heap.size) (crow k f t d) := ((((K.out).set 0 (.int .i64 k) (by simp) (cs' := crow k 0 0 0) rfl).set 1 (.int .i64 f) (by simp) (cs' := crow k f 0 0) rfl).set 2 (.int .i64 t) (by simp) (cs' := crow k f t 0) rfl).set 3 (.int .i64 d) (by simp) (cs' := crow k f t d) rfl
      have hbt : Betw w.heap.size (w.heap.size + 1) w10 ((((w10.setCell ⟨w.heap.size, 0, none⟩ (.int .i64 k)).setCell ⟨w.heap.size, 1, none⟩ (.int .i64 f)).setCell ⟨w.heap.size, 2, none⟩ (.int .i64 t)).setCell ⟨w.heap.size, 3, none⟩ (.int .i64 d)) := (((((Betw.refl w.heap.size (w.heap.size + 1) w10)).setCell (p := ⟨w.heap.size, 0, none⟩) (Nat.le_refl _) (by simp) _).setCell (p := ⟨w.heap.size, 1, none⟩) (Nat.le_refl _) (by simp) _).setCell (p := ⟨w.heap.size, 2, none⟩) (Nat.le_refl _) (by simp) _).setCell (p := ⟨w.heap.size, 3, none⟩) (Nat.le_refl _) (by simp) _
      have hb9 : Below w.heap.size w ((((w10.setCell ⟨w.heap.size, 0, none⟩ (.int .i64 k)).setCell ⟨w.heap.size, 1, none⟩ (.int .i64 f)).setCell ⟨w.heap.size, 2, none⟩ (.int .i64 t)).setCell ⟨w.heap.size, 3, none⟩ (.int .i64 d)) := HBW.out.trans (hbt.below (Nat.le_refl _) HBW.out.size)
      obtain ⟨a9, c9, e9, o9⟩ := HDO.out.1.pi
      have ho9 : PI ((((w10.setCell ⟨w.heap.size, 0, none⟩ (.int .i64 k)).setCell ⟨w.heap.size, 1, none⟩ (.int .i64 f)).setCell ⟨w.heap.size, 2, none⟩ (.int .i64 t)).setCell ⟨w.heap.size, 3, none⟩ (.int .i64 d)) w.heap.size ((((w10.setCell ⟨w.heap.size, 0, none⟩ (.int .i64 k)).setCell ⟨w.heap.size, 1, none⟩ (.int .i64 f)).setCell ⟨w.heap.size, 2, none⟩ (.int .i64 t)).setCell ⟨w.heap.size, 3, none⟩ (.int .i64 d)).heap.size a9 xs3 := (o9.betw hbt (.inr (by omega))).wide (by omega) hbt.size
      have hxl := HDO.out.2
      subst e9
      go_wp2
      clear p0 r0 p1 r1 p2 r2 p3 r3 pf hbt
      revert k9 hb9 ho9
      generalize ((((w10.setCell ⟨w.heap.size, 0, none⟩ (.int .i64 k)).setCell ⟨w.heap.size, 1, none⟩ (.int .i64 f)).setCell ⟨w.heap.size, 2, none⟩ (.int .i64 t)).setCell ⟨w.heap.size, 3, none⟩ (.int .i64 d)) = Wf
      intro k9 hb9 ho9
      have q0 := k9.cell 0 _ rfl
      have q1 := k9.cell 1 _ rfl
      have q2 := k9.cell 2 _ rfl
      have q3 := k9.cell 3 _ rfl
      exact bodyPost_ret (v := .tuple #[crw k f t d, .slice a9 xs3.length c9]) (by simp [results, Try.results54, go_sem, q0, q1, q2, q3]) rfl ⟨k, f, t, d, a9, xs3, xs3.length, c9, rfl, hb9, ho9, rfl, hxl⟩
end Go.Proofs.Ytoofjlfbedjbnaa
