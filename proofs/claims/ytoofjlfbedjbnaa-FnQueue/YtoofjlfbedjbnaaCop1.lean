
/-
  A drawn script of a channel: whatever the bytes, a row and at most 1001 ops, in memory of its own. Conditions: the cursor stands over bytes; the bytes are at most 1048576.
-/
import Derived.Test.YtoofjlfbedjbnaaRows
import Derived.Test.YtoofjlfbedjbnaaCro
import Derived.Test.YtoofjlfbedjbnaaOnp
import Derived.Deep.AppendLies
namespace Go.Proofs.Ytoofjlfbedjbnaa
open Go.ChangeShapes Go.WideShapes Go.ChangeAt Go.RowKit Go.Deep
set_option linter.unusedVariables false

/-- A list of pairs that the call owns, from block 'base' on. -/
def OwnO (w : World) (base : Nat) (v : Value) (xs : List Cp) : Prop := w.ownsRow base 76 2 v xs.length (cpCells xs)
theorem OwnO.new (w : World) (B : Nat) (hB : B = w.heap.size) : OwnO (w.alloc (.cells #[] 76)) B (.slice (some ⟨B, 0, none⟩) 0 0) [] := by
  subst hB
  exact ⟨rfl, .inr ⟨w.heap.size, 0, #[], rfl, Nat.le_refl _, by show (w.heap.push _)[w.heap.size]? = _; simp, Nat.le_refl _, by simp, rfl, rfl⟩⟩
theorem OwnO.below {w w' : World} {base : Nat} {v : Value} {xs : List Cp} (h : OwnO w base v xs) (hb : Below w.heap.size w w') : OwnO w' base v xs := ownsRow_below h hb
theorem OwnO.low {w : World} {base b' : Nat} {v : Value} {xs : List Cp} (h : OwnO w base v xs) (hle : b' ≤ base) : OwnO w b' v xs := by
  refine ⟨h.1, ?_⟩
  rcases h.2 with hn | ⟨g, cap, cur, e, hb, rest⟩
  · exact .inl hn
  · exact .inr ⟨g, cap, cur, e, by omega, rest⟩
theorem OwnO.snoc {w : World} {base g cap : Nat} {xs : List Cp} {x : Cp} (h : w.ownsRow base 76 2 (.slice (some ⟨g, 0, none⟩) (xs.length + 1) cap) (xs.length + 1) (cpCells xs ++ [.int .i64 x.1, .int .u32 x.2])) :
    OwnO w base (.slice (some ⟨g, 0, none⟩) (xs.length + 1) cap) (xs ++ [x]) := by
  unfold OwnO
  rw [cpCells_snoc]
  simpa using h
theorem OwnO.pi {w : World} {base : Nat} {v : Value} {xs : List Cp} (h : OwnO w base v xs) : ∃ a cap, v = .slice a xs.length cap ∧ PI w base w.heap.size a xs := by
  rcases h.2 with ⟨h0, h1⟩ | ⟨g, cap, cur, rfl, hb, hg, h1, h2, h3, h4⟩
  · exact ⟨none, 0, by rw [h0, h1], fun h => absurd h (by omega)⟩
  · have hlt : g < w.heap.size := by
      rcases Nat.lt_or_ge g w.heap.size with hlt | hge
      · exact hlt
      · rw [Array.getElem?_eq_none hge] at hg; cases hg
    refine ⟨_, _, rfl, fun h0 => ⟨g, 0, rfl, hb, hlt, hlt, fun i hi => ?_, fun j => by simp [World.frozen?, hg]⟩⟩
    have hc : ∀ j v, (cpCells xs)[j]? = some v → cur[j]? = some v := fun j v e => by
      have hj : j < (cpCells xs).length := by
        rcases Nat.lt_or_ge j (cpCells xs).length with g | g
        · exact g
        · rw [List.getElem?_eq_none g] at e; cases e
      rw [cpCells_len] at hj
      rw [← h4, List.getElem?_take, if_pos hj] at e
      simpa using e
    obtain ⟨g1, g2⟩ := cpCells_at xs i hi
    rw [Nat.zero_add]
    refine ⟨?_, ?_⟩
    · simp [World.cell?, hg, hc _ _ g1]
    · simp [World.cell?, hg, hc _ _ g2]
theorem news_op (w : World) (x1 x2 : Int) (B : Nat) (hB : B = w.heap.size) : ∀ j u, [Value.int .i64 x1, .int .u32 x2][j]? = some u → (w.alloc (.cells #[.int .i64 x1, .int .u32 x2] 76)).cell? ((⟨B, 0, none⟩ : Addr).add j) = some u := by
  subst hB
  exact World.news_of_block (cs := #[.int .i64 x1, .int .u32 x2]) (t := 76) (fr := (0, 0)) (by show (w.heap.push _)[w.heap.size]? = _; simp)
theorem infoOP' : ∃ i, Try.prog.info? 76 = some i ∧ i.zero = some (.agg #[.int .i64 0, .int .u32 0]) ∧ i.size = 2 ∧ i.bytes = 16 := by
  obtain ⟨i, hi, h⟩ := Option.map_eq_some_iff.1 infoOP
  simp only [Prod.mk.injEq] at h
  exact ⟨i, hi, h.1, h.2.1, h.2.2⟩
/-- The drawing of ops: the cursor, and the list so far, from block 'base' on. -/
structure DOp (w wr : World) (base B : Nat) (a : Option Addr) (zs : List Int) (cap : Nat) (v : Value) (xs : List Cp) : Prop where
  ct : CT w wr B a zs cap
  own : OwnO wr base v xs
  nv : v ≠ .slice none 0 0
  le : w.heap.size ≤ base
theorem ownO_turn {w X : World} {B base : Nat} {v : Value} {ys : List Cp} (h : OwnO w base v ys) (ht : Turn B w X) (hB : B < base) : OwnO X base v ys := by
  refine ⟨h.1, ?_⟩
  rcases h.2 with hn | ⟨g, cap, cur, e, hbs, hgg, rest⟩
  · exact .inl hn
  · refine .inr ⟨g, cap, cur, e, hbs, ?_, rest⟩
    have hlt : g < w.heap.size := by
      rcases Nat.lt_or_ge g w.heap.size with hlt | hge
      · exact hlt
      · rw [Array.getElem?_eq_none hge] at hgg; cases hgg
    rw [ht.block g hlt (by omega)]
    exact hgg
variable {w wr : World} {base B : Nat} {a : Option Addr} {zs : List Int} {cap : Nat} {v : Value} {xs : List Cp}
theorem DOp.below {X : World} (h : DOp w wr base B a zs cap v xs) (hb : Below wr.heap.size wr X) : DOp w X base B a zs cap v xs := ⟨h.ct.below hb, h.own.below hb, h.nv, h.le⟩
theorem DOp.step {X : World} (h : DOp w wr base B a zs cap v xs) (hc : Cur X B a zs cap) (ht : Turn B wr X) : DOp w X base B a zs cap v xs := ⟨h.ct.step hc ht, ownO_turn h.own ht (by have := h.ct.lo; have := h.le; omega), h.nv, h.le⟩
theorem DOp.low {X : World} {v' : Value} {xs' : List Cp} (h : DOp w wr base B a zs cap v xs) (hb : Below base wr X) (ho : OwnO X base v' xs') (hv : v' ≠ .slice none 0 0) : DOp w X base B a zs cap v' xs' :=
  ⟨⟨h.ct.cur.belowC hb (by have := h.ct.lo; have := h.le; omega) (fun b off e h0 => by have := h.ct.la b off e h0; have := h.le; omega), ⟨hb.os.trans h.ct.turn.os, hb.tape.trans h.ct.turn.tape, hb.output.trans h.ct.turn.output, Nat.le_trans h.ct.turn.size hb.size, fun k hk hn => (hb.block k (by have := h.le; omega)).trans (h.ct.turn.block k hk hn)⟩, h.ct.lo, h.ct.la⟩, ho, hv, h.le⟩
theorem DOp.set {Y j : Nat} {u : Value} (h : DOp w wr base B a zs cap v xs) (hY : w.heap.size ≤ Y) (hv : ∀ g, v.ownBlock = some g → g ≠ Y) : DOp w (wr.setCell ⟨Y, j, none⟩ u) base B a zs cap v xs := by
  refine ⟨h.ct.set Y j u hY, ?_, h.nv, h.le⟩
  have hbt : Betw Y (Y + 1) wr (wr.setCell ⟨Y, j, none⟩ u) := (Betw.refl _ _ wr).setCell (p := ⟨Y, j, none⟩) (Nat.le_refl _) (by simp) _
  refine ⟨h.own.1, ?_⟩
  rcases h.own.2 with hn | ⟨g, cap, cur, e, hbs, hgg, rest⟩
  · exact .inl hn
  · refine .inr ⟨g, cap, cur, e, hbs, ?_, rest⟩
    have hlt : g < wr.heap.size := by
      rcases Nat.lt_or_ge g wr.heap.size with hlt | hge
      · exact hlt
      · rw [Array.getElem?_eq_none hge] at hgg; cases hgg
    have hne := hv g (by rw [e]; rfl)
    rw [hbt.block g hlt (by omega)]
    exact hgg
theorem DOp.own_lt (h : DOp w wr base B a zs cap v xs) : ∀ g, v.ownBlock = some g → base ≤ g ∧ g < wr.heap.size := fun g e => by
  rcases h.own.2 with ⟨h0, h1⟩ | ⟨g', cap, cur, rfl, hb, hg, r⟩
  · subst h0; cases e
  · have e' : g' = g := by have : some g' = some g := e; injection this
    subst e'
    refine ⟨hb, ?_⟩
    rcases Nat.lt_or_ge g' wr.heap.size with hlt | hge
    · exact hlt
    · rw [Array.getElem?_eq_none hge] at hg; cases hg
set_option maxRecDepth 20000 in
set_option maxHeartbeats 4000000 in
theorem draw_ops (w : World) (B : Nat) (a : Option Addr) (zs : List Int) (cap : Nat) (n : Nat) (hc : Cur w B a zs cap) (hn : n ≤ 1001) :
    Calls Try.prog 81 #[.pointer (some ⟨B, 0, none⟩), .int .i64 (n : Int)] w fun e w' => ∃ v xs, e = .returned v ∧ xs.length = n ∧ DOp w w' w.heap.size B a zs cap v xs := by
  obtain ⟨base, hbase⟩ : ∃ b, b = w.heap.size := ⟨_, rfl⟩
  rw [← hbase]
  have H0 : Hid (DOp w (w.alloc (.cells #[] 76)) base B a zs cap (.slice (some ⟨base, 0, none⟩) 0 0) []) := ⟨(CT.start hc).alloc _, by rw [hbase]; exact OwnO.new _ _ rfl, by simp, by omega⟩
  have hlo := hc.lt
  have Z0 : Hid (base ≤ (w.alloc (.cells #[] 76)).heap.size) := (show base ≤ (w.alloc (.cells #[] 76)).heap.size by rw [hbase]; simp)
  clear hc
  obtain ⟨iS, hi1, hi2, hi3, hi4⟩ := infoOP'
  have HIN : Hid (Try.prog.info? 76 = some iS ∧ iS.zero = some (.agg #[.int .i64 0, .int .u32 0]) ∧ iS.size = 2 ∧ iS.bytes = 16) := ⟨hi1, hi2, hi3, hi4⟩
  clear hi1 hi2 hi3 hi4
  go_enter Try.func81, Try.ntmps81
  go_wp2
  go_loopw [5, 6] (fun v i wr => ∃ j : Nat, j ≤ n ∧ i = .int .i64 j ∧ Hid (∃ xs, xs.length = j ∧ DOp w wr base B a zs cap v xs ∧ base ≤ wr.heap.size)) (fun _ i _ => n - (intOf i).toNat)
  case atStart => exact ⟨0, by omega, rfl, [], rfl, by rw [← hbase]; exact H0.out, Z0.out⟩
  case round =>
    obtain ⟨i, hi, rfl, HR⟩ := hrel
    clear H0 Z0
    by_cases hin : i < n
    rotate_left
    · obtain rfl : i = n := by omega
      go_wp2
      go_ret
      obtain ⟨xs, h1, h2, _⟩ := HR.out
      exact ⟨_, xs, rfl, h1, h2⟩
    have hin' : (i : Int) < (n : Int) := by omega
    obtain ⟨xs, h1, h2, h3⟩ := HR.out
    have HXL : Hid (xs.length = i) := h1
    have hzB : B < wr.heap.size := by omega
    have HO : Hid (Own .i64 (wr.alloc (.cells #[.int .i64 0, .int .i64 0, .int .i64 0, .int .i64 0, .int .i64 1, .int .i64 1, .int .i64 1, .int .i64 2, .int .i64 2, .int .i64 3] 3)) wr.heap.size [0, 0, 0, 0, 1, 1, 1, 2, 2, 3]) := own_litD .i64 wr 3 [0, 0, 0, 0, 1, 1, 1, 2, 2, 3]
    have HD1 : Hid (DOp w (wr.alloc (.cells #[.int .i64 0, .int .i64 0, .int .i64 0, .int .i64 0, .int .i64 1, .int .i64 1, .int .i64 1, .int .i64 2, .int .i64 2, .int .i64 3] 3)) base B a zs cap u5 xs) := h2.below ((Below.refl _ _).alloc (Nat.le_refl _) _)
    have hb1 : base ≤ wr.heap.size := h3
    clear HR h1 h2 h3
    go_wp2_with fail
    refine (draw_pick _ _ _ _ _ _ [0, 0, 0, 0, 1, 1, 1, 2, 2, 3] HD1.out.ct.cur HO.out (by omega) (by simp) (by simp)).mono ?_
    rintro e w2 ⟨y, rfl, hy, hc2, ht2⟩
    have HD2 : Hid (DOp w (w2.alloc (.cells #[.int .i64 y, .int .u32 0] 76)) base B a zs cap u5 xs) := (HD1.out.step hc2 ht2).below ((Below.refl _ _).alloc (Nat.le_refl _) _)
    have KO2 : Hid (Bk (w2.alloc (.cells #[.int .i64 y, .int .u32 0] 76)) w2.heap.size #[.int .i64 y, .int .u32 0]) := Bk.new _ _ _ _ rfl
    have hz2 : wr.heap.size < w2.heap.size := by have := ht2.size; simp at this; omega
    have hvo : Hid (∀ g, u5.ownBlock = some g → g < w2.heap.size) := fun g e => ((HD1.out.step hc2 ht2).own_lt g e).2
    clear HD1 HO hc2 ht2 hy
    cases hy0 : (y == 0)
    · have HD := HD2
      have KO := KO2
      have HBZ : Hid (base ≤ (w2.alloc (.cells #[.int .i64 y, .int .u32 0] 76)).heap.size) := (show base ≤ (w2.alloc (.cells #[.int .i64 y, .int .u32 0] 76)).heap.size by simp; omega)
      clear HD2 KO2
      have s0 := KO.out.cell 0 _ rfl
      have s1 := KO.out.cell 1 _ rfl
      have hal : Below (w2.alloc (.cells #[.int .i64 y, .int .u32 0] 76)).heap.size (w2.alloc (.cells #[.int .i64 y, .int .u32 0] 76)) ((w2.alloc (.cells #[.int .i64 y, .int .u32 0] 76)).alloc (.cells #[.int .i64 y, .int .u32 0] 76)) := (Below.refl _ _).alloc (Nat.le_refl _) _
      have HPA : Hid (DOp w ((w2.alloc (.cells #[.int .i64 y, .int .u32 0] 76)).alloc (.cells #[.int .i64 y, .int .u32 0] 76)) base B a zs cap u5 xs) := HD.out.below hal
      have hownA : ((w2.alloc (.cells #[.int .i64 y, .int .u32 0] 76)).alloc (.cells #[.int .i64 y, .int .u32 0] 76)).ownsRow base 76 2 u5 xs.length (cpCells xs) := HPA.out.own
      have HSZ : Hid (base ≤ ((w2.alloc (.cells #[.int .i64 y, .int .u32 0] 76)).alloc (.cells #[.int .i64 y, .int .u32 0] 76)).heap.size) := (show base ≤ ((w2.alloc (.cells #[.int .i64 y, .int .u32 0] 76)).alloc (.cells #[.int .i64 y, .int .u32 0] 76)).heap.size by have := HBZ.out; have := hal.size; omega)
      have hsl : xs.length ≤ 2000 := by have := HXL.out; omega
      have HZ : Hid (∀ (gg cap1 : Nat) (w9 : World), w9.ownsRow base 76 2 (.slice (some ⟨gg, 0, none⟩) (xs.length + 1) cap1) (xs.length + 1) (cpCells xs ++ [.int .i64 y, .int .u32 0]) → ((w2.alloc (.cells #[.int .i64 y, .int .u32 0] 76)).alloc (.cells #[.int .i64 y, .int .u32 0] 76)).grownBy w9 u5.ownBlock → ∃ xs', xs'.length = i + 1 ∧ DOp w w9 base B a zs cap (.slice (some ⟨gg, 0, none⟩) (xs.length + 1) cap1) xs' ∧ base ≤ w9.heap.size) := fun gg cap1 w9 g1 g2 => ⟨xs ++ [(y, 0)], by rw [List.length_append, HXL.out]; rfl, HPA.out.low (Below.grown (Below.refl _ _) g2 HSZ.out (fun g e => (HPA.out.own_lt g e).1)) (OwnO.snoc g1) (by simp), Nat.le_trans HSZ.out g2.size⟩
      clear hal HD KO HPA
      go_wp2_with (at_builtin; (refine wpList_append_lies _ rfl (.tmp 25) (.tmp 27) 64 rfl base 76 iS (.agg #[.int .i64 0, .int .u32 0]) 2 16 Try.underlying64 HIN.out.1 HIN.out.2.1 HIN.out.2.2.1 HIN.out.2.2.2 rfl (by omega) u5 xs.length (cpCells xs) rfl hownA _ 1 1 [.int .i64 y, .int .u32 0] rfl rfl (news_op _ _ _ _ (by simp)) (one_sd _ _) (by omega) (by unfold maxLen; omega) (by omega) HSZ.out _ rfl ?_; intro gg cap1 w9 hown1 hgrow hat hlt1; have HYY : Hid _ := HZ.out gg cap1 w9 hown1 hgrow; clear hown1 hgrow hat hlt1))
      go_roundw
      case rel => exact ⟨i + 1, by omega, by go_num, HYY⟩
      case measure => simp [intOf]; omega
    · have hy' : y = 0 := by simpa using hy0
      subst hy'
      go_wp2_with fail
      refine (draw_word _ _ _ _ _ HD2.out.ct.cur).mono ?_
      generalize (w2.alloc (.cells #[.int .i64 0, .int .u32 0] 76)) = V at HD2 KO2
      generalize w2.heap.size = bo at hz2 hvo KO2 ⊢
      rintro e w4 ⟨z, rfl, hz0, hz1, hc4, ht4⟩
      have HD4 : Hid (DOp w w4 base B a zs cap u5 xs) := HD2.out.step hc4 ht4
      have KO4 : Hid (Bk w4 bo #[.int .i64 0, .int .u32 0]) := KO2.out.turn ht4 (by omega)
      clear HD2 KO2 hc4 ht4
      have HD : Hid (DOp w (w4.setCell ⟨bo, 1, none⟩ (.int .u32 z)) base B a zs cap u5 xs) := HD4.out.set (by omega) (fun g e => by have := hvo.out g e; omega)
      have KO : Hid (Bk (w4.setCell ⟨bo, 1, none⟩ (.int .u32 z)) bo #[.int .i64 0, .int .u32 z]) := KO4.out.set 1 _ (by simp) rfl
      have HBZ : Hid (base ≤ (w4.setCell ⟨bo, 1, none⟩ (.int .u32 z)).heap.size) := (show base ≤ (w4.setCell ⟨bo, 1, none⟩ (.int .u32 z)).heap.size by have := KO.out.lt; omega)
      have e1 := KO4.out.cell 1 _ rfl
      have ef := KO4.out.free
      clear HD4 KO4
      have s0 := KO.out.cell 0 _ rfl
      have s1 := KO.out.cell 1 _ rfl
      have hal : Below (w4.setCell ⟨bo, 1, none⟩ (.int .u32 z)).heap.size (w4.setCell ⟨bo, 1, none⟩ (.int .u32 z)) ((w4.setCell ⟨bo, 1, none⟩ (.int .u32 z)).alloc (.cells #[.int .i64 0, .int .u32 z] 76)) := (Below.refl _ _).alloc (Nat.le_refl _) _
      have HPA : Hid (DOp w ((w4.setCell ⟨bo, 1, none⟩ (.int .u32 z)).alloc (.cells #[.int .i64 0, .int .u32 z] 76)) base B a zs cap u5 xs) := HD.out.below hal
      have hownA : ((w4.setCell ⟨bo, 1, none⟩ (.int .u32 z)).alloc (.cells #[.int .i64 0, .int .u32 z] 76)).ownsRow base 76 2 u5 xs.length (cpCells xs) := HPA.out.own
      have HSZ : Hid (base ≤ ((w4.setCell ⟨bo, 1, none⟩ (.int .u32 z)).alloc (.cells #[.int .i64 0, .int .u32 z] 76)).heap.size) := (show base ≤ ((w4.setCell ⟨bo, 1, none⟩ (.int .u32 z)).alloc (.cells #[.int .i64 0, .int .u32 z] 76)).heap.size by have := HBZ.out; have := hal.size; omega)
      have hsl : xs.length ≤ 2000 := by have := HXL.out; omega
      have HZ : Hid (∀ (gg cap1 : Nat) (w9 : World), w9.ownsRow base 76 2 (.slice (some ⟨gg, 0, none⟩) (xs.length + 1) cap1) (xs.length + 1) (cpCells xs ++ [.int .i64 0, .int .u32 z]) → ((w4.setCell ⟨bo, 1, none⟩ (.int .u32 z)).alloc (.cells #[.int .i64 0, .int .u32 z] 76)).grownBy w9 u5.ownBlock → ∃ xs', xs'.length = i + 1 ∧ DOp w w9 base B a zs cap (.slice (some ⟨gg, 0, none⟩) (xs.length + 1) cap1) xs' ∧ base ≤ w9.heap.size) := fun gg cap1 w9 g1 g2 => ⟨xs ++ [(0, z)], by rw [List.length_append, HXL.out]; rfl, HPA.out.low (Below.grown (Below.refl _ _) g2 HSZ.out (fun g e => (HPA.out.own_lt g e).1)) (OwnO.snoc g1) (by simp), Nat.le_trans HSZ.out g2.size⟩
      clear hal HD KO HPA
      go_wp2_with (at_builtin; (refine wpList_append_lies _ rfl (.tmp 25) (.tmp 27) 64 rfl base 76 iS (.agg #[.int .i64 0, .int .u32 0]) 2 16 Try.underlying64 HIN.out.1 HIN.out.2.1 HIN.out.2.2.1 HIN.out.2.2.2 rfl (by omega) u5 xs.length (cpCells xs) rfl hownA _ 1 1 [.int .i64 0, .int .u32 z] rfl rfl (news_op _ _ _ _ (by simp)) (one_sd _ _) (by omega) (by unfold maxLen; omega) (by omega) HSZ.out _ rfl ?_; intro gg cap1 w9 hown1 hgrow hat hlt1; have HYY : Hid _ := HZ.out gg cap1 w9 hown1 hgrow; clear hown1 hgrow hat hlt1))
      go_roundw
      case rel => exact ⟨i + 1, by omega, by go_num, HYY⟩
      case measure => simp [intOf]; omega
end Go.Proofs.Ytoofjlfbedjbnaa
