
/-
  Drawn words and drawn ends of a channel: whatever the bytes, a few words in memory of their own. Conditions: the cursor stands over bytes.
-/
import Derived.Test.YtobgaakcinjnaaaProg
import Derived.Test.YtobgaakcinjnaaaCro2
import Derived.Test.YtobgaakcinjnaaaOnu
import Derived.Deep.AppendLies
namespace Go.Proofs.Ytobgaakcinjnaaa
open Go.ChangeShapes Go.WideShapes Go.ChangeAt Go.RowKit Go.Deep
set_option linter.unusedVariables false

theorem draw_belowA (w : World) (B : Nat) (a : Option Addr) (zs : List Int) (cap : Nat) (n : Int) (hc : Cur w B a zs cap) (h2 : n ≤ 4294967296) :
    Calls Try.prog 33 #[.pointer (some ⟨B, 0, none⟩), .int .i64 n] w fun e w' => ∃ x : Nat, e = .returned (.int .i64 (x : Int)) ∧ ((x : Int) < n ∨ x = 0) ∧ Cur w' B a zs cap ∧ Turn B w w' := by
  by_cases h1 : 1 ≤ n
  · refine (draw_below w B a zs cap n hc h1 h2).mono ?_
    rintro e w1 ⟨x, rfl, hx0, hx1, hc1, ht1⟩
    exact ⟨x.toNat, by rw [Int.toNat_of_nonneg hx0], .inl (by omega), hc1, ht1⟩
  · have hle : n ≤ 0 := by omega
    go_enter Try.func33, Try.ntmps33
    go_wp2
    go_ret
    exact ⟨0, rfl, .inr rfl, hc, Turn.refl _ _⟩
/-- The drawing of words: the cursor, and the list so far, from block 'base' on. -/
structure DW (w wr : World) (base B : Nat) (a : Option Addr) (zs : List Int) (cap : Nat) (v : Value) (xs : List Int) : Prop where
  ct : CT w wr B a zs cap
  own : OwnU wr base v xs
  nv : v ≠ .slice none 0 0
  le : w.heap.size ≤ base
  ls : base ≤ wr.heap.size
theorem ownU_turn {w X : World} {B base : Nat} {v : Value} {ys : List Int} (h : OwnU w base v ys) (ht : Turn B w X) (hB : B < base) : OwnU X base v ys := by
  refine ⟨h.1, ?_⟩
  rcases h.2 with hn | ⟨g, cap, cur, e, hbs, hgg, rest⟩
  · exact .inl hn
  · refine .inr ⟨g, cap, cur, e, hbs, ?_, rest⟩
    have hlt : g < w.heap.size := by
      rcases Nat.lt_or_ge g w.heap.size with hlt | hge
      · exact hlt
      · rw [Array.getElem?_eq_none hge] at hgg; cases hgg
    rw [ht.block g hlt (by omega)]
    exact hgg
theorem OwnU.lt {w : World} {base : Nat} {v : Value} {ys : List Int} (h : OwnU w base v ys) : ∀ g, v.ownBlock = some g → base ≤ g ∧ g < w.heap.size := fun g e => by
  rcases h.2 with ⟨h0, h1⟩ | ⟨g', cap, cur, rfl, hb, hg, r⟩
  · subst h0; cases e
  · have e' : g' = g := by have : some g' = some g := e; injection this
    subst e'
    refine ⟨hb, ?_⟩
    rcases Nat.lt_or_ge g' w.heap.size with hlt | hge
    · exact hlt
    · rw [Array.getElem?_eq_none hge] at hg; cases hg
theorem OwnU.set {w : World} {base Y j : Nat} {v u : Value} {ys : List Int} (h : OwnU w base v ys) (hv : ∀ g, v.ownBlock = some g → g ≠ Y) : OwnU (w.setCell ⟨Y, j, none⟩ u) base v ys := by
  have hbt : Betw Y (Y + 1) w (w.setCell ⟨Y, j, none⟩ u) := (Betw.refl _ _ w).setCell (p := ⟨Y, j, none⟩) (Nat.le_refl _) (by simp) _
  refine ⟨h.1, ?_⟩
  rcases h.2 with hn | ⟨g, cap, cur, e, hbs, hgg, rest⟩
  · exact .inl hn
  · refine .inr ⟨g, cap, cur, e, hbs, ?_, rest⟩
    have hlt : g < w.heap.size := by
      rcases Nat.lt_or_ge g w.heap.size with hlt | hge
      · exact hlt
      · rw [Array.getElem?_eq_none hge] at hgg; cases hgg
    have hne := hv g (by rw [e]; rfl)
    rw [hbt.block g hlt (by omega)]
    exact hgg
variable {w wr : World} {base B : Nat} {a : Option Addr} {zs : List Int} {cap : Nat} {v : Value} {xs : List Int}
theorem DW.below {X : World} (h : DW w wr base B a zs cap v xs) (hb : Below wr.heap.size wr X) : DW w X base B a zs cap v xs := ⟨h.ct.below hb, h.own.below hb, h.nv, h.le, Nat.le_trans h.ls hb.size⟩
theorem DW.step {X : World} (h : DW w wr base B a zs cap v xs) (hc : Cur X B a zs cap) (ht : Turn B wr X) : DW w X base B a zs cap v xs := ⟨h.ct.step hc ht, ownU_turn h.own ht (by have := h.ct.lo; have := h.le; omega), h.nv, h.le, Nat.le_trans h.ls ht.size⟩
theorem DW.low {X : World} {v' : Value} {xs' : List Int} (h : DW w wr base B a zs cap v xs) (hb : Below base wr X) (ho : OwnU X base v' xs') (hv : v' ≠ .slice none 0 0) : DW w X base B a zs cap v' xs' :=
  ⟨⟨h.ct.cur.belowC hb (by have := h.ct.lo; have := h.le; omega) (fun b off e h0 => by have := h.ct.la b off e h0; have := h.le; omega), ⟨hb.os.trans h.ct.turn.os, hb.tape.trans h.ct.turn.tape, hb.output.trans h.ct.turn.output, Nat.le_trans h.ct.turn.size hb.size, fun k hk hn => (hb.block k (by have := h.le; omega)).trans (h.ct.turn.block k hk hn)⟩, h.ct.lo, h.ct.la⟩, ho, hv, h.le, Nat.le_trans h.ls hb.size⟩
theorem DW.set {Y j : Nat} {u : Value} (h : DW w wr base B a zs cap v xs) (hY : w.heap.size ≤ Y) (hv : ∀ g, v.ownBlock = some g → g ≠ Y) : DW w (wr.setCell ⟨Y, j, none⟩ u) base B a zs cap v xs :=
  ⟨h.ct.set Y j u hY, h.own.set hv, h.nv, h.le, by rw [nblk_setCell]; exact h.ls⟩
theorem DW.from {w0 : World} (h : DW w wr base B a zs cap v xs) (h0 : CT w0 w B a zs cap) : DW w0 wr base B a zs cap v xs :=
  ⟨⟨h.ct.cur, h0.turn.trans h.ct.turn, h0.lo, h0.la⟩, h.own, h.nv, Nat.le_trans h0.turn.size h.le, h.ls⟩
theorem news2 (w : World) (x y : Int) (B : Nat) (hB : B = w.heap.size) : ∀ j u, [Value.int .u32 x, .int .u32 y][j]? = some u → (w.alloc (.cells #[.int .u32 x, .int .u32 y] 33)).cell? ((⟨B, 0, none⟩ : Addr).add j) = some u := by
  subst hB
  exact World.news_of_block (cs := #[.int .u32 x, .int .u32 y]) (t := 33) (fr := (0, 0)) (by show (w.heap.push _)[w.heap.size]? = _; simp)
theorem one2 (x y : Int) : ∀ u ∈ [Value.int .u32 x, .int .u32 y], u.oneCell' = true := by
  intro u hu
  simp at hu
  rcases hu with rfl | rfl <;> rfl
theorem OwnU.snoc2 {w : World} {base g cap : Nat} {zs : List Int} {x y : Int} (h : w.ownsRow base 33 1 (.slice (some ⟨g, 0, none⟩) (zs.length + 2) cap) (zs.length + 2) (zs.map (Value.int .u32) ++ [.int .u32 x, .int .u32 y])) :
    OwnU w base (.slice (some ⟨g, 0, none⟩) (zs.length + 2) cap) (zs ++ [x, y]) := by
  have : (zs ++ [x, y]).length = zs.length + 2 := by simp
  unfold OwnU
  rw [this, List.map_append]
  exact h
set_option maxRecDepth 20000 in
set_option maxHeartbeats 4000000 in
theorem draw_words (w : World) (B : Nat) (a : Option Addr) (zs : List Int) (cap : Nat) (n : Nat) (hc : Cur w B a zs cap) (hn : n ≤ 64) :
    Calls Try.prog 35 #[.pointer (some ⟨B, 0, none⟩), .int .i64 (n : Int)] w fun e w' => ∃ v xs, e = .returned v ∧ xs.length = n ∧ DW w w' w.heap.size B a zs cap v xs := by
  obtain ⟨base, hbase⟩ : ∃ b, b = w.heap.size := ⟨_, rfl⟩
  rw [← hbase]
  have H0 : Hid (DW w (w.alloc (.cells #[] 33)) base B a zs cap (.slice (some ⟨base, 0, none⟩) 0 0) []) := ⟨(CT.start hc).alloc _, by rw [hbase]; exact OwnU.new _ _ rfl, by simp, by omega, by rw [hbase]; simp⟩
  have hlo := hc.lt
  clear hc
  obtain ⟨iS, hi1, hi2, hi3, hi4⟩ := infoU'
  have HIN : Hid (Try.prog.info? 33 = some iS ∧ iS.zero = some (.int .u32 0) ∧ iS.size = 1 ∧ iS.bytes = 4) := ⟨hi1, hi2, hi3, hi4⟩
  clear hi1 hi2 hi3 hi4
  go_enter Try.func35, Try.ntmps35
  go_wp2
  go_loopw [5, 6] (fun v i wr => ∃ j : Nat, j ≤ n ∧ i = .int .i64 j ∧ Hid (∃ xs, xs.length = j ∧ DW w wr base B a zs cap v xs)) (fun _ i _ => n - (intOf i).toNat)
  case atStart => exact ⟨0, by omega, rfl, [], rfl, by rw [← hbase]; exact H0.out⟩
  case round =>
    obtain ⟨i, hi, rfl, HR⟩ := hrel
    clear H0
    by_cases hin : i < n
    rotate_left
    · obtain rfl : i = n := by omega
      go_wp2
      go_ret
      obtain ⟨xs, h1, h2⟩ := HR.out
      exact ⟨_, xs, rfl, h1, h2⟩
    have hin' : (i : Int) < (n : Int) := by omega
    obtain ⟨xs, h1, h2⟩ := HR.out
    have HXL : Hid (xs.length = i) := h1
    have HD1 : Hid (DW w wr base B a zs cap u5 xs) := h2
    clear HR h1 h2
    go_wp2_with fail
    refine (draw_word _ _ _ _ _ HD1.out.ct.cur).mono ?_
    rintro e w2 ⟨y, rfl, hy0, hy1, hc2, ht2⟩
    have HD : Hid (DW w w2 base B a zs cap u5 xs) := HD1.out.step hc2 ht2
    clear HD1 hc2 ht2
    have hsl : xs.length ≤ 2000 := by have := HXL.out; omega
    have hal : Below w2.heap.size w2 (w2.alloc (.cells #[.int .u32 y] 33)) := (Below.refl _ _).alloc (Nat.le_refl _) _
    have HPA : Hid (DW w (w2.alloc (.cells #[.int .u32 y] 33)) base B a zs cap u5 xs) := HD.out.below hal
    have hownA : (w2.alloc (.cells #[.int .u32 y] 33)).ownsRow base 33 1 u5 xs.length (xs.map (Value.int .u32)) := HPA.out.own
    have HSZ : Hid (base ≤ (w2.alloc (.cells #[.int .u32 y] 33)).heap.size) := HPA.out.ls
    have HZ : Hid (∀ (gg cap1 : Nat) (w9 : World), w9.ownsRow base 33 1 (.slice (some ⟨gg, 0, none⟩) (xs.length + 1) cap1) (xs.length + 1) (xs.map (Value.int .u32) ++ [.int .u32 y]) → (w2.alloc (.cells #[.int .u32 y] 33)).grownBy w9 u5.ownBlock → ∃ xs', xs'.length = i + 1 ∧ DW w w9 base B a zs cap (.slice (some ⟨gg, 0, none⟩) (xs.length + 1) cap1) xs') := fun gg cap1 w9 g1 g2 => ⟨xs ++ [y], by rw [List.length_append, HXL.out]; rfl, HPA.out.low (Below.grown (Below.refl _ _) g2 HSZ.out (fun g e => (HPA.out.own.lt g e).1)) (OwnU.snoc g1) (by simp)⟩
    clear hal HD HPA
    go_wp2_with (at_builtin; (refine wpList_append_lies _ rfl (.tmp 13) (.tmp 16) 26 rfl base 33 iS (.int .u32 0) 1 4 Try.underlying26 HIN.out.1 HIN.out.2.1 HIN.out.2.2.1 HIN.out.2.2.2 rfl (by omega) u5 xs.length (xs.map (Value.int .u32)) rfl hownA _ 1 1 [.int .u32 y] rfl rfl (news_u _ _ _ (by simp)) (one_u _) (by omega) (by unfold maxLen; omega) (by omega) HSZ.out _ rfl ?_; intro gg cap1 w9 hown1 hgrow hat hlt1; have HYY : Hid _ := HZ.out gg cap1 w9 hown1 hgrow; clear hown1 hgrow hat hlt1))
    go_roundw
    case rel => exact ⟨i + 1, by omega, by go_num, HYY⟩
    case measure => simp [intOf]; omega
theorem Bk.grownNe {w w' : World} {b : Nat} {cs : Array Value} {row : Option Nat} (h : Bk w b cs) (hg : w.grownBy w' row) (hne : row ≠ some b) : Bk w' b cs := by
  have hk := hg.block b h.lt (fun e => hne e.symm)
  exact ⟨Nat.lt_of_lt_of_le h.lt hg.size, fun i v e => (World.cell?_of_block (a := ⟨b, i, none⟩) hk).trans (h.cell i v e), fun i => (World.frozen?_of_block (a := ⟨b, i, none⟩) hk).trans (h.free i)⟩
/-- The drawing of an end: the cursor, the row's box, the answer's room, the end so far and its words. -/
structure OB (w W : World) (base B : Nat) (a : Option Addr) (zs : List Int) (cap : Nat) (R Z O : Array Value) (P : Nat) (v : Value) (xs : List Int) : Prop where
  d : DW w W base B a zs cap v xs
  kr : Bk W w.heap.size R
  kq : Bk W (w.heap.size + 1) Z
  kp : Bk W P O
  b2 : w.heap.size + 2 ≤ base
  p2 : w.heap.size + 2 ≤ P
  po : ∀ g, v.ownBlock = some g → g ≠ P
theorem OB.step {w W X : World} {base B : Nat} {a : Option Addr} {zs : List Int} {cap : Nat} {R Z O : Array Value} {P : Nat} {v : Value} {xs : List Int} (h : OB w W base B a zs cap R Z O P v xs) (hc : Cur X B a zs cap) (ht : Turn B W X) : OB w X base B a zs cap R Z O P v xs := by
  have hlo := h.d.ct.lo
  have hp := h.p2
  exact ⟨h.d.step hc ht, h.kr.turn ht (by omega), h.kq.turn ht (by omega), h.kp.turn ht (by omega), h.b2, h.p2, h.po⟩
theorem OB.below {w W X : World} {base B : Nat} {a : Option Addr} {zs : List Int} {cap : Nat} {R Z O : Array Value} {P : Nat} {v : Value} {xs : List Int} (h : OB w W base B a zs cap R Z O P v xs) (hb : Below W.heap.size W X) : OB w X base B a zs cap R Z O P v xs :=
  ⟨h.d.below hb, h.kr.below hb, h.kq.below hb, h.kp.below hb, h.b2, h.p2, h.po⟩
theorem OB.put {w W : World} {base B : Nat} {a : Option Addr} {zs : List Int} {cap : Nat} {R Z O O' : Array Value} {P : Nat} {v : Value} {xs : List Int} (h : OB w W base B a zs cap R Z O P v xs) (j : Nat) (u : Value) (hj : j < O.size) (he : O.set! j u = O') : OB w (W.setCell ⟨P, j, none⟩ u) base B a zs cap R Z O' P v xs := by
  have hp := h.p2
  exact ⟨h.d.set (by omega) h.po, h.kr.other _ _ _ (by omega), h.kq.other _ _ _ (by omega), h.kp.set j u hj he, h.b2, h.p2, h.po⟩
theorem OB.list {w W X : World} {base B : Nat} {a : Option Addr} {zs : List Int} {cap : Nat} {R Z O : Array Value} {P : Nat} {v v2 : Value} {xs ys : List Int} (h : OB w W base B a zs cap R Z O P v xs) (hd : DW W X W.heap.size B a zs cap v2 ys) : OB w X W.heap.size B a zs cap R Z O P v2 ys := by
  have hlo := h.d.ct.lo
  have hp := h.p2
  have hpl := h.kp.lt
  exact ⟨hd.from h.d.ct, h.kr.turn hd.ct.turn (by omega), h.kq.turn hd.ct.turn (by omega), h.kp.turn hd.ct.turn (by omega), Nat.le_trans h.b2 h.d.ls, h.p2, fun g e => by have := (hd.own.lt g e).1; omega⟩
theorem OB.grow {w W YA w9 : World} {base B : Nat} {a : Option Addr} {zs : List Int} {cap : Nat} {R Z O : Array Value} {P gg n c : Nat} {v : Value} {xs ys : List Int} (h : OB w W base B a zs cap R Z O P v xs) (hal : Below W.heap.size W YA) (g2 : YA.grownBy w9 v.ownBlock) (ho : OwnU w9 base (.slice (some ⟨gg, 0, none⟩) n c) ys) (hat : v.ownBlock = some gg ∨ gg = YA.heap.size) : OB w w9 base B a zs cap R Z O P (.slice (some ⟨gg, 0, none⟩) n c) ys := by
  have hA := h.d.below hal
  have hb2 := h.b2
  have hpl := h.kp.lt
  have hsz := hal.size
  exact ⟨hA.low (Below.grown (Below.refl _ _) g2 hA.ls (fun g e => (hA.own.lt g e).1)) ho (by simp), Bk.grown (h.kr.below hal) g2 (lo := base) (fun g e => (hA.own.lt g e).1) (by omega), Bk.grown (h.kq.below hal) g2 (lo := base) (fun g e => (hA.own.lt g e).1) (by omega), Bk.grownNe (h.kp.below hal) g2 (fun e => h.po P e rfl), h.b2, h.p2, fun g e => by
    have e' : gg = g := by have : some gg = some g := e; injection this
    subst e'
    rcases hat with h1 | h1
    · exact h.po _ h1
    · omega⟩
/-- What a drawn end is. -/
def EndP (w : World) (B : Nat) (a : Option Addr) (zs : List Int) (cap : Nat) (w' : World) (v : Value) (xs : List Int) : Prop :=
  xs.length ≤ 14 ∧ OwnU w' w.heap.size v xs ∧ v ≠ .slice none 0 0 ∧ Cur w' B a zs cap ∧ Turn B w w'
theorem OB.fin {w W : World} {base B : Nat} {a : Option Addr} {zs : List Int} {cap : Nat} {R Z O : Array Value} {P : Nat} {v : Value} {xs : List Int} (h : OB w W base B a zs cap R Z O P v xs) (hl : xs.length ≤ 14) (u0 u1 : Value) :
    EndP w B a zs cap (W.setCell ⟨w.heap.size + 1, 0, none⟩ u0) v xs ∧ EndP w B a zs cap ((W.setCell ⟨w.heap.size + 1, 0, none⟩ u0).setCell ⟨w.heap.size + 1, 1, none⟩ u1) v xs := by
  have hb2 := h.b2
  have hv : ∀ g, v.ownBlock = some g → g ≠ w.heap.size + 1 := fun g e => by have := (h.d.own.lt g e).1; omega
  have h1 := h.d.set (Y := w.heap.size + 1) (j := 0) (u := u0) (by omega) hv
  have h2 := h1.set (Y := w.heap.size + 1) (j := 1) (u := u1) (by omega) hv
  exact ⟨⟨hl, h1.own.low h1.le, h1.nv, h1.ct.cur, h1.ct.turn⟩, ⟨hl, h2.own.low h2.le, h2.nv, h2.ct.cur, h2.ct.turn⟩⟩
set_option maxRecDepth 20000 in
set_option maxHeartbeats 4000000 in
theorem draw_out (w : World) (B : Nat) (a : Option Addr) (zs : List Int) (cap : Nat) (k f t d : Int) (hc : Cur w B a zs cap) (hd1 : -1 ≤ d) (hd2 : d ≤ 9) :
    Calls Try.prog 17 #[.pointer (some ⟨B, 0, none⟩), crw k f t d] w fun e w' => ∃ (h : Int) (v : Value) (xs : List Int), e = .returned (.agg #[.int .i64 h, v]) ∧ (-1 ≤ h ∧ h ≤ 10) ∧ EndP w B a zs cap w' v xs := by
  have HLO : Hid (B < w.heap.size) := hc.lt
  have HC0 : Hid (CT w ((w.alloc (.cells (crow k f t d) 25)).alloc (.cells #[.int .i64 0, .slice none 0 0] 28)) B a zs cap) := ((CT.start hc).alloc _).alloc _
  have KR0 : Hid (Bk ((w.alloc (.cells (crow k f t d) 25)).alloc (.cells #[.int .i64 0, .slice none 0 0] 28)) w.heap.size (crow k f t d)) := (Bk.new _ _ _ _ rfl).alloc _
  have KQ0 : Hid (Bk ((w.alloc (.cells (crow k f t d) 25)).alloc (.cells #[.int .i64 0, .slice none 0 0] 28)) (w.heap.size + 1) #[.int .i64 0, .slice none 0 0]) := Bk.new _ _ _ _ (by simp)
  have HZ0 : Hid (w.heap.size + 2 ≤ ((w.alloc (.cells (crow k f t d) 25)).alloc (.cells #[.int .i64 0, .slice none 0 0] 28)).heap.size) := by show _ ≤ _; simp
  clear hc
  obtain ⟨iS, hi1, hi2, hi3, hi4⟩ := infoU'
  have HIN : Hid (Try.prog.info? 33 = some iS ∧ iS.zero = some (.int .u32 0) ∧ iS.size = 1 ∧ iS.bytes = 4) := ⟨hi1, hi2, hi3, hi4⟩
  clear hi1 hi2 hi3 hi4
  go_enter Try.func17, Try.ntmps17
  go_wp2_with fail
  refine (draw_below _ _ _ _ _ _ HC0.out.cur (by omega) (by omega)).mono ?_
  rintro e w1 ⟨x1, rfl, hx0, hx1, hc1, ht1⟩
  have HC1 : Hid (CT w w1 B a zs cap) := HC0.out.step hc1 ht1
  have KR1 : Hid (Bk w1 w.heap.size (crow k f t d)) := KR0.out.turn ht1 (by have := HLO.out; omega)
  have KQ1 : Hid (Bk w1 (w.heap.size + 1) #[.int .i64 0, .slice none 0 0]) := KQ0.out.turn ht1 (by have := HLO.out; omega)
  have HZ1 : Hid (w.heap.size + 2 ≤ w1.heap.size) := Nat.le_trans HZ0.out ht1.size
  clear HC0 KR0 KQ0 HZ0 hc1 ht1
  obtain ⟨X1, rfl⟩ : ∃ X : Nat, x1 = (X : Int) := ⟨x1.toNat, by omega⟩
  go_wp2_with fail
  refine (draw_words _ _ _ _ _ X1 HC1.out.cur (by omega)).mono ?_
  rintro e w2 ⟨v, xs, rfl, hxl, hd⟩
  obtain ⟨g0, cp0, rfl, hcp0⟩ := hd.own.shape hd.nv hxl
  clear hcp0
  obtain ⟨P, hP⟩ : ∃ P, w2.heap.size = P := ⟨_, rfl⟩
  have HDW : Hid (DW w1 w2 w1.heap.size B a zs cap (.slice (some ⟨g0, 0, none⟩) X1 cp0) xs) := hd
  have HO : Hid (OB w (w2.alloc (.cells #[.int .i64 0, .slice (some ⟨g0, 0, none⟩) X1 cp0] 28)) w1.heap.size B a zs cap (crow k f t d) #[.int .i64 0, .slice none 0 0] #[.int .i64 0, .slice (some ⟨g0, 0, none⟩) X1 cp0] P (.slice (some ⟨g0, 0, none⟩) X1 cp0) xs) := by
    have hlo := HLO.out
    have hz := HZ1.out
    have hs2 := hd.ct.turn.size
    have ha : Below w2.heap.size w2 (w2.alloc (.cells #[.int .i64 0, .slice (some ⟨g0, 0, none⟩) X1 cp0] 28)) := (Below.refl _ _).alloc (Nat.le_refl _) _
    exact ⟨(hd.from HC1.out).below ha, (KR1.out.turn hd.ct.turn (by omega)).below ha, (KQ1.out.turn hd.ct.turn (by omega)).below ha, Bk.new _ _ _ _ hP.symm, hz, by omega, fun g e => by have := (hd.own.lt g e).2; omega⟩
  have HXL : Hid (xs.length ≤ 12) := by show _ ≤ _; omega
  obtain ⟨base, hbase⟩ : ∃ b, w1.heap.size = b := ⟨_, rfl⟩
  rw [hbase] at HO
  have HPB : Hid (B < w.heap.size ∧ w.heap.size + 2 ≤ P) := ⟨HLO.out, HO.out.p2⟩
  clear HC1 KR1 KQ1 HDW HZ1 hd hxl
  have c0 := HO.out.kr.cell 0 _ rfl
  cases hk : (k == 1)
  · go_wp2_with fail
    clear c0
    revert HO
    generalize (w2.alloc (.cells #[.int .i64 0, .slice (some ⟨g0, 0, none⟩) X1 cp0] 28)) = V
    try rw [hP]
    clear hP hbase
    intro HO
    refine (draw_below _ _ _ _ _ _ HO.out.d.ct.cur (by omega) (by omega)).mono ?_
    rintro e w20 ⟨s, rfl, hs0, hs1, hc20, ht20⟩
    replace HO : Hid (OB w w20 base B a zs cap (crow k f t d) #[.int .i64 0, .slice none 0 0] #[.int .i64 ((0 : Int)), .slice (some ⟨g0, 0, none⟩) X1 cp0] P (.slice (some ⟨g0, 0, none⟩) X1 cp0) xs) := HO.out.step hc20 ht20
    clear hc20 ht20
    cases hs00 : (s == 0)
    · cases hs01 : (s == 1)
      · replace HXL : Hid (xs.length ≤ 14) := Nat.le_trans HXL.out (by omega)
        have p0 := HO.out.kq.cell 0 _ rfl
        have r0 := HO.out.kp.cell 0 _ rfl
        have p1 := HO.out.kq.cell 1 _ rfl
        have r1 := HO.out.kp.cell 1 _ rfl
        have pf := HO.out.kq.free
        have H9 : Hid (EndP w B a zs cap ((w20.setCell ⟨w.heap.size + 1, 0, none⟩ (.int .i64 ((0 : Int)))).setCell ⟨w.heap.size + 1, 1, none⟩ (.slice (some ⟨g0, 0, none⟩) X1 cp0)) (.slice (some ⟨g0, 0, none⟩) X1 cp0) xs) := (HO.out.fin HXL.out (.int .i64 ((0 : Int))) (.slice (some ⟨g0, 0, none⟩) X1 cp0)).2
        have K9 : Hid (Bk ((w20.setCell ⟨w.heap.size + 1, 0, none⟩ (.int .i64 ((0 : Int)))).setCell ⟨w.heap.size + 1, 1, none⟩ (.slice (some ⟨g0, 0, none⟩) X1 cp0)) (w.heap.size + 1) #[.int .i64 (0 : Int), .slice (some ⟨g0, 0, none⟩) X1 cp0]) := (HO.out.kq.set 0 (.int .i64 ((0 : Int))) (by simp) (cs' := #[.int .i64 ((0 : Int)), .slice none 0 0]) rfl).set 1 (.slice (some ⟨g0, 0, none⟩) X1 cp0) (by simp) rfl
        clear HO
        go_wp2
        clear p0 r0 p1 r1 pf
        revert H9 K9
        generalize ((w20.setCell ⟨w.heap.size + 1, 0, none⟩ (.int .i64 ((0 : Int)))).setCell ⟨w.heap.size + 1, 1, none⟩ (.slice (some ⟨g0, 0, none⟩) X1 cp0)) = Wf
        intro H9 K9
        have q0 := K9.out.cell 0 _ rfl
        have q1 := K9.out.cell 1 _ rfl
        exact bodyPost_ret (v := .agg #[.int .i64 ((0 : Int)), .slice (some ⟨g0, 0, none⟩) X1 cp0]) (by simp [results, Try.results17, go_sem, q0, q1]) rfl ⟨_, _, xs, rfl, (by omega), H9.out⟩
      · have r1b := HO.out.kp.cell 1 _ rfl
        have hal : Below w20.heap.size w20 (w20.alloc (.cells #[.int .u32 5, .int .u32 6] 33)) := (Below.refl _ _).alloc (Nat.le_refl _) _
        have HPA : Hid (OB w (w20.alloc (.cells #[.int .u32 5, .int .u32 6] 33)) base B a zs cap (crow k f t d) #[.int .i64 0, .slice none 0 0] #[.int .i64 (0 : Int), .slice (some ⟨g0, 0, none⟩) X1 cp0] P (.slice (some ⟨g0, 0, none⟩) X1 cp0) xs) := HO.out.below hal
        have hownA : (w20.alloc (.cells #[.int .u32 5, .int .u32 6] 33)).ownsRow base 33 1 (.slice (some ⟨g0, 0, none⟩) X1 cp0) xs.length (xs.map (Value.int .u32)) := HPA.out.d.own
        have HSZ : Hid (base ≤ (w20.alloc (.cells #[.int .u32 5, .int .u32 6] 33)).heap.size) := HPA.out.d.ls
        have hsl : xs.length ≤ 2000 := by have := HXL.out; omega
        obtain ⟨N, HN⟩ : ∃ N, Hid (xs.length + 2 = N) := ⟨_, rfl⟩
        have HZ : Hid (∀ (gg cap1 : Nat) (w9 : World), w9.ownsRow base 33 1 (.slice (some ⟨gg, 0, none⟩) (xs.length + 2) cap1) (xs.length + 2) (xs.map (Value.int .u32) ++ [.int .u32 5, .int .u32 6]) → (w20.alloc (.cells #[.int .u32 5, .int .u32 6] 33)).grownBy w9 (.slice (some ⟨g0, 0, none⟩) X1 cp0 : Value).ownBlock → ((.slice (some ⟨g0, 0, none⟩) X1 cp0 : Value).ownBlock = some gg ∨ gg = (w20.alloc (.cells #[.int .u32 5, .int .u32 6] 33)).heap.size) → OB w w9 base B a zs cap (crow k f t d) #[.int .i64 0, .slice none 0 0] #[.int .i64 (0 : Int), .slice (some ⟨g0, 0, none⟩) X1 cp0] P (.slice (some ⟨gg, 0, none⟩) N cap1) (xs ++ [5, 6])) := fun gg cap1 w9 g1 g2 g3 => by rw [← HN.out]; exact HO.out.grow hal g2 (OwnU.snoc2 g1) g3
        have HXL2 : Hid ((xs ++ [5, 6]).length ≤ 14) := by show _ ≤ _; have := HXL.out; simp; omega
        clear hal HPA HO
        go_wp2_with (at_builtin; (refine wpList_append_lies _ rfl (.tmp 45) (.tmp 46) 26 rfl base 33 iS (.int .u32 0) 1 4 Try.underlying26 HIN.out.1 HIN.out.2.1 HIN.out.2.2.1 HIN.out.2.2.2 rfl (by omega) (.slice (some ⟨g0, 0, none⟩) X1 cp0) xs.length (xs.map (Value.int .u32)) rfl hownA _ 2 2 [.int .u32 5, .int .u32 6] rfl rfl (news2 _ _ _ _ (by simp)) (one2 _ _) (by omega) (by unfold maxLen; omega) (by omega) HSZ.out _ rfl ?_; intro gg cap1 w9 hown1 hgrow hat hlt1; have HYY : Hid _ := HZ.out gg cap1 w9 hown1 hgrow hat; clear hown1 hgrow hat hlt1; rw [HN.out]; have r2 := HYY.out.kp.cell 1 _ rfl; have rf2 := HYY.out.kp.free; have HO2 : Hid (OB w (w9.setCell ⟨P, 1, none⟩ (.slice (some ⟨gg, 0, none⟩) N cap1)) base B a zs cap (crow k f t d) #[.int .i64 0, .slice none 0 0] #[.int .i64 (0 : Int), .slice (some ⟨gg, 0, none⟩) N cap1] P (.slice (some ⟨gg, 0, none⟩) N cap1) (xs ++ [5, 6])) := HYY.out.put 1 (.slice (some ⟨gg, 0, none⟩) N cap1) (by simp) rfl; have p0 := HO2.out.kq.cell 0 _ rfl; have r0 := HO2.out.kp.cell 0 _ rfl; have p1 := HO2.out.kq.cell 1 _ rfl; have r1 := HO2.out.kp.cell 1 _ rfl; have pf := HO2.out.kq.free; clear HYY))
        clear HZ HN hownA HSZ HXL hsl
        revert HO2 HXL2
        generalize xs ++ [5, 6] = xs
        intro HXL HO
        have H9 : Hid (EndP w B a zs cap (((w9.setCell ⟨P, 1, none⟩ (.slice (some ⟨gg, 0, none⟩) N cap1)).setCell ⟨w.heap.size + 1, 0, none⟩ (.int .i64 ((0 : Int)))).setCell ⟨w.heap.size + 1, 1, none⟩ (.slice (some ⟨gg, 0, none⟩) N cap1)) (.slice (some ⟨gg, 0, none⟩) N cap1) xs) := (HO.out.fin HXL.out (.int .i64 ((0 : Int))) (.slice (some ⟨gg, 0, none⟩) N cap1)).2
        have K9 : Hid (Bk (((w9.setCell ⟨P, 1, none⟩ (.slice (some ⟨gg, 0, none⟩) N cap1)).setCell ⟨w.heap.size + 1, 0, none⟩ (.int .i64 ((0 : Int)))).setCell ⟨w.heap.size + 1, 1, none⟩ (.slice (some ⟨gg, 0, none⟩) N cap1)) (w.heap.size + 1) #[.int .i64 (0 : Int), .slice (some ⟨gg, 0, none⟩) N cap1]) := (HO.out.kq.set 0 (.int .i64 ((0 : Int))) (by simp) (cs' := #[.int .i64 ((0 : Int)), .slice none 0 0]) rfl).set 1 (.slice (some ⟨gg, 0, none⟩) N cap1) (by simp) rfl
        clear HO p0 r0 p1 r1 pf r1b r2 rf2
        revert H9 K9
        generalize (((w9.setCell ⟨P, 1, none⟩ (.slice (some ⟨gg, 0, none⟩) N cap1)).setCell ⟨w.heap.size + 1, 0, none⟩ (.int .i64 ((0 : Int)))).setCell ⟨w.heap.size + 1, 1, none⟩ (.slice (some ⟨gg, 0, none⟩) N cap1)) = Wf
        intro H9 K9
        have q0 := K9.out.cell 0 _ rfl
        have q1 := K9.out.cell 1 _ rfl
        exact bodyPost_ret (v := .agg #[.int .i64 ((0 : Int)), .slice (some ⟨gg, 0, none⟩) N cap1]) (by simp [results, Try.results17, go_sem, q0, q1]) rfl ⟨_, _, xs, rfl, (by omega), H9.out⟩
    · obtain ⟨h1, hh1⟩ : ∃ x, (0 : Int) + 1 = x := ⟨_, rfl⟩
      have hwh : IntKind.i64.wrap ((0 : Int) + 1) = h1 := by rw [hh1, IntKind.wrap_i64]; omega
      have r0 := HO.out.kp.cell 0 _ rfl
      have HW : Hid (Own .i64 (w20.alloc (.cells #[.int .i64 (-1), .int .i64 9, .int .i64 h1] 3)) w20.heap.size [-1, 9, h1]) := own_litD .i64 w20 3 [-1, 9, h1]
      have HO2 : Hid (OB w (w20.alloc (.cells #[.int .i64 (-1), .int .i64 9, .int .i64 h1] 3)) base B a zs cap (crow k f t d) #[.int .i64 0, .slice none 0 0] #[.int .i64 ((0 : Int)), .slice (some ⟨g0, 0, none⟩) X1 cp0] P (.slice (some ⟨g0, 0, none⟩) X1 cp0) xs) := HO.out.below ((Below.refl _ _).alloc (Nat.le_refl _) _)
      have hgB : B < w20.heap.size := HO.out.d.ct.cur.lt
      clear HO
      go_wp2_with fail
      refine (draw_pick _ _ _ _ _ _ [-1, 9, h1] HO2.out.d.ct.cur HW.out (by omega) (by simp) (by simp)).mono ?_
      rintro e w21 ⟨y, rfl, hy, hc21, ht21⟩
      have HO3 : Hid (OB w w21 base B a zs cap (crow k f t d) #[.int .i64 0, .slice none 0 0] #[.int .i64 ((0 : Int)), .slice (some ⟨g0, 0, none⟩) X1 cp0] P (.slice (some ⟨g0, 0, none⟩) X1 cp0) xs) := HO2.out.step hc21 ht21
      have hyb : -1 ≤ y ∧ y ≤ 10 := by simp at hy; omega
      have HO : Hid (OB w (w21.setCell ⟨P, 0, none⟩ (.int .i64 y)) base B a zs cap (crow k f t d) #[.int .i64 0, .slice none 0 0] #[.int .i64 y, .slice (some ⟨g0, 0, none⟩) X1 cp0] P (.slice (some ⟨g0, 0, none⟩) X1 cp0) xs) := HO3.out.put 0 (.int .i64 y) (by simp) rfl
      have e0 := HO3.out.kp.cell 0 _ rfl
      have ef := HO3.out.kp.free
      clear HO2 HO3 HW hc21 ht21 hy r0 hwh hh1
      replace HXL : Hid (xs.length ≤ 14) := Nat.le_trans HXL.out (by omega)
      have p0 := HO.out.kq.cell 0 _ rfl
      have r0 := HO.out.kp.cell 0 _ rfl
      have p1 := HO.out.kq.cell 1 _ rfl
      have r1 := HO.out.kp.cell 1 _ rfl
      have pf := HO.out.kq.free
      have H9 : Hid (EndP w B a zs cap (((w21.setCell ⟨P, 0, none⟩ (.int .i64 y)).setCell ⟨w.heap.size + 1, 0, none⟩ (.int .i64 (y))).setCell ⟨w.heap.size + 1, 1, none⟩ (.slice (some ⟨g0, 0, none⟩) X1 cp0)) (.slice (some ⟨g0, 0, none⟩) X1 cp0) xs) := (HO.out.fin HXL.out (.int .i64 (y)) (.slice (some ⟨g0, 0, none⟩) X1 cp0)).2
      have K9 : Hid (Bk (((w21.setCell ⟨P, 0, none⟩ (.int .i64 y)).setCell ⟨w.heap.size + 1, 0, none⟩ (.int .i64 (y))).setCell ⟨w.heap.size + 1, 1, none⟩ (.slice (some ⟨g0, 0, none⟩) X1 cp0)) (w.heap.size + 1) #[.int .i64 y, .slice (some ⟨g0, 0, none⟩) X1 cp0]) := (HO.out.kq.set 0 (.int .i64 (y)) (by simp) (cs' := #[.int .i64 (y), .slice none 0 0]) rfl).set 1 (.slice (some ⟨g0, 0, none⟩) X1 cp0) (by simp) rfl
      clear HO
      go_wp2
      clear p0 r0 p1 r1 pf
      revert H9 K9
      generalize (((w21.setCell ⟨P, 0, none⟩ (.int .i64 y)).setCell ⟨w.heap.size + 1, 0, none⟩ (.int .i64 (y))).setCell ⟨w.heap.size + 1, 1, none⟩ (.slice (some ⟨g0, 0, none⟩) X1 cp0)) = Wf
      intro H9 K9
      have q0 := K9.out.cell 0 _ rfl
      have q1 := K9.out.cell 1 _ rfl
      exact bodyPost_ret (v := .agg #[.int .i64 (y), .slice (some ⟨g0, 0, none⟩) X1 cp0]) (by simp [results, Try.results17, go_sem, q0, q1]) rfl ⟨_, _, xs, rfl, (by omega), H9.out⟩
  · have hk' : k = 1 := by simpa using hk
    subst hk'
    have c3 := HO.out.kr.cell 3 _ rfl
    have hwd : IntKind.i64.wrap (d + 1) = d + 1 := by rw [IntKind.wrap_i64]; omega
    go_wp2_with fail
    revert HO c0 c3
    generalize (w2.alloc (.cells #[.int .i64 0, .slice (some ⟨g0, 0, none⟩) X1 cp0] 28)) = V
    try rw [hP]
    clear hP hbase
    intro HO c0 c3
    refine (draw_belowA _ _ _ _ _ _ HO.out.d.ct.cur (by omega)).mono ?_
    rintro e w5 ⟨h, rfl, hh, hc5, ht5⟩
    have HO5 : Hid (OB w w5 base B a zs cap (crow 1 f t d) #[.int .i64 0, .slice none 0 0] #[.int .i64 0, .slice (some ⟨g0, 0, none⟩) X1 cp0] P (.slice (some ⟨g0, 0, none⟩) X1 cp0) xs) := HO.out.step hc5 ht5
    have e0 := HO5.out.kp.cell 0 _ rfl
    have ef := HO5.out.kp.free
    have HO6 : Hid (OB w (w5.setCell ⟨P, 0, none⟩ (.int .i64 (h : Int))) base B a zs cap (crow 1 f t d) #[.int .i64 0, .slice none 0 0] #[.int .i64 (h : Int), .slice (some ⟨g0, 0, none⟩) X1 cp0] P (.slice (some ⟨g0, 0, none⟩) X1 cp0) xs) := HO5.out.put 0 (.int .i64 (h : Int)) (by simp) rfl
    have c3 := HO6.out.kr.cell 3 _ rfl
    have c0 := HO6.out.kp.cell 0 _ rfl
    clear HO HO5 hc5 ht5
    have hw1 : IntKind.i64.wrap (d - (h : Int)) = d - h := by rw [IntKind.wrap_i64]; omega
    have hw2 : IntKind.i64.wrap (d - (h : Int) + 1) = d - h + 1 := by rw [IntKind.wrap_i64]; omega
    go_wp2_with fail
    clear e0 ef
    revert HO6 c3 c0
    generalize (w5.setCell ⟨P, 0, none⟩ (.int .i64 (h : Int))) = V6
    intro HO c3 c0
    refine (draw_belowA _ _ _ _ _ _ HO.out.d.ct.cur (by omega)).mono ?_
    rintro e w7 ⟨m, rfl, hm, hc7, ht7⟩
    have HO7 : Hid (OB w w7 base B a zs cap (crow 1 f t d) #[.int .i64 0, .slice none 0 0] #[.int .i64 (h : Int), .slice (some ⟨g0, 0, none⟩) X1 cp0] P (.slice (some ⟨g0, 0, none⟩) X1 cp0) xs) := HO.out.step hc7 ht7
    clear HO hc7 ht7 c3 c0
    go_wp2_with fail
    refine (draw_words _ _ _ _ _ m HO7.out.d.ct.cur (by omega)).mono ?_
    rintro e w8 ⟨v8, ys, rfl, hyl, hd8⟩
    obtain ⟨g8, cp8, rfl, hcp8⟩ := hd8.own.shape hd8.nv hyl
    clear hcp8
    have HO8 : Hid (OB w w8 w7.heap.size B a zs cap (crow 1 f t d) #[.int .i64 0, .slice none 0 0] #[.int .i64 (h : Int), .slice (some ⟨g0, 0, none⟩) X1 cp0] P (.slice (some ⟨g8, 0, none⟩) m cp8) ys) := HO7.out.list hd8
    have HXL8 : Hid (ys.length ≤ 12) := by show _ ≤ _; omega
    have e1 := HO8.out.kp.cell 1 _ rfl
    have ef := HO8.out.kp.free
    obtain ⟨base8, hbase8⟩ : ∃ b, w7.heap.size = b := ⟨_, rfl⟩
    rw [hbase8] at HO8
    clear hd8 HO7 hyl HXL
    have HO : Hid (OB w (w8.setCell ⟨P, 1, none⟩ (.slice (some ⟨g8, 0, none⟩) m cp8)) base8 B a zs cap (crow 1 f t d) #[.int .i64 0, .slice none 0 0] #[.int .i64 (h : Int), .slice (some ⟨g8, 0, none⟩) m cp8] P (.slice (some ⟨g8, 0, none⟩) m cp8) ys) := HO8.out.put 1 (.slice (some ⟨g8, 0, none⟩) m cp8) (by simp) rfl
    clear HO8
    go_wp2_with fail
    clear e1 ef hw1 hw2 hwd
    revert HO
    generalize (w8.setCell ⟨P, 1, none⟩ (.slice (some ⟨g8, 0, none⟩) m cp8)) = V9
    intro HO
    revert HO HXL8
    generalize base8 = base
    generalize ys = xs
    intro HXL HO
    refine (draw_below _ _ _ _ _ _ HO.out.d.ct.cur (by omega) (by omega)).mono ?_
    rintro e w20 ⟨s, rfl, hs0, hs1, hc20, ht20⟩
    replace HO : Hid (OB w w20 base B a zs cap (crow 1 f t d) #[.int .i64 0, .slice none 0 0] #[.int .i64 ((h : Int)), .slice (some ⟨g8, 0, none⟩) m cp8] P (.slice (some ⟨g8, 0, none⟩) m cp8) xs) := HO.out.step hc20 ht20
    clear hc20 ht20
    cases hs00 : (s == 0)
    · cases hs01 : (s == 1)
      · replace HXL : Hid (xs.length ≤ 14) := Nat.le_trans HXL.out (by omega)
        have p0 := HO.out.kq.cell 0 _ rfl
        have r0 := HO.out.kp.cell 0 _ rfl
        have p1 := HO.out.kq.cell 1 _ rfl
        have r1 := HO.out.kp.cell 1 _ rfl
        have pf := HO.out.kq.free
        have H9 : Hid (EndP w B a zs cap ((w20.setCell ⟨w.heap.size + 1, 0, none⟩ (.int .i64 ((h : Int)))).setCell ⟨w.heap.size + 1, 1, none⟩ (.slice (some ⟨g8, 0, none⟩) m cp8)) (.slice (some ⟨g8, 0, none⟩) m cp8) xs) := (HO.out.fin HXL.out (.int .i64 ((h : Int))) (.slice (some ⟨g8, 0, none⟩) m cp8)).2
        have K9 : Hid (Bk ((w20.setCell ⟨w.heap.size + 1, 0, none⟩ (.int .i64 ((h : Int)))).setCell ⟨w.heap.size + 1, 1, none⟩ (.slice (some ⟨g8, 0, none⟩) m cp8)) (w.heap.size + 1) #[.int .i64 (h : Int), .slice (some ⟨g8, 0, none⟩) m cp8]) := (HO.out.kq.set 0 (.int .i64 ((h : Int))) (by simp) (cs' := #[.int .i64 ((h : Int)), .slice none 0 0]) rfl).set 1 (.slice (some ⟨g8, 0, none⟩) m cp8) (by simp) rfl
        clear HO
        go_wp2
        clear p0 r0 p1 r1 pf
        revert H9 K9
        generalize ((w20.setCell ⟨w.heap.size + 1, 0, none⟩ (.int .i64 ((h : Int)))).setCell ⟨w.heap.size + 1, 1, none⟩ (.slice (some ⟨g8, 0, none⟩) m cp8)) = Wf
        intro H9 K9
        have q0 := K9.out.cell 0 _ rfl
        have q1 := K9.out.cell 1 _ rfl
        exact bodyPost_ret (v := .agg #[.int .i64 ((h : Int)), .slice (some ⟨g8, 0, none⟩) m cp8]) (by simp [results, Try.results17, go_sem, q0, q1]) rfl ⟨_, _, xs, rfl, (by omega), H9.out⟩
      · have r1b := HO.out.kp.cell 1 _ rfl
        have hal : Below w20.heap.size w20 (w20.alloc (.cells #[.int .u32 5, .int .u32 6] 33)) := (Below.refl _ _).alloc (Nat.le_refl _) _
        have HPA : Hid (OB w (w20.alloc (.cells #[.int .u32 5, .int .u32 6] 33)) base B a zs cap (crow 1 f t d) #[.int .i64 0, .slice none 0 0] #[.int .i64 (h : Int), .slice (some ⟨g8, 0, none⟩) m cp8] P (.slice (some ⟨g8, 0, none⟩) m cp8) xs) := HO.out.below hal
        have hownA : (w20.alloc (.cells #[.int .u32 5, .int .u32 6] 33)).ownsRow base 33 1 (.slice (some ⟨g8, 0, none⟩) m cp8) xs.length (xs.map (Value.int .u32)) := HPA.out.d.own
        have HSZ : Hid (base ≤ (w20.alloc (.cells #[.int .u32 5, .int .u32 6] 33)).heap.size) := HPA.out.d.ls
        have hsl : xs.length ≤ 2000 := by have := HXL.out; omega
        obtain ⟨N, HN⟩ : ∃ N, Hid (xs.length + 2 = N) := ⟨_, rfl⟩
        have HZ : Hid (∀ (gg cap1 : Nat) (w9 : World), w9.ownsRow base 33 1 (.slice (some ⟨gg, 0, none⟩) (xs.length + 2) cap1) (xs.length + 2) (xs.map (Value.int .u32) ++ [.int .u32 5, .int .u32 6]) → (w20.alloc (.cells #[.int .u32 5, .int .u32 6] 33)).grownBy w9 (.slice (some ⟨g8, 0, none⟩) m cp8 : Value).ownBlock → ((.slice (some ⟨g8, 0, none⟩) m cp8 : Value).ownBlock = some gg ∨ gg = (w20.alloc (.cells #[.int .u32 5, .int .u32 6] 33)).heap.size) → OB w w9 base B a zs cap (crow 1 f t d) #[.int .i64 0, .slice none 0 0] #[.int .i64 (h : Int), .slice (some ⟨g8, 0, none⟩) m cp8] P (.slice (some ⟨gg, 0, none⟩) N cap1) (xs ++ [5, 6])) := fun gg cap1 w9 g1 g2 g3 => by rw [← HN.out]; exact HO.out.grow hal g2 (OwnU.snoc2 g1) g3
        have HXL2 : Hid ((xs ++ [5, 6]).length ≤ 14) := by show _ ≤ _; have := HXL.out; simp; omega
        clear hal HPA HO
        go_wp2_with (at_builtin; (refine wpList_append_lies _ rfl (.tmp 45) (.tmp 46) 26 rfl base 33 iS (.int .u32 0) 1 4 Try.underlying26 HIN.out.1 HIN.out.2.1 HIN.out.2.2.1 HIN.out.2.2.2 rfl (by omega) (.slice (some ⟨g8, 0, none⟩) m cp8) xs.length (xs.map (Value.int .u32)) rfl hownA _ 2 2 [.int .u32 5, .int .u32 6] rfl rfl (news2 _ _ _ _ (by simp)) (one2 _ _) (by omega) (by unfold maxLen; omega) (by omega) HSZ.out _ rfl ?_; intro gg cap1 w9 hown1 hgrow hat hlt1; have HYY : Hid _ := HZ.out gg cap1 w9 hown1 hgrow hat; clear hown1 hgrow hat hlt1; rw [HN.out]; have r2 := HYY.out.kp.cell 1 _ rfl; have rf2 := HYY.out.kp.free; have HO2 : Hid (OB w (w9.setCell ⟨P, 1, none⟩ (.slice (some ⟨gg, 0, none⟩) N cap1)) base B a zs cap (crow 1 f t d) #[.int .i64 0, .slice none 0 0] #[.int .i64 (h : Int), .slice (some ⟨gg, 0, none⟩) N cap1] P (.slice (some ⟨gg, 0, none⟩) N cap1) (xs ++ [5, 6])) := HYY.out.put 1 (.slice (some ⟨gg, 0, none⟩) N cap1) (by simp) rfl; have p0 := HO2.out.kq.cell 0 _ rfl; have r0 := HO2.out.kp.cell 0 _ rfl; have p1 := HO2.out.kq.cell 1 _ rfl; have r1 := HO2.out.kp.cell 1 _ rfl; have pf := HO2.out.kq.free; clear HYY))
        clear HZ HN hownA HSZ HXL hsl
        revert HO2 HXL2
        generalize xs ++ [5, 6] = xs
        intro HXL HO
        have H9 : Hid (EndP w B a zs cap (((w9.setCell ⟨P, 1, none⟩ (.slice (some ⟨gg, 0, none⟩) N cap1)).setCell ⟨w.heap.size + 1, 0, none⟩ (.int .i64 ((h : Int)))).setCell ⟨w.heap.size + 1, 1, none⟩ (.slice (some ⟨gg, 0, none⟩) N cap1)) (.slice (some ⟨gg, 0, none⟩) N cap1) xs) := (HO.out.fin HXL.out (.int .i64 ((h : Int))) (.slice (some ⟨gg, 0, none⟩) N cap1)).2
        have K9 : Hid (Bk (((w9.setCell ⟨P, 1, none⟩ (.slice (some ⟨gg, 0, none⟩) N cap1)).setCell ⟨w.heap.size + 1, 0, none⟩ (.int .i64 ((h : Int)))).setCell ⟨w.heap.size + 1, 1, none⟩ (.slice (some ⟨gg, 0, none⟩) N cap1)) (w.heap.size + 1) #[.int .i64 (h : Int), .slice (some ⟨gg, 0, none⟩) N cap1]) := (HO.out.kq.set 0 (.int .i64 ((h : Int))) (by simp) (cs' := #[.int .i64 ((h : Int)), .slice none 0 0]) rfl).set 1 (.slice (some ⟨gg, 0, none⟩) N cap1) (by simp) rfl
        clear HO p0 r0 p1 r1 pf r1b r2 rf2
        revert H9 K9
        generalize (((w9.setCell ⟨P, 1, none⟩ (.slice (some ⟨gg, 0, none⟩) N cap1)).setCell ⟨w.heap.size + 1, 0, none⟩ (.int .i64 ((h : Int)))).setCell ⟨w.heap.size + 1, 1, none⟩ (.slice (some ⟨gg, 0, none⟩) N cap1)) = Wf
        intro H9 K9
        have q0 := K9.out.cell 0 _ rfl
        have q1 := K9.out.cell 1 _ rfl
        exact bodyPost_ret (v := .agg #[.int .i64 ((h : Int)), .slice (some ⟨gg, 0, none⟩) N cap1]) (by simp [results, Try.results17, go_sem, q0, q1]) rfl ⟨_, _, xs, rfl, (by omega), H9.out⟩
    · obtain ⟨h1, hh1⟩ : ∃ x, (h : Int) + 1 = x := ⟨_, rfl⟩
      have hwh : IntKind.i64.wrap ((h : Int) + 1) = h1 := by rw [hh1, IntKind.wrap_i64]; omega
      have r0 := HO.out.kp.cell 0 _ rfl
      have HW : Hid (Own .i64 (w20.alloc (.cells #[.int .i64 (-1), .int .i64 9, .int .i64 h1] 3)) w20.heap.size [-1, 9, h1]) := own_litD .i64 w20 3 [-1, 9, h1]
      have HO2 : Hid (OB w (w20.alloc (.cells #[.int .i64 (-1), .int .i64 9, .int .i64 h1] 3)) base B a zs cap (crow 1 f t d) #[.int .i64 0, .slice none 0 0] #[.int .i64 ((h : Int)), .slice (some ⟨g8, 0, none⟩) m cp8] P (.slice (some ⟨g8, 0, none⟩) m cp8) xs) := HO.out.below ((Below.refl _ _).alloc (Nat.le_refl _) _)
      have hgB : B < w20.heap.size := HO.out.d.ct.cur.lt
      clear HO
      go_wp2_with fail
      refine (draw_pick _ _ _ _ _ _ [-1, 9, h1] HO2.out.d.ct.cur HW.out (by omega) (by simp) (by simp)).mono ?_
      rintro e w21 ⟨y, rfl, hy, hc21, ht21⟩
      have HO3 : Hid (OB w w21 base B a zs cap (crow 1 f t d) #[.int .i64 0, .slice none 0 0] #[.int .i64 ((h : Int)), .slice (some ⟨g8, 0, none⟩) m cp8] P (.slice (some ⟨g8, 0, none⟩) m cp8) xs) := HO2.out.step hc21 ht21
      have hyb : -1 ≤ y ∧ y ≤ 10 := by simp at hy; omega
      have HO : Hid (OB w (w21.setCell ⟨P, 0, none⟩ (.int .i64 y)) base B a zs cap (crow 1 f t d) #[.int .i64 0, .slice none 0 0] #[.int .i64 y, .slice (some ⟨g8, 0, none⟩) m cp8] P (.slice (some ⟨g8, 0, none⟩) m cp8) xs) := HO3.out.put 0 (.int .i64 y) (by simp) rfl
      have e0 := HO3.out.kp.cell 0 _ rfl
      have ef := HO3.out.kp.free
      clear HO2 HO3 HW hc21 ht21 hy r0 hwh hh1
      replace HXL : Hid (xs.length ≤ 14) := Nat.le_trans HXL.out (by omega)
      have p0 := HO.out.kq.cell 0 _ rfl
      have r0 := HO.out.kp.cell 0 _ rfl
      have p1 := HO.out.kq.cell 1 _ rfl
      have r1 := HO.out.kp.cell 1 _ rfl
      have pf := HO.out.kq.free
      have H9 : Hid (EndP w B a zs cap (((w21.setCell ⟨P, 0, none⟩ (.int .i64 y)).setCell ⟨w.heap.size + 1, 0, none⟩ (.int .i64 (y))).setCell ⟨w.heap.size + 1, 1, none⟩ (.slice (some ⟨g8, 0, none⟩) m cp8)) (.slice (some ⟨g8, 0, none⟩) m cp8) xs) := (HO.out.fin HXL.out (.int .i64 (y)) (.slice (some ⟨g8, 0, none⟩) m cp8)).2
      have K9 : Hid (Bk (((w21.setCell ⟨P, 0, none⟩ (.int .i64 y)).setCell ⟨w.heap.size + 1, 0, none⟩ (.int .i64 (y))).setCell ⟨w.heap.size + 1, 1, none⟩ (.slice (some ⟨g8, 0, none⟩) m cp8)) (w.heap.size + 1) #[.int .i64 y, .slice (some ⟨g8, 0, none⟩) m cp8]) := (HO.out.kq.set 0 (.int .i64 (y)) (by simp) (cs' := #[.int .i64 (y), .slice none 0 0]) rfl).set 1 (.slice (some ⟨g8, 0, none⟩) m cp8) (by simp) rfl
      clear HO
      go_wp2
      clear p0 r0 p1 r1 pf
      revert H9 K9
      generalize (((w21.setCell ⟨P, 0, none⟩ (.int .i64 y)).setCell ⟨w.heap.size + 1, 0, none⟩ (.int .i64 (y))).setCell ⟨w.heap.size + 1, 1, none⟩ (.slice (some ⟨g8, 0, none⟩) m cp8)) = Wf
      intro H9 K9
      have q0 := K9.out.cell 0 _ rfl
      have q1 := K9.out.cell 1 _ rfl
      exact bodyPost_ret (v := .agg #[.int .i64 (y), .slice (some ⟨g8, 0, none⟩) m cp8]) (by simp [results, Try.results17, go_sem, q0, q1]) rfl ⟨_, _, xs, rfl, (by omega), H9.out⟩
set_option maxRecDepth 20000 in
set_option maxHeartbeats 4000000 in
theorem draw_in (w : World) (B : Nat) (a : Option Addr) (zs : List Int) (cap : Nat) (k f t d h : Int) (hc : Cur w B a zs cap) (hh1 : -1 ≤ h) (hh2 : h ≤ 10) :
    Calls Try.prog 18 #[.pointer (some ⟨B, 0, none⟩), crw k f t d, .int .i64 h] w fun e w' => ∃ (v : Value) (xs : List Int), e = .returned (.agg #[v]) ∧ EndP w B a zs cap w' v xs := by
  have HLO : Hid (B < w.heap.size) := hc.lt
  have HC0 : Hid (CT w ((w.alloc (.cells (crow k f t d) 25)).alloc (.cells #[.slice none 0 0] 30)) B a zs cap) := ((CT.start hc).alloc _).alloc _
  have KR0 : Hid (Bk ((w.alloc (.cells (crow k f t d) 25)).alloc (.cells #[.slice none 0 0] 30)) w.heap.size (crow k f t d)) := (Bk.new _ _ _ _ rfl).alloc _
  have KQ0 : Hid (Bk ((w.alloc (.cells (crow k f t d) 25)).alloc (.cells #[.slice none 0 0] 30)) (w.heap.size + 1) #[.slice none 0 0]) := Bk.new _ _ _ _ (by simp)
  have HZ0 : Hid (w.heap.size + 2 ≤ ((w.alloc (.cells (crow k f t d) 25)).alloc (.cells #[.slice none 0 0] 30)).heap.size) := by show _ ≤ _; simp
  clear hc
  obtain ⟨iS, hi1, hi2, hi3, hi4⟩ := infoU'
  have HIN : Hid (Try.prog.info? 33 = some iS ∧ iS.zero = some (.int .u32 0) ∧ iS.size = 1 ∧ iS.bytes = 4) := ⟨hi1, hi2, hi3, hi4⟩
  clear hi1 hi2 hi3 hi4
  go_enter Try.func18, Try.ntmps18
  go_wp2_with fail
  refine (draw_below _ _ _ _ _ _ HC0.out.cur (by omega) (by omega)).mono ?_
  rintro e w1 ⟨x1, rfl, hx0, hx1, hc1, ht1⟩
  have HC1 : Hid (CT w w1 B a zs cap) := HC0.out.step hc1 ht1
  have KR1 : Hid (Bk w1 w.heap.size (crow k f t d)) := KR0.out.turn ht1 (by have := HLO.out; omega)
  have KQ1 : Hid (Bk w1 (w.heap.size + 1) #[.slice none 0 0]) := KQ0.out.turn ht1 (by have := HLO.out; omega)
  have HZ1 : Hid (w.heap.size + 2 ≤ w1.heap.size) := Nat.le_trans HZ0.out ht1.size
  clear HC0 KR0 KQ0 HZ0 hc1 ht1
  obtain ⟨X1, rfl⟩ : ∃ X : Nat, x1 = (X : Int) := ⟨x1.toNat, by omega⟩
  go_wp2_with fail
  refine (draw_words _ _ _ _ _ X1 HC1.out.cur (by omega)).mono ?_
  rintro e w2 ⟨v, xs, rfl, hxl, hd⟩
  obtain ⟨g0, cp0, rfl, hcp0⟩ := hd.own.shape hd.nv hxl
  clear hcp0
  obtain ⟨P, hP⟩ : ∃ P, w2.heap.size = P := ⟨_, rfl⟩
  have HDW : Hid (DW w1 w2 w1.heap.size B a zs cap (.slice (some ⟨g0, 0, none⟩) X1 cp0) xs) := hd
  have HO : Hid (OB w (w2.alloc (.cells #[.slice (some ⟨g0, 0, none⟩) X1 cp0] 30)) w1.heap.size B a zs cap (crow k f t d) #[.slice none 0 0] #[.slice (some ⟨g0, 0, none⟩) X1 cp0] P (.slice (some ⟨g0, 0, none⟩) X1 cp0) xs) := by
    have hlo := HLO.out
    have hz := HZ1.out
    have hs2 := hd.ct.turn.size
    have ha : Below w2.heap.size w2 (w2.alloc (.cells #[.slice (some ⟨g0, 0, none⟩) X1 cp0] 30)) := (Below.refl _ _).alloc (Nat.le_refl _) _
    exact ⟨(hd.from HC1.out).below ha, (KR1.out.turn hd.ct.turn (by omega)).below ha, (KQ1.out.turn hd.ct.turn (by omega)).below ha, Bk.new _ _ _ _ hP.symm, hz, by omega, fun g e => by have := (hd.own.lt g e).2; omega⟩
  have HXL : Hid (xs.length ≤ 12) := by show _ ≤ _; omega
  obtain ⟨base, hbase⟩ : ∃ b, w1.heap.size = b := ⟨_, rfl⟩
  rw [hbase] at HO
  have HPB : Hid (B < w.heap.size ∧ w.heap.size + 2 ≤ P) := ⟨HLO.out, HO.out.p2⟩
  clear HC1 KR1 KQ1 HDW HZ1 hd hxl
  have c0 := HO.out.kr.cell 0 _ rfl
  cases hk : (k == 1)
  · go_wp2_with fail
    clear c0
    revert HO
    generalize (w2.alloc (.cells #[.slice (some ⟨g0, 0, none⟩) X1 cp0] 30)) = V
    try rw [hP]
    clear hP hbase
    intro HO
    refine (draw_once _ _ _ _ _ _ HO.out.d.ct.cur (by omega) (by omega)).mono ?_
    rintro e w20 ⟨q, rfl, hc20, ht20⟩
    replace HO : Hid (OB w w20 base B a zs cap (crow k f t d) #[.slice none 0 0] #[.slice (some ⟨g0, 0, none⟩) X1 cp0] P (.slice (some ⟨g0, 0, none⟩) X1 cp0) xs) := HO.out.step hc20 ht20
    clear hc20 ht20
    cases q
    · replace HXL : Hid (xs.length ≤ 14) := Nat.le_trans HXL.out (by omega)
      have p0 := HO.out.kq.cell 0 _ rfl
      have r0 := HO.out.kp.cell 0 _ rfl
      have pf := HO.out.kq.free
      have H9 : Hid (EndP w B a zs cap (w20.setCell ⟨w.heap.size + 1, 0, none⟩ (.slice (some ⟨g0, 0, none⟩) X1 cp0)) (.slice (some ⟨g0, 0, none⟩) X1 cp0) xs) := (HO.out.fin HXL.out (.slice (some ⟨g0, 0, none⟩) X1 cp0) (.slice (some ⟨g0, 0, none⟩) X1 cp0)).1
      have K9 : Hid (Bk (w20.setCell ⟨w.heap.size + 1, 0, none⟩ (.slice (some ⟨g0, 0, none⟩) X1 cp0)) (w.heap.size + 1) #[.slice (some ⟨g0, 0, none⟩) X1 cp0]) := HO.out.kq.set 0 (.slice (some ⟨g0, 0, none⟩) X1 cp0) (by simp) rfl
      clear HO
      go_wp2
      clear p0 r0 pf
      revert H9 K9
      generalize (w20.setCell ⟨w.heap.size + 1, 0, none⟩ (.slice (some ⟨g0, 0, none⟩) X1 cp0)) = Wf
      intro H9 K9
      have q0 := K9.out.cell 0 _ rfl
      exact bodyPost_ret (v := .agg #[.slice (some ⟨g0, 0, none⟩) X1 cp0]) (by simp [results, Try.results18, go_sem, q0]) rfl ⟨_, xs, rfl, H9.out⟩
    · have r1b := HO.out.kp.cell 0 _ rfl
      have hal : Below w20.heap.size w20 (w20.alloc (.cells #[.int .u32 5, .int .u32 6] 33)) := (Below.refl _ _).alloc (Nat.le_refl _) _
      have HPA : Hid (OB w (w20.alloc (.cells #[.int .u32 5, .int .u32 6] 33)) base B a zs cap (crow k f t d) #[.slice none 0 0] #[.slice (some ⟨g0, 0, none⟩) X1 cp0] P (.slice (some ⟨g0, 0, none⟩) X1 cp0) xs) := HO.out.below hal
      have hownA : (w20.alloc (.cells #[.int .u32 5, .int .u32 6] 33)).ownsRow base 33 1 (.slice (some ⟨g0, 0, none⟩) X1 cp0) xs.length (xs.map (Value.int .u32)) := HPA.out.d.own
      have HSZ : Hid (base ≤ (w20.alloc (.cells #[.int .u32 5, .int .u32 6] 33)).heap.size) := HPA.out.d.ls
      have hsl : xs.length ≤ 2000 := by have := HXL.out; omega
      obtain ⟨N, HN⟩ : ∃ N, Hid (xs.length + 2 = N) := ⟨_, rfl⟩
      have HZ : Hid (∀ (gg cap1 : Nat) (w9 : World), w9.ownsRow base 33 1 (.slice (some ⟨gg, 0, none⟩) (xs.length + 2) cap1) (xs.length + 2) (xs.map (Value.int .u32) ++ [.int .u32 5, .int .u32 6]) → (w20.alloc (.cells #[.int .u32 5, .int .u32 6] 33)).grownBy w9 (.slice (some ⟨g0, 0, none⟩) X1 cp0 : Value).ownBlock → ((.slice (some ⟨g0, 0, none⟩) X1 cp0 : Value).ownBlock = some gg ∨ gg = (w20.alloc (.cells #[.int .u32 5, .int .u32 6] 33)).heap.size) → OB w w9 base B a zs cap (crow k f t d) #[.slice none 0 0] #[.slice (some ⟨g0, 0, none⟩) X1 cp0] P (.slice (some ⟨gg, 0, none⟩) N cap1) (xs ++ [5, 6])) := fun gg cap1 w9 g1 g2 g3 => by rw [← HN.out]; exact HO.out.grow hal g2 (OwnU.snoc2 g1) g3
      have HXL2 : Hid ((xs ++ [5, 6]).length ≤ 14) := by show _ ≤ _; have := HXL.out; simp; omega
      clear hal HPA HO
      go_wp2_with (at_builtin; (refine wpList_append_lies _ rfl (.tmp 26) (.tmp 27) 26 rfl base 33 iS (.int .u32 0) 1 4 Try.underlying26 HIN.out.1 HIN.out.2.1 HIN.out.2.2.1 HIN.out.2.2.2 rfl (by omega) (.slice (some ⟨g0, 0, none⟩) X1 cp0) xs.length (xs.map (Value.int .u32)) rfl hownA _ 2 2 [.int .u32 5, .int .u32 6] rfl rfl (news2 _ _ _ _ (by simp)) (one2 _ _) (by omega) (by unfold maxLen; omega) (by omega) HSZ.out _ rfl ?_; intro gg cap1 w9 hown1 hgrow hat hlt1; have HYY : Hid _ := HZ.out gg cap1 w9 hown1 hgrow hat; clear hown1 hgrow hat hlt1; rw [HN.out]; have r2 := HYY.out.kp.cell 0 _ rfl; have rf2 := HYY.out.kp.free; have HO2 : Hid (OB w (w9.setCell ⟨P, 0, none⟩ (.slice (some ⟨gg, 0, none⟩) N cap1)) base B a zs cap (crow k f t d) #[.slice none 0 0] #[.slice (some ⟨gg, 0, none⟩) N cap1] P (.slice (some ⟨gg, 0, none⟩) N cap1) (xs ++ [5, 6])) := HYY.out.put 0 (.slice (some ⟨gg, 0, none⟩) N cap1) (by simp) rfl; have p0 := HO2.out.kq.cell 0 _ rfl; have r0 := HO2.out.kp.cell 0 _ rfl; have pf := HO2.out.kq.free; clear HYY))
      clear HZ HN hownA HSZ HXL hsl
      revert HO2 HXL2
      generalize xs ++ [5, 6] = xs
      intro HXL HO
      have H9 : Hid (EndP w B a zs cap ((w9.setCell ⟨P, 0, none⟩ (.slice (some ⟨gg, 0, none⟩) N cap1)).setCell ⟨w.heap.size + 1, 0, none⟩ (.slice (some ⟨gg, 0, none⟩) N cap1)) (.slice (some ⟨gg, 0, none⟩) N cap1) xs) := (HO.out.fin HXL.out (.slice (some ⟨gg, 0, none⟩) N cap1) (.slice (some ⟨gg, 0, none⟩) N cap1)).1
      have K9 : Hid (Bk ((w9.setCell ⟨P, 0, none⟩ (.slice (some ⟨gg, 0, none⟩) N cap1)).setCell ⟨w.heap.size + 1, 0, none⟩ (.slice (some ⟨gg, 0, none⟩) N cap1)) (w.heap.size + 1) #[.slice (some ⟨gg, 0, none⟩) N cap1]) := HO.out.kq.set 0 (.slice (some ⟨gg, 0, none⟩) N cap1) (by simp) rfl
      clear HO p0 r0 pf r1b r2 rf2
      revert H9 K9
      generalize ((w9.setCell ⟨P, 0, none⟩ (.slice (some ⟨gg, 0, none⟩) N cap1)).setCell ⟨w.heap.size + 1, 0, none⟩ (.slice (some ⟨gg, 0, none⟩) N cap1)) = Wf
      intro H9 K9
      have q0 := K9.out.cell 0 _ rfl
      exact bodyPost_ret (v := .agg #[.slice (some ⟨gg, 0, none⟩) N cap1]) (by simp [results, Try.results18, go_sem, q0]) rfl ⟨_, xs, rfl, H9.out⟩
  · have hk' : k = 1 := by simpa using hk
    subst hk'
    have hwd : IntKind.i64.wrap (h + 1) = h + 1 := by rw [IntKind.wrap_i64]; omega
    go_wp2_with fail
    revert HO c0
    generalize (w2.alloc (.cells #[.slice (some ⟨g0, 0, none⟩) X1 cp0] 30)) = V
    try rw [hP]
    clear hP hbase
    intro HO c0
    refine (draw_belowA _ _ _ _ _ _ HO.out.d.ct.cur (by omega)).mono ?_
    rintro e w7 ⟨m, rfl, hm, hc7, ht7⟩
    have HO7 : Hid (OB w w7 base B a zs cap (crow 1 f t d) #[.slice none 0 0] #[.slice (some ⟨g0, 0, none⟩) X1 cp0] P (.slice (some ⟨g0, 0, none⟩) X1 cp0) xs) := HO.out.step hc7 ht7
    clear HO hc7 ht7 c0
    go_wp2_with fail
    refine (draw_words _ _ _ _ _ m HO7.out.d.ct.cur (by omega)).mono ?_
    rintro e w8 ⟨v8, ys, rfl, hyl, hd8⟩
    obtain ⟨g8, cp8, rfl, hcp8⟩ := hd8.own.shape hd8.nv hyl
    clear hcp8
    have HO8 : Hid (OB w w8 w7.heap.size B a zs cap (crow 1 f t d) #[.slice none 0 0] #[.slice (some ⟨g0, 0, none⟩) X1 cp0] P (.slice (some ⟨g8, 0, none⟩) m cp8) ys) := HO7.out.list hd8
    have HXL8 : Hid (ys.length ≤ 12) := by show _ ≤ _; omega
    have e1 := HO8.out.kp.cell 0 _ rfl
    have ef := HO8.out.kp.free
    obtain ⟨base8, hbase8⟩ : ∃ b, w7.heap.size = b := ⟨_, rfl⟩
    rw [hbase8] at HO8
    clear hd8 HO7 hyl HXL
    have HO : Hid (OB w (w8.setCell ⟨P, 0, none⟩ (.slice (some ⟨g8, 0, none⟩) m cp8)) base8 B a zs cap (crow 1 f t d) #[.slice none 0 0] #[.slice (some ⟨g8, 0, none⟩) m cp8] P (.slice (some ⟨g8, 0, none⟩) m cp8) ys) := HO8.out.put 0 (.slice (some ⟨g8, 0, none⟩) m cp8) (by simp) rfl
    clear HO8
    go_wp2_with fail
    clear e1 ef hwd
    revert HO
    generalize (w8.setCell ⟨P, 0, none⟩ (.slice (some ⟨g8, 0, none⟩) m cp8)) = V9
    intro HO
    revert HO HXL8
    generalize base8 = base
    generalize ys = xs
    intro HXL HO
    refine (draw_once _ _ _ _ _ _ HO.out.d.ct.cur (by omega) (by omega)).mono ?_
    rintro e w20 ⟨q, rfl, hc20, ht20⟩
    replace HO : Hid (OB w w20 base B a zs cap (crow 1 f t d) #[.slice none 0 0] #[.slice (some ⟨g8, 0, none⟩) m cp8] P (.slice (some ⟨g8, 0, none⟩) m cp8) xs) := HO.out.step hc20 ht20
    clear hc20 ht20
    cases q
    · replace HXL : Hid (xs.length ≤ 14) := Nat.le_trans HXL.out (by omega)
      have p0 := HO.out.kq.cell 0 _ rfl
      have r0 := HO.out.kp.cell 0 _ rfl
      have pf := HO.out.kq.free
      have H9 : Hid (EndP w B a zs cap (w20.setCell ⟨w.heap.size + 1, 0, none⟩ (.slice (some ⟨g8, 0, none⟩) m cp8)) (.slice (some ⟨g8, 0, none⟩) m cp8) xs) := (HO.out.fin HXL.out (.slice (some ⟨g8, 0, none⟩) m cp8) (.slice (some ⟨g8, 0, none⟩) m cp8)).1
      have K9 : Hid (Bk (w20.setCell ⟨w.heap.size + 1, 0, none⟩ (.slice (some ⟨g8, 0, none⟩) m cp8)) (w.heap.size + 1) #[.slice (some ⟨g8, 0, none⟩) m cp8]) := HO.out.kq.set 0 (.slice (some ⟨g8, 0, none⟩) m cp8) (by simp) rfl
      clear HO
      go_wp2
      clear p0 r0 pf
      revert H9 K9
      generalize (w20.setCell ⟨w.heap.size + 1, 0, none⟩ (.slice (some ⟨g8, 0, none⟩) m cp8)) = Wf
      intro H9 K9
      have q0 := K9.out.cell 0 _ rfl
      exact bodyPost_ret (v := .agg #[.slice (some ⟨g8, 0, none⟩) m cp8]) (by simp [results, Try.results18, go_sem, q0]) rfl ⟨_, xs, rfl, H9.out⟩
    · have r1b := HO.out.kp.cell 0 _ rfl
      have hal : Below w20.heap.size w20 (w20.alloc (.cells #[.int .u32 5, .int .u32 6] 33)) := (Below.refl _ _).alloc (Nat.le_refl _) _
      have HPA : Hid (OB w (w20.alloc (.cells #[.int .u32 5, .int .u32 6] 33)) base B a zs cap (crow 1 f t d) #[.slice none 0 0] #[.slice (some ⟨g8, 0, none⟩) m cp8] P (.slice (some ⟨g8, 0, none⟩) m cp8) xs) := HO.out.below hal
      have hownA : (w20.alloc (.cells #[.int .u32 5, .int .u32 6] 33)).ownsRow base 33 1 (.slice (some ⟨g8, 0, none⟩) m cp8) xs.length (xs.map (Value.int .u32)) := HPA.out.d.own
      have HSZ : Hid (base ≤ (w20.alloc (.cells #[.int .u32 5, .int .u32 6] 33)).heap.size) := HPA.out.d.ls
      have hsl : xs.length ≤ 2000 := by have := HXL.out; omega
      obtain ⟨N, HN⟩ : ∃ N, Hid (xs.length + 2 = N) := ⟨_, rfl⟩
      have HZ : Hid (∀ (gg cap1 : Nat) (w9 : World), w9.ownsRow base 33 1 (.slice (some ⟨gg, 0, none⟩) (xs.length + 2) cap1) (xs.length + 2) (xs.map (Value.int .u32) ++ [.int .u32 5, .int .u32 6]) → (w20.alloc (.cells #[.int .u32 5, .int .u32 6] 33)).grownBy w9 (.slice (some ⟨g8, 0, none⟩) m cp8 : Value).ownBlock → ((.slice (some ⟨g8, 0, none⟩) m cp8 : Value).ownBlock = some gg ∨ gg = (w20.alloc (.cells #[.int .u32 5, .int .u32 6] 33)).heap.size) → OB w w9 base B a zs cap (crow 1 f t d) #[.slice none 0 0] #[.slice (some ⟨g8, 0, none⟩) m cp8] P (.slice (some ⟨gg, 0, none⟩) N cap1) (xs ++ [5, 6])) := fun gg cap1 w9 g1 g2 g3 => by rw [← HN.out]; exact HO.out.grow hal g2 (OwnU.snoc2 g1) g3
      have HXL2 : Hid ((xs ++ [5, 6]).length ≤ 14) := by show _ ≤ _; have := HXL.out; simp; omega
      clear hal HPA HO
      go_wp2_with (at_builtin; (refine wpList_append_lies _ rfl (.tmp 26) (.tmp 27) 26 rfl base 33 iS (.int .u32 0) 1 4 Try.underlying26 HIN.out.1 HIN.out.2.1 HIN.out.2.2.1 HIN.out.2.2.2 rfl (by omega) (.slice (some ⟨g8, 0, none⟩) m cp8) xs.length (xs.map (Value.int .u32)) rfl hownA _ 2 2 [.int .u32 5, .int .u32 6] rfl rfl (news2 _ _ _ _ (by simp)) (one2 _ _) (by omega) (by unfold maxLen; omega) (by omega) HSZ.out _ rfl ?_; intro gg cap1 w9 hown1 hgrow hat hlt1; have HYY : Hid _ := HZ.out gg cap1 w9 hown1 hgrow hat; clear hown1 hgrow hat hlt1; rw [HN.out]; have r2 := HYY.out.kp.cell 0 _ rfl; have rf2 := HYY.out.kp.free; have HO2 : Hid (OB w (w9.setCell ⟨P, 0, none⟩ (.slice (some ⟨gg, 0, none⟩) N cap1)) base B a zs cap (crow 1 f t d) #[.slice none 0 0] #[.slice (some ⟨gg, 0, none⟩) N cap1] P (.slice (some ⟨gg, 0, none⟩) N cap1) (xs ++ [5, 6])) := HYY.out.put 0 (.slice (some ⟨gg, 0, none⟩) N cap1) (by simp) rfl; have p0 := HO2.out.kq.cell 0 _ rfl; have r0 := HO2.out.kp.cell 0 _ rfl; have pf := HO2.out.kq.free; clear HYY))
      clear HZ HN hownA HSZ HXL hsl
      revert HO2 HXL2
      generalize xs ++ [5, 6] = xs
      intro HXL HO
      have H9 : Hid (EndP w B a zs cap ((w9.setCell ⟨P, 0, none⟩ (.slice (some ⟨gg, 0, none⟩) N cap1)).setCell ⟨w.heap.size + 1, 0, none⟩ (.slice (some ⟨gg, 0, none⟩) N cap1)) (.slice (some ⟨gg, 0, none⟩) N cap1) xs) := (HO.out.fin HXL.out (.slice (some ⟨gg, 0, none⟩) N cap1) (.slice (some ⟨gg, 0, none⟩) N cap1)).1
      have K9 : Hid (Bk ((w9.setCell ⟨P, 0, none⟩ (.slice (some ⟨gg, 0, none⟩) N cap1)).setCell ⟨w.heap.size + 1, 0, none⟩ (.slice (some ⟨gg, 0, none⟩) N cap1)) (w.heap.size + 1) #[.slice (some ⟨gg, 0, none⟩) N cap1]) := HO.out.kq.set 0 (.slice (some ⟨gg, 0, none⟩) N cap1) (by simp) rfl
      clear HO p0 r0 pf r1b r2 rf2
      revert H9 K9
      generalize ((w9.setCell ⟨P, 0, none⟩ (.slice (some ⟨gg, 0, none⟩) N cap1)).setCell ⟨w.heap.size + 1, 0, none⟩ (.slice (some ⟨gg, 0, none⟩) N cap1)) = Wf
      intro H9 K9
      have q0 := K9.out.cell 0 _ rfl
      exact bodyPost_ret (v := .agg #[.slice (some ⟨gg, 0, none⟩) N cap1]) (by simp [results, Try.results18, go_sem, q0]) rfl ⟨_, xs, rfl, H9.out⟩
end Go.Proofs.Ytobgaakcinjnaaa
