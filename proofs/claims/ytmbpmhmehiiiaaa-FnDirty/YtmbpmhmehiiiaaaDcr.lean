
/-
  What the draw of a shape and of uses returns: some shape, and at most 2002 uses in memory of the call's own. Conditions: the bytes drawn from are at most 1048576.
-/
import Derived.Test.YtmbpmhmehiiiaaaRows
import Derived.Test.YtmbpmhmehiiiaaaDraw
import Derived.Test.YtmbpmhmehiiiaaaUsl
import Derived.Test.YtmbpmhmehiiiaaaCpz
namespace Go.Proofs.Ytmbpmhmehiiiaaa
open Go.ChangeShapes Go.WideShapes Go.ChangeAt Go.RowKit Go.Deep
set_option linter.unusedVariables false
set_option maxRecDepth 20000

theorem Turn.grown {B : Nat} {w w' : World} (h : Turn B w w') : w.grownBy w' (some B) := ⟨h.os, h.tape, h.output, h.size, fun k hk hn => h.block k hk (fun e => hn (by rw [e]))⟩
theorem Cur.belowC {w w' : World} {B C : Nat} {a : Option Addr} {zs : List Int} {cap : Nat} (h : Cur w B a zs cap) (hb : Below C w w') (hB : B < C) (ha : ∀ b off, a = some ⟨b, off, none⟩ → 0 < zs.length → b < C) : Cur w' B a zs cap := by
  have hc : ∀ o, w'.cell? ⟨B, o, none⟩ = w.cell? ⟨B, o, none⟩ := fun o => hb.cell (p := ⟨B, o, none⟩) hB
  refine ⟨Nat.lt_of_lt_of_le h.lt hb.size, (hc 0).trans h.c0, ?_, ?_, fun i => (hb.frozen (p := ⟨B, i, none⟩) hB).trans (h.free i), ?_, h.far, h.byte, h.small⟩
  · obtain ⟨i, hi, e⟩ := h.c1
    exact ⟨i, hi, (hc 1).trans e⟩
  · obtain ⟨x, e⟩ := h.c2
    exact ⟨x, (hc 2).trans e⟩
  · intro h0
    obtain ⟨b, off, e, hlt, hcl⟩ := h.seg h0
    exact ⟨b, off, e, Nat.lt_of_lt_of_le hlt hb.size, fun i hi => (hb.cell (p := ⟨b, off + i, none⟩) (ha b off e h0)).trans (hcl i hi)⟩
theorem Turn.then_below {B : Nat} {a b c : World} (h : Turn B a b) (hb : Below a.heap.size b c) : Turn B a c :=
  ⟨hb.os.trans h.os, hb.tape.trans h.tape, hb.output.trans h.output, Nat.le_trans h.size hb.size, fun k hk hn => (hb.block k hk).trans (h.block k hk hn)⟩
theorem Turn.set_new {B : Nat} {a w : World} (h : Turn B a w) (k o : Nat) (v : Value) (hk : a.heap.size ≤ k) : Turn B a (w.setCell ⟨k, o, none⟩ v) := by
  have hb : Below a.heap.size w (w.setCell ⟨k, o, none⟩ v) := (Below.refl _ w).setCell (p := ⟨k, o, none⟩) hk v
  exact ⟨hb.os.trans h.os, hb.tape.trans h.tape, hb.output.trans h.output, Nat.le_trans h.size hb.size, fun j hj hn => (hb.block j hj).trans (h.block j hj hn)⟩
theorem Cur.set_other {w : World} {B : Nat} {a : Option Addr} {zs : List Int} {cap : Nat} (h : Cur w B a zs cap) (k o : Nat) (v : Value) (hne : k ≠ B) (hs : ∀ b off, a = some ⟨b, off, none⟩ → 0 < zs.length → b ≠ k) : Cur (w.setCell ⟨k, o, none⟩ v) B a zs cap := by
  have hx : ∀ i, (w.setCell ⟨k, o, none⟩ v).cell? ⟨B, i, none⟩ = w.cell? ⟨B, i, none⟩ := fun i => World.cell?_setCell_other _ _ _ _ (by intro c; injection c with c1 c2 c3; exact hne c1)
  obtain ⟨i, hi, e1⟩ := h.c1
  obtain ⟨x, e2⟩ := h.c2
  exact ⟨by simpa using h.lt, (hx 0).trans h.c0, ⟨i, hi, (hx 1).trans e1⟩, ⟨x, (hx 2).trans e2⟩, fun i => by simpa using h.free i, h.seg.turn ((Turn.refl k w).setCell o v) hs, h.far, h.byte, h.small⟩
theorem Cur.alloc {w : World} {B : Nat} {a : Option Addr} {zs : List Int} {cap : Nat} (h : Cur w B a zs cap) (o : Obj) : Cur (w.alloc o) B a zs cap := h.below ((Below.refl _ _).alloc (Nat.le_refl _) _)
theorem draw_once (w : World) (B : Nat) (a : Option Addr) (zs : List Int) (cap : Nat) (n : Int) (hc : Cur w B a zs cap) (h1 : 1 ≤ n) (h2 : n ≤ 4294967296) :
    Calls Try.prog 20 #[.pointer (some ⟨B, 0, none⟩), .int .i64 n] w fun e w' => ∃ x : Bool, e = .returned (.bool x) ∧ Cur w' B a zs cap ∧ Turn B w w' := by
  go_enter Try.func20, Try.ntmps20
  go_wp2_with fail
  refine (draw_below _ B _ _ _ n hc h1 h2).mono ?_
  rintro e w1 ⟨x, rfl, hx0, hx1, hc1, ht1⟩
  go_wp2
  go_ret
  exact ⟨_, rfl, hc1, ht1⟩
theorem draw_size (a : Option Addr) (n cap : Nat) (w : World) (h : n ≤ 1048576) : Calls Try.prog 19 #[.slice a n cap, .int .i64 80] w fun e w' => ∃ x : Int, e = .returned (.int .i64 x) ∧ 1 ≤ x ∧ x ≤ 80 ∧ w' = w := by
  by_cases hx : 80 < 2 + (n : Int) / 20
  · have h1 : decide (80 < 2 + (n : Int) / 20) = true := decide_eq_true hx
    go_enter Try.func19, Try.ntmps19
    go_wp2
    go_ret
    exact ⟨_, rfl, by omega, by omega, rfl⟩
  · have h1 : decide (80 < 2 + (n : Int) / 20) = false := decide_eq_false hx
    go_enter Try.func19, Try.ntmps19
    go_wp2
    go_ret
    exact ⟨_, rfl, by omega, by omega, rfl⟩
theorem big_no (a : Option Addr) (n cap : Nat) (w : World) (h : n ≤ 1048576) : Calls Try.prog 4 #[.slice a n cap] w fun e w' => e = .returned (.bool false) ∧ w' = w := by
  have h1 : decide (1048576 < (n : Int)) = false := decide_eq_false (by omega)
  go_enter Try.func4, Try.ntmps4
  go_wp2
  go_ret
  exact ⟨rfl, rfl⟩
theorem big_yes (a : Option Addr) (n cap : Nat) (w : World) (h : ¬ n ≤ 1048576) : Calls Try.prog 4 #[.slice a n cap] w fun e w' => e = .returned (.bool true) ∧ w' = w := by
  have h1 : decide (1048576 < (n : Int)) = true := decide_eq_true (by omega)
  go_enter Try.func4, Try.ntmps4
  go_wp2
  go_ret
  exact ⟨rfl, rfl⟩
set_option maxHeartbeats 1000000 in
theorem draw_shape (w : World) (B : Nat) (a : Option Addr) (zs : List Int) (cap : Nat) (hc : Cur w B a zs cap) :
    Calls Try.prog 16 #[.pointer (some ⟨B, 0, none⟩)] w fun e w' => ∃ s y l : Int, e = .returned (shp s y l) ∧ Cur w' B a zs cap ∧ Turn B w w' := by
  have hcl := hc.lt
  have HSL : Hid _ := seg_lt hc.seg
  have hb0 : Below w.heap.size w ((w.alloc (shrow 25 0 0 0)).alloc (.cells #[.int .i64 1, .int .i64 2, .int .i64 2, .int .i64 4, .int .i64 8, .int .i64 16] 3)) := ((Below.refl _ _).alloc (Nat.le_refl _) _).alloc (by simp) _
  have HC0 : Hid _ := hc.below hb0
  have HK0 : Hid (Bk ((w.alloc (shrow 25 0 0 0)).alloc (.cells #[.int .i64 1, .int .i64 2, .int .i64 2, .int .i64 4, .int .i64 8, .int .i64 16] 3)) w.heap.size #[.int .i64 0, .int .i64 0, .int .i64 0]) := (Bk.new w _ 25 _ rfl).alloc _
  have HT0 : Hid _ := Turn.of_below (B := B) hb0
  have HW0 : Hid _ := own_lit .i64 (w.alloc (shrow 25 0 0 0)) 3 [1, 2, 2, 4, 8, 16]
  clear hc hb0
  go_enter Try.func16, Try.ntmps16
  go_wp2_with fail
  refine Calls.mono (draw_pick _ B (w.heap.size + 1) _ _ _ [1, 2, 2, 4, 8, 16] HC0.out (by have := HW0.out; simpa using this) (by omega) (by decide) (by decide)) ?_
  rintro e w1 ⟨s, rfl, _, hc1, ht1⟩
  have HK1 : Hid (Bk w1 w.heap.size _) := ⟨Nat.lt_of_lt_of_le HK0.out.lt ht1.size, fun i v e => (ht1.cell HK0.out.lt (by omega)).trans (HK0.out.cell i v e), fun i => (ht1.frozen HK0.out.lt (by omega)).trans (HK0.out.free i)⟩
  have HT1 : Hid _ := HT0.out.trans ht1
  have HC1 : Hid _ := hc1
  clear ht1 hc1 HK0 HT0 HC0 HW0
  go_wp2_with fail
  refine Calls.mono (draw_below _ B _ _ _ _ HC1.out (by omega) (by omega)) ?_
  rintro e w2 ⟨y, rfl, hy0, hy1, hc2, ht2⟩
  have HK2 : Hid (Bk w2 w.heap.size _) := ⟨Nat.lt_of_lt_of_le HK1.out.lt ht2.size, fun i v e => (ht2.cell HK1.out.lt (by omega)).trans (HK1.out.cell i v e), fun i => (ht2.frozen HK1.out.lt (by omega)).trans (HK1.out.free i)⟩
  have hal : Below w2.heap.size w2 (w2.alloc (.cells #[.int .i64 4, .int .i64 8, .int .i64 8, .int .i64 16, .int .i64 32] 3)) := (Below.refl _ _).alloc (Nat.le_refl _) _
  have HT2 : Hid _ := (HT1.out.trans ht2).trans (Turn.of_below (B := B) hal)
  have HC2 : Hid _ := hc2.below hal
  have HK2a : Hid (Bk _ w.heap.size _) := HK2.out.below hal
  have HW2 : Hid _ := own_lit .i64 w2 3 [4, 8, 8, 16, 32]
  have HL2 : Hid (w2.heap.size ≠ B) := by have := hc2.lt; show _ ≠ _; omega
  clear ht2 hc2 hal HK1 HT1 HC1 HK2
  go_wp2_with fail
  refine Calls.mono (draw_pick _ B w2.heap.size _ _ _ [4, 8, 8, 16, 32] HC2.out HW2.out HL2.out (by decide) (by decide)) ?_
  rintro e w3 ⟨l, rfl, _, hc3, ht3⟩
  have B3 : Bk w3 w.heap.size _ := ⟨Nat.lt_of_lt_of_le HK2a.out.lt ht3.size, fun i v e => (ht3.cell HK2a.out.lt (by omega)).trans (HK2a.out.cell i v e), fun i => (ht3.frozen HK2a.out.lt (by omega)).trans (HK2a.out.free i)⟩
  have C0 := B3.set 0 (.int .i64 s) (by simp) rfl
  have C1 := C0.set 1 (.int .i64 (1 + y)) (by simp) rfl
  have C2 := C1.set 2 (.int .i64 l) (by simp) rfl
  have f := B3.free
  have m0 := B3.cell 0 _ rfl
  have m1 := C0.cell 1 _ rfl
  have m2 := C1.cell 2 _ rfl
  have n0 := C2.cell 0 _ rfl
  have n1 := C2.cell 1 _ rfl
  have n2 := C2.cell 2 _ rfl
  have hlt3 : w.heap.size ≠ B := by omega
  have HT3 := (((HT2.out.trans ht3).set_new w.heap.size 0 (.int .i64 s) (Nat.le_refl _)).set_new w.heap.size 1 (.int .i64 (1 + y)) (Nat.le_refl _)).set_new w.heap.size 2 (.int .i64 l) (Nat.le_refl _)
  have hfar : ∀ b off, a = some ⟨b, off, none⟩ → 0 < zs.length → b ≠ w.heap.size := fun b off e h0 => by have := HSL.out b off e h0; omega
  have HC3 := ((hc3.set_other w.heap.size 0 (.int .i64 s) hlt3 hfar).set_other w.heap.size 1 (.int .i64 (1 + y)) hlt3 hfar).set_other w.heap.size 2 (.int .i64 l) hlt3 hfar
  have HZ : Hid _ := And.intro HC3 HT3
  clear hc3 ht3 B3 C0 C1 C2 HC3 HT3 HT2 HC2 HW2 HK2a HL2
  go_wp2
  exact bodyPost_ret (v := shp s (1 + y) l) (by simp [results, Try.results16, go_sem, n0, n1, n2]) rfl ⟨_, _, _, rfl, HZ.out.1, HZ.out.2⟩
/-- Uses that the call owns, from block 'base' on. -/
def OwnU (w : World) (base : Nat) (v : Value) (us : List Wy) : Prop := w.ownsRow base 39 2 v us.length (wayCells us)
theorem OwnU.new (w : World) (B : Nat) (hB : B = w.heap.size) : OwnU (w.alloc (.cells #[] 39)) B (.slice (some ⟨B, 0, none⟩) 0 0) [] := by
  subst hB
  exact ⟨rfl, .inr ⟨w.heap.size, 0, #[], rfl, Nat.le_refl _, by show (w.heap.push _)[w.heap.size]? = _; simp, Nat.le_refl _, by simp, rfl, rfl⟩⟩
theorem OwnU.below {w w' : World} {base : Nat} {v : Value} {us : List Wy} (h : OwnU w base v us) (hb : Below w.heap.size w w') : OwnU w' base v us := ownsRow_below h hb
theorem OwnU.low {w : World} {base b' : Nat} {v : Value} {us : List Wy} (h : OwnU w base v us) (hle : b' ≤ base) : OwnU w b' v us := by
  refine ⟨h.1, ?_⟩
  rcases h.2 with hn | ⟨g, cap, cur, e, hb, rest⟩
  · exact .inl hn
  · exact .inr ⟨g, cap, cur, e, by omega, rest⟩
theorem OwnU.snoc {w : World} {base g cap : Nat} {us : List Wy} {x : Wy} (h : w.ownsRow base 39 2 (.slice (some ⟨g, 0, none⟩) (us.length + 1) cap) (us.length + 1) (wayCells us ++ [.int .i64 x.1, .bool x.2])) :
    OwnU w base (.slice (some ⟨g, 0, none⟩) (us.length + 1) cap) (us ++ [x]) := by
  unfold OwnU
  rw [wayCells_snoc]
  simpa using h
theorem OwnU.turn {w w' : World} {base B : Nat} {v : Value} {us : List Wy} (h : OwnU w base v us) (ht : Turn B w w') (hB : B < base) : OwnU w' base v us := by
  refine ⟨h.1, ?_⟩
  rcases h.2 with hn | ⟨g, cap, cur, e, hbs, hg, rest⟩
  · exact .inl hn
  · have hlt : g < w.heap.size := by
      rcases Nat.lt_or_ge g w.heap.size with hlt | hge
      · exact hlt
      · rw [Array.getElem?_eq_none hge] at hg; cases hg
    exact .inr ⟨g, cap, cur, e, hbs, by rw [ht.block g hlt (by omega)]; exact hg, rest⟩
theorem OwnU.seg {w : World} {base : Nat} {v : Value} {us : List Wy} (h : OwnU w base v us) : ∃ a cap, v = .slice a us.length cap ∧ WSeg w a us := by
  rcases h.2 with ⟨h0, h1⟩ | ⟨g, cap, cur, rfl, hb, hg, h1, h2, h3, h4⟩
  · exact ⟨none, 0, by rw [h0, h1], fun h => absurd h (by omega)⟩
  · have hlt : g < w.heap.size := by
      rcases Nat.lt_or_ge g w.heap.size with hlt | hge
      · exact hlt
      · rw [Array.getElem?_eq_none hge] at hg; cases hg
    refine ⟨_, cap, rfl, fun h0 => ⟨g, 0, rfl, hlt, fun i hi => ?_⟩⟩
    have hc : ∀ j v, (wayCells us)[j]? = some v → cur[j]? = some v := fun j v e => by
      have hj : j < (wayCells us).length := by
        rcases Nat.lt_or_ge j (wayCells us).length with g | g
        · exact g
        · rw [List.getElem?_eq_none g] at e; cases e
      rw [wayCells_len] at hj
      rw [← h4, List.getElem?_take, if_pos hj] at e
      simpa using e
    obtain ⟨g1, g2⟩ := wayCells_at us i hi
    rw [Nat.zero_add]
    refine ⟨?_, ?_⟩
    · simp [World.cell?, hg, hc _ _ g1]
    · simp [World.cell?, hg, hc _ _ g2]
theorem infoU' : ∃ i, Try.prog.info? 39 = some i ∧ i.zero = some (.agg #[.int .i64 0, .bool false]) ∧ i.size = 2 ∧ i.bytes = 16 := by
  obtain ⟨i, hi, h⟩ := Option.map_eq_some_iff.1 infoU
  simp only [Prod.mk.injEq] at h
  exact ⟨i, hi, h.1, h.2.1, h.2.2⟩
theorem news_use (w : World) (z : Int) (d : Bool) (B : Nat) (hB : B = w.heap.size) : ∀ j u, [Value.int .i64 z, .bool d][j]? = some u → (w.alloc (.cells #[.int .i64 z, .bool d] 39)).cell? ((⟨B, 0, none⟩ : Addr).add j) = some u := by
  subst hB
  exact World.news_of_block (cs := #[.int .i64 z, .bool d]) (t := 39) (fr := (0, 0)) (by show (w.heap.push _)[w.heap.size]? = _; simp)
theorem one_use (z : Int) (d : Bool) : ∀ u ∈ [Value.int .i64 z, .bool d], u.oneCell' = true := by
  intro u hu
  simp only [List.mem_cons, List.not_mem_nil, or_false] at hu
  rcases hu with rfl | rfl <;> rfl
set_option maxHeartbeats 1000000 in
theorem draw_uses (w : World) (B : Nat) (a : Option Addr) (zs : List Int) (cap n : Nat) (hc : Cur w B a zs cap) (hn : n ≤ 3000) :
    Calls Try.prog 17 #[.pointer (some ⟨B, 0, none⟩), .int .i64 (n : Int)] w fun e w' => ∃ v us, e = .returned v ∧ OwnU w' w.heap.size v us ∧ us.length = n ∧ v ≠ .slice none 0 0 ∧ Cur w' B a zs cap ∧ Turn B w w' := by
  have hcl := hc.lt
  have HSL : Hid _ := seg_lt hc.seg
  have hal : Below w.heap.size w (w.alloc (.cells #[] 39)) := (Below.refl _ _).alloc (Nat.le_refl _) _
  have HC0 : Hid _ := hc.below hal
  have HO0 : Hid (OwnU (w.alloc (.cells #[] 39)) w.heap.size (.slice (some ⟨w.heap.size, 0, none⟩) 0 0) []) := OwnU.new w _ rfl
  have HT0 : Hid _ := Turn.of_below (B := B) hal
  clear hc hal
  obtain ⟨iU, hi1, hi2, hi3, hi4⟩ := infoU'
  have HIN : Hid _ := And.intro hi1 (And.intro hi2 (And.intro hi3 hi4))
  clear hi1 hi2 hi3 hi4
  go_enter Try.func17, Try.ntmps17
  go_wp2_with fail
  refine Calls.mono (draw_below _ B _ _ _ _ HC0.out (by omega) (by omega)) ?_
  rintro e w1 ⟨x, rfl, hx0, hx1, hc1, ht1⟩
  have HI : Hid (Cur w1 B a zs cap ∧ Turn B w w1 ∧ OwnU w1 w.heap.size (.slice (some ⟨w.heap.size, 0, none⟩) 0 0) []) := ⟨hc1, HT0.out.trans ht1, OwnU.turn HO0.out ht1 hcl⟩
  clear hc1 ht1 HC0 HO0 HT0
  go_wp2
  go_loopw [5, 7] (fun v i wr => ∃ k : Nat, k ≤ n ∧ i = .int .i64 k ∧ Hid (∃ us, us.length = k ∧ Cur wr B a zs cap ∧ Turn B w wr ∧ OwnU wr w.heap.size v us ∧ v ≠ .slice none 0 0)) (fun _ i _ => n - (intOf i).toNat)
  case atStart => exact ⟨0, by omega, rfl, [], rfl, HI.out.1, HI.out.2.1, HI.out.2.2, by simp⟩
  case round =>
    obtain ⟨k, hk, rfl, HR⟩ := hrel
    clear HI
    by_cases hkn : k < n
    rotate_left
    · obtain rfl : k = n := by omega
      go_wp2
      go_ret
      obtain ⟨us, h1, h2, h3, h4, h5⟩ := HR.out
      exact ⟨_, us, rfl, h4, h1, h5, h2, h3⟩
    have hkn' : (k : Int) < (n : Int) := by omega
    go_wp2_with fail
    obtain ⟨us, hul, hc, ht, hown, _⟩ := HR.out
    refine Calls.mono (draw_below _ B _ _ _ _ hc (by omega) (by omega)) ?_
    rintro e w2 ⟨z, rfl, hz0, hz1, hc2, ht2⟩
    have HO2 : Hid (OwnU w2 w.heap.size u5 us) := OwnU.turn hown ht2 hcl
    have HT2 : Hid _ := ht.trans ht2
    have HC2 : Hid _ := hc2
    clear hc ht hown hc2 ht2 HR
    go_wp2_with fail
    refine Calls.mono (draw_once _ B _ _ _ _ HC2.out (by omega) (by omega)) ?_
    rintro e w3 ⟨q, rfl, hc3, ht3⟩
    have hown3 : OwnU w3 w.heap.size u5 us := OwnU.turn HO2.out ht3 hcl
    have hT3 := HT2.out.trans ht3
    have hal : Below w3.heap.size w3 (w3.alloc (.cells #[.int .i64 z, .bool q] 39)) := (Below.refl _ _).alloc (Nat.le_refl _) _
    have hown7 : (w3.alloc (.cells #[.int .i64 z, .bool q] 39)).ownsRow w.heap.size 39 2 u5 us.length (wayCells us) := World.ownsRow.alloc hown3 _
    have hlow := own_low hown3
    have HBS : Hid (w.heap.size ≤ (w3.alloc (.cells #[.int .i64 z, .bool q] 39)).heap.size) := Nat.le_trans hT3.size hal.size
    have HZ : Hid (∀ (gg cap1 : Nat) (w9 : World), w9.ownsRow w.heap.size 39 2 (.slice (some ⟨gg, 0, none⟩) (us.length + 1) cap1) (us.length + 1) (wayCells us ++ [.int .i64 z, .bool q]) → (w3.alloc (.cells #[.int .i64 z, .bool q] 39)).grownBy w9 u5.ownBlock → ∃ us', us'.length = k + 1 ∧ Cur w9 B a zs cap ∧ Turn B w w9 ∧ OwnU w9 w.heap.size (.slice (some ⟨gg, 0, none⟩) (us.length + 1) cap1) us' ∧ Value.slice (some ⟨gg, 0, none⟩) (us.length + 1) cap1 ≠ .slice none 0 0) := fun gg cap1 w9 h1 h2 => by
      have hb9 : Below w.heap.size w3 w9 := Below.grown (hal.mono hT3.size) h2 HBS.out hlow
      exact ⟨us ++ [(z, q)], by simp [hul], hc3.belowC hb9 hcl HSL.out, hT3.then_below hb9, OwnU.snoc (x := (z, q)) h1, fun e => by cases e⟩
    have hsl : us.length ≤ 3000 := by omega
    clear hown3 hT3 hal hlow hc3 ht3 HO2 HT2 HC2 hul
    go_wp2_with (at_builtin; (refine wpList_append_lies _ rfl (.tmp 17) (.tmp 24) 26 rfl w.heap.size 39 iU (.agg #[.int .i64 0, .bool false]) 2 16 Try.underlying26 HIN.out.1 HIN.out.2.1 HIN.out.2.2.1 HIN.out.2.2.2 rfl (by omega) _ _ _ rfl hown7 _ 1 1 [.int .i64 z, .bool q] rfl rfl (news_use _ _ _ _ (by simp)) (one_use _ _) (by omega) (by unfold maxLen; omega) (by omega) HBS.out _ rfl ?_; intro gg cap1 w9 hown1 hgrow hat hlt1; have HYY : Hid _ := HZ.out gg cap1 w9 hown1 hgrow; clear hown1 hgrow hat hlt1))
    go_roundw
    case rel => exact ⟨k + 1, by omega, by go_num, HYY⟩
    case measure => simp [intOf]; omega
end Go.Proofs.Ytmbpmhmehiiiaaa
