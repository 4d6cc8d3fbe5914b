
/-
  What the draw of uses of a cache returns: some shape, and at most 2002 uses. Conditions: the bytes drawn from are at most 1048576.
-/
import Derived.Test.YtmbpmhmehiiiaaaRows
import Derived.Test.YtmbpmhmehiiiaaaDcr
namespace Go.Proofs.Ytmbpmhmehiiiaaa
open Go.ChangeShapes Go.WideShapes Go.ChangeAt Go.RowKit Go.Deep
set_option linter.unusedVariables false
set_option maxRecDepth 20000

/-- The cursor, the answer's room, the shape in its variable and the uses so far. -/
structure DS (w W : World) (B Q : Nat) (a : Option Addr) (zs : List Int) (cap : Nat) (s y l : Int) (v : Value) (us : List Wy) (base : Nat) : Prop where
  cur : Cur W B a zs cap
  bel : Below w.heap.size w W
  r : Bk W w.heap.size #[.int .i64 0, .int .i64 0, .int .i64 0]
  q : Bk W Q #[.int .i64 s, .int .i64 y, .int .i64 l]
  out : OwnU W base v us
  ord : w.heap.size < B ∧ B < Q ∧ Q < base ∧ base ≤ W.heap.size
  vn : v ≠ .slice none 0 0
theorem Bk.turn {w w' : World} {b B : Nat} {cs : Array Value} (h : Bk w b cs) (ht : Turn B w w') (hn : b ≠ B) : Bk w' b cs :=
  ⟨Nat.lt_of_lt_of_le h.lt ht.size, fun i v e => (ht.cell h.lt hn).trans (h.cell i v e), fun i => (ht.frozen h.lt hn).trans (h.free i)⟩
theorem DS.turn {w W W' : World} {B Q : Nat} {a : Option Addr} {zs : List Int} {cap : Nat} {s y l : Int} {v : Value} {us : List Wy} {base : Nat} (h : DS w W B Q a zs cap s y l v us base) (hc : Cur W' B a zs cap) (ht : Turn B W W') : DS w W' B Q a zs cap s y l v us base := by
  have ho := h.ord
  exact ⟨hc, h.bel.trans (ht.below (by omega) h.bel.size), h.r.turn ht (by omega), h.q.turn ht (by omega), h.out.turn ht (by omega), ⟨ho.1, ho.2.1, ho.2.2.1, Nat.le_trans ho.2.2.2 ht.size⟩, h.vn⟩
theorem DS.below {w W W' : World} {B Q : Nat} {a : Option Addr} {zs : List Int} {cap : Nat} {s y l : Int} {v : Value} {us : List Wy} {base : Nat} (h : DS w W B Q a zs cap s y l v us base) (hb : Below W.heap.size W W') : DS w W' B Q a zs cap s y l v us base := by
  have ho := h.ord
  exact ⟨h.cur.below hb, h.bel.trans (hb.mono h.bel.size), h.r.below hb, h.q.below hb, h.out.below hb, ⟨ho.1, ho.2.1, ho.2.2.1, Nat.le_trans ho.2.2.2 hb.size⟩, h.vn⟩
theorem DS.uses {w W W' : World} {B Q : Nat} {a : Option Addr} {zs : List Int} {cap : Nat} {s y l : Int} {v v' : Value} {us us' : List Wy} {base : Nat} (h : DS w W B Q a zs cap s y l v us base) (hc : Cur W' B a zs cap) (ht : Turn B W W') (ho : OwnU W' W.heap.size v' us') (hv : v' ≠ .slice none 0 0) : DS w W' B Q a zs cap s y l v' us' W.heap.size := by
  have h2 := h.turn hc ht
  have hor := h.ord
  exact ⟨h2.cur, h2.bel, h2.r, h2.q, ho, ⟨hor.1, hor.2.1, by omega, ht.size⟩, hv⟩
theorem DS.push {w W W1 w' : World} {B Q : Nat} {a : Option Addr} {zs : List Int} {cap : Nat} {s y l : Int} {v v' : Value} {us us' : List Wy} {base : Nat} (h : DS w W B Q a zs cap s y l v us base) (h1 : Below W.heap.size W W1) (ho : OwnU w' base v' us') (hg : W1.grownBy w' v.ownBlock) (hv : v' ≠ .slice none 0 0) (HF : ∀ b off, a = some ⟨b, off, none⟩ → 0 < zs.length → b < base) : DS w w' B Q a zs cap s y l v' us' base := by
  have h2 := h.below h1
  have hor := h2.ord
  have hlow := own_low h.out
  have hsz := h.cur.lt
  have hb : Below base W1 w' := Below.grown (Below.refl _ _) hg hor.2.2.2 hlow
  have hcb : ∀ b cs, b < base → Bk W1 b cs → Bk w' b cs := fun b cs hlt hB => ⟨Nat.lt_of_lt_of_le hB.lt hb.size, fun i v e => (hb.cell (p := ⟨b, i, none⟩) hlt).trans (hB.cell i v e), fun i => (hb.frozen (p := ⟨b, i, none⟩) hlt).trans (hB.free i)⟩
  exact ⟨h2.cur.belowC hb (by omega) HF, h2.bel.trans (hb.mono (by omega)), hcb _ _ (by omega) h2.r, hcb _ _ (by omega) h2.q, ho, ⟨hor.1, hor.2.1, hor.2.2.1, Nat.le_trans hor.2.2.2 hb.size⟩, hv⟩
theorem DS.three {w W : World} {B Q : Nat} {a : Option Addr} {zs : List Int} {cap : Nat} {s y l : Int} {v : Value} {us : List Wy} {base : Nat} (h : DS w W B Q a zs cap s y l v us base) (HF : ∀ b off, a = some ⟨b, off, none⟩ → 0 < zs.length → b ≠ Q) : DS w (W.setCell ⟨Q, 0, none⟩ (.int .i64 3)) B Q a zs cap 3 y l v us base := by
  have hor := h.ord
  refine ⟨h.cur.set_other Q 0 _ (by omega) HF, h.bel.setCell (p := ⟨Q, 0, none⟩) (by show _ ≤ Q; omega) _, h.r.other _ _ _ (by omega), h.q.set 0 _ (by simp) rfl, ?_, ⟨hor.1, hor.2.1, hor.2.2.1, by simpa using hor.2.2.2⟩, h.vn⟩
  exact ownsRow_betw h.out ((Betw.refl Q (Q + 1) W).setCell (p := ⟨Q, 0, none⟩) (Nat.le_refl _) (Nat.lt_succ_self _) _) (by omega)
def DPost (X : World) (e : Ending) (w' : World) : Prop :=
  ∃ s y l a' N cap' us, e = .returned (.tuple #[shp s y l, .slice a' N cap']) ∧ Below X.heap.size X w' ∧ WSeg w' a' us ∧ List.length us = N ∧ N ≤ 3000
theorem DS.fin {w W : World} {B Q : Nat} {a : Option Addr} {zs : List Int} {cap : Nat} {s y l : Int} {v : Value} {us : List Wy} {base : Nat} (h : DS w W B Q a zs cap s y l v us base) :
    Bk (((W.setCell ⟨w.heap.size, 0, none⟩ (.int .i64 s)).setCell ⟨w.heap.size, 1, none⟩ (.int .i64 y)).setCell ⟨w.heap.size, 2, none⟩ (.int .i64 l)) w.heap.size #[.int .i64 s, .int .i64 y, .int .i64 l] ∧ Bk ((W.setCell ⟨w.heap.size, 0, none⟩ (.int .i64 s)).setCell ⟨w.heap.size, 1, none⟩ (.int .i64 y)) w.heap.size #[.int .i64 s, .int .i64 y, .int .i64 0] ∧ Bk (W.setCell ⟨w.heap.size, 0, none⟩ (.int .i64 s)) w.heap.size #[.int .i64 s, .int .i64 0, .int .i64 0] ∧
    Below w.heap.size w (((W.setCell ⟨w.heap.size, 0, none⟩ (.int .i64 s)).setCell ⟨w.heap.size, 1, none⟩ (.int .i64 y)).setCell ⟨w.heap.size, 2, none⟩ (.int .i64 l)) ∧ OwnU (((W.setCell ⟨w.heap.size, 0, none⟩ (.int .i64 s)).setCell ⟨w.heap.size, 1, none⟩ (.int .i64 y)).setCell ⟨w.heap.size, 2, none⟩ (.int .i64 l)) base v us := by
  have f0 := h.r.set 0 (.int .i64 s) (by simp) rfl
  have f1 := f0.set 1 (.int .i64 y) (by simp) rfl
  have f2 := f1.set 2 (.int .i64 l) (by simp) rfl
  have hor := h.ord
  exact ⟨f2, f1, f0, ((h.bel.setCell (p := ⟨w.heap.size, 0, none⟩) (Nat.le_refl _) _).setCell (p := ⟨w.heap.size, 1, none⟩) (Nat.le_refl _) _).setCell (p := ⟨w.heap.size, 2, none⟩) (Nat.le_refl _) _, ownsRow_betw h.out ((((Betw.refl w.heap.size (w.heap.size + 1) W).setCell (p := ⟨w.heap.size, 0, none⟩) (Nat.le_refl _) (Nat.lt_succ_self _) _).setCell (p := ⟨w.heap.size, 1, none⟩) (Nat.le_refl _) (Nat.lt_succ_self _) _).setCell (p := ⟨w.heap.size, 2, none⟩) (Nat.le_refl _) (Nat.lt_succ_self _) _) (by omega)⟩
set_option maxHeartbeats 8000000 in
theorem draw_cr (w : World) (a : Option Addr) (zs : List Int) (cap n : Nat) (hs : Seg .u8 w a zs) (hb : ∀ z ∈ zs, (Lit.int .u8 z).wf = true) (hl : zs.length = n) (hn : n ≤ 1048576) :
    Calls Try.prog 5 #[.slice a n cap] w (DPost w) := by
  have HFW : Hid _ := seg_lt hs
  have hal0 : Below w.heap.size w (w.alloc (shrow 25 0 0 0)) := (Below.refl _ _).alloc (Nat.le_refl _) _
  have HNEW : Hid _ := draw_new (w.alloc (shrow 25 0 0 0)) a zs cap (hs.below hal0) hb (by omega)
  rw [hl] at HNEW
  have HR0 : Hid (Bk (w.alloc (shrow 25 0 0 0)) w.heap.size #[.int .i64 0, .int .i64 0, .int .i64 0]) := Bk.new w _ 25 _ rfl
  have HB0 : Hid _ := hal0
  obtain ⟨iU, hi1, hi2, hi3, hi4⟩ := infoU'
  have HIN : Hid _ := And.intro hi1 (And.intro hi2 (And.intro hi3 hi4))
  clear hi1 hi2 hi3 hi4 hs hb hl hal0
  go_enter Try.func5, Try.ntmps5
  go_wp2_with fail
  refine Calls.mono HNEW.out ?_
  rintro e w1 ⟨rfl, hc1, hb1⟩
  have hz : (w.alloc (shrow 25 0 0 0)).heap.size = w.heap.size + 1 := by simp
  have HR1 : Hid _ := HR0.out.below hb1
  rw [hz] at hc1 hb1 ⊢
  have HB1 : Hid _ := HB0.out.trans (hb1.mono (by omega))
  have HC1 : Hid _ := hc1
  clear hc1 hb1 hz HR0 HB0 HNEW
  obtain ⟨B, HBB⟩ : ∃ B, Hid (w.heap.size + 1 = B) := ⟨_, rfl⟩
  have hB : w.heap.size < B := by rw [← HBB.out]; omega
  rw [HBB.out] at HC1 ⊢
  clear HBB
  go_wp2_with fail
  refine Calls.mono (draw_shape _ B _ _ _ HC1.out) ?_
  rintro e w2 ⟨s, y, l, rfl, hc2, ht2⟩
  have hal2 : Below w2.heap.size w2 (w2.alloc (shrow 25 s y l)) := (Below.refl _ _).alloc (Nat.le_refl _) _
  have HR2 : Hid _ := (HR1.out.turn ht2 (by omega)).below hal2
  have hb2 := HB1.out.trans (ht2.below (Nat.le_of_lt hB) HB1.out.size)
  have HB2 : Hid _ := hb2.trans (hal2.mono hb2.size)
  have HC2 : Hid _ := hc2.below hal2
  have HQ2 : Hid (Bk (w2.alloc (shrow 25 s y l)) w2.heap.size #[.int .i64 s, .int .i64 y, .int .i64 l]) := Bk.new w2 _ 25 _ rfl
  have HBQ : Hid (B < w2.heap.size) := hc2.lt
  clear hc2 ht2 hal2 hb2 HR1 HB1 HC1
  go_wp2_with fail
  refine Calls.mono (draw_size a n cap _ hn) ?_
  rintro e w3 ⟨x1, rfl, hx10, hx11, rfl⟩
  go_wp2_with fail
  refine Calls.mono (draw_below _ B _ _ _ _ HC2.out hx10 (by omega)) ?_
  rintro e w4 ⟨x2, rfl, hx20, hx21, hc4, ht4⟩
  obtain ⟨k, rfl⟩ : ∃ k : Nat, x2 = (k : Int) := ⟨x2.toNat, by omega⟩
  have hk : k ≤ 80 := by omega
  have hq2 := HQ2.out.lt
  have HR4 : Hid _ := HR2.out.turn ht4 (by omega)
  have HQ4 : Hid _ := HQ2.out.turn ht4 (by have := HBQ.out; omega)
  have HB4 : Hid _ := HB2.out.trans (ht4.below (Nat.le_of_lt hB) HB2.out.size)
  have HC4 : Hid _ := hc4
  clear hc4 ht4 HR2 HQ2 HB2 HC2 hx20 hx21 hx10 hx11
  obtain ⟨Q, HQQ⟩ : ∃ Q, Hid (w2.heap.size = Q) := ⟨_, rfl⟩
  rw [HQQ.out] at HQ4 HBQ hq2 ⊢
  clear HQQ
  go_wp2_with fail
  refine Calls.mono (draw_uses _ B _ _ _ k HC4.out (by omega)) ?_
  rintro e w5 ⟨v, us, rfl, ho, hlen, hvn, hc5, ht5⟩
  have HD : Hid (DS w w5 B Q a zs cap s y l v us w4.heap.size) := ⟨hc5, HB4.out.trans (ht5.below (Nat.le_of_lt hB) HB4.out.size), HR4.out.turn ht5 (by omega), HQ4.out.turn ht5 (by have := HBQ.out; omega), ho, ⟨hB, HBQ.out, HQ4.out.lt, ht5.size⟩, hvn⟩
  have hul : us.length ≤ 3000 := by omega
  have hul2 : us.length ≤ 2999 := by omega
  have HFQ : Hid (∀ b off, a = some ⟨b, off, none⟩ → 0 < zs.length → b ≠ Q) := fun b off e h0 => by have := HFW.out b off e h0; have := HBQ.out; omega
  obtain ⟨base, HBASE⟩ : ∃ base, Hid (w4.heap.size = base) := ⟨_, rfl⟩
  rw [HBASE.out] at HD
  clear ho hlen hvn hc5 ht5 HR4 HQ4 HB4 HC4 HBASE hq2
  go_wp2_with fail
  refine Calls.mono (draw_once _ B _ _ _ _ HD.out.cur (by omega) (by omega)) ?_
  rintro e W1 ⟨qq, rfl, hc, ht⟩
  replace HD : Hid (DS _ _ _ _ _ _ _ _ _ _ _ _ _) := HD.out.turn hc ht
  clear hc ht
  cases qq
  rotate_left
  · have hal1 : Below W1.heap.size W1 (W1.alloc (.cells #[.int .i64 (-1), .int .i64 65535, .int .i64 65536] 3)) := (Below.refl _ _).alloc (Nat.le_refl _) _
    have HD1 : Hid (DS _ _ _ _ _ _ _ _ _ _ _ _ _) := HD.out.below hal1
    have HW1 : Hid _ := own_lit .i64 W1 3 [-1, 65535, 65536]
    have HLW : Hid (W1.heap.size ≠ B) := by have := HD.out.cur.lt; show _ ≠ _; omega
    clear hal1 HD
    go_wp2_with fail
    refine Calls.mono (draw_pick _ B W1.heap.size _ _ _ [-1, 65535, 65536] HD1.out.cur HW1.out HLW.out (by decide) (by decide)) ?_
    rintro e W4 ⟨z, rfl, _, hc, ht⟩
    have HD4 : Hid (DS _ _ _ _ _ _ _ _ _ _ v us base) := HD1.out.turn hc ht
    clear hc ht HD1 HW1 HLW
    have hal : Below W4.heap.size W4 (W4.alloc (.cells #[.int .i64 z, .bool false] 39)) := (Below.refl _ _).alloc (Nat.le_refl _) _
    have hown7 : (W4.alloc (.cells #[.int .i64 z, .bool false] 39)).ownsRow base 39 2 v us.length (wayCells us) := World.ownsRow.alloc HD4.out.out _
    have HBS : Hid (base ≤ (W4.alloc (.cells #[.int .i64 z, .bool false] 39)).heap.size) := Nat.le_trans HD4.out.ord.2.2.2 hal.size
    have HZ : Hid (∀ (gg cap1 : Nat) (w9 : World), w9.ownsRow base 39 2 (.slice (some ⟨gg, 0, none⟩) (us.length + 1) cap1) (us.length + 1) (wayCells us ++ [.int .i64 z, .bool false]) → (W4.alloc (.cells #[.int .i64 z, .bool false] 39)).grownBy w9 v.ownBlock → DS w w9 B Q a zs cap s y l (.slice (some ⟨gg, 0, none⟩) (us.length + 1) cap1) (us ++ [(z, false)]) base) := fun gg cap1 w9 h1 h2 => HD4.out.push hal (OwnU.snoc (x := (z, false)) h1) h2 (fun e => by cases e) (fun b off e h0 => by have := HFW.out b off e h0; have := HD4.out.ord; omega)
    clear hal
    go_wp2_with (at_builtin; (refine wpList_append_lies _ rfl (.tmp 19) (.tmp 24) 26 rfl base 39 iU (.agg #[.int .i64 0, .bool false]) 2 16 Try.underlying26 HIN.out.1 HIN.out.2.1 HIN.out.2.2.1 HIN.out.2.2.2 rfl (by omega) _ _ _ rfl hown7 _ 1 1 [.int .i64 z, .bool false] rfl rfl (news_use _ _ _ _ (by simp)) (one_use _ _) (by omega) (by unfold maxLen; omega) (by omega) HBS.out _ rfl ?_; intro gg cap1 w9 hown1 hgrow hat hlt1; have HYY : Hid _ := HZ.out gg cap1 w9 hown1 hgrow; clear hown1 hgrow hat hlt1))
    have HD : Hid (DS _ _ _ _ _ _ _ _ _ _ _ _ _) := HYY.out
    obtain ⟨v2, hv2⟩ : ∃ v2, v2 = Value.slice (some ⟨gg, 0, none⟩) (us.length + 1) cap1 := ⟨_, rfl⟩
    obtain ⟨us2, hus2⟩ : ∃ us2, us2 = us ++ [(z, false)] := ⟨_, rfl⟩
    have hul : us2.length ≤ 3000 := by rw [hus2]; simp; omega
    rw [← hv2, ← hus2] at HD
    rw [← hv2]
    clear hv2 hus2 HYY HZ hown7 HBS HD4 hul2
    refine Calls.mono (draw_once _ B _ _ _ _ HD.out.cur (by omega) (by omega)) ?_
    rintro e W1 ⟨qq, rfl, hc, ht⟩
    replace HD : Hid (DS _ _ _ _ _ _ _ _ _ _ _ _ _) := HD.out.turn hc ht
    clear hc ht
    cases qq
    rotate_left
    · have g0 := HD.out.q.cell 0 _ rfl
      have gf := HD.out.q.free
      replace HD : Hid (DS _ _ _ _ _ _ _ _ _ _ _ _ _) := HD.out.three HFQ.out
      go_wp2_with fail
      clear g0 gf
      refine Calls.mono (draw_once _ B _ _ _ _ HD.out.cur (by omega) (by omega)) ?_
      rintro e W1 ⟨qq, rfl, hc, ht⟩
      replace HD : Hid (DS _ _ _ _ _ _ _ _ _ _ _ _ _) := HD.out.turn hc ht
      clear hc ht
      cases qq
      rotate_left
      · go_wp2_with fail
        refine Calls.mono (draw_below _ B _ _ _ _ HD.out.cur (by omega) (by omega)) ?_
        rintro e W2 ⟨x2, rfl, hx0, hx1, hc, ht⟩
        replace HD : Hid (DS _ _ _ _ _ _ _ _ _ _ _ _ _) := HD.out.turn hc ht
        clear hc ht
        obtain ⟨n2, rfl⟩ : ∃ n2 : Nat, x2 = (n2 : Int) := ⟨x2.toNat, by omega⟩
        have hwr : IntKind.i64.wrap (2000 + (n2 : Int)) = ((2000 + n2 : Nat) : Int) := by rw [IntKind.wrap_i64]; omega
        obtain ⟨n3, HN3⟩ : ∃ n3, Hid (2000 + n2 = n3) := ⟨_, rfl⟩
        have hn3 : n3 ≤ 3000 := by rw [← HN3.out]; omega
        have hn3' : 2000 + (n2 : Int) = (n3 : Int) := by rw [← HN3.out]; omega
        go_wp2_with fail
        refine Calls.mono (draw_uses _ B _ _ _ n3 HD.out.cur hn3) ?_
        rintro e W3 ⟨v2, us2, rfl, ho, hl3, hvn, hc, ht⟩
        replace HD : Hid (DS _ _ _ _ _ _ _ _ _ _ _ _ _) := HD.out.uses hc ht ho hvn
        have hul : us2.length ≤ 3000 := by omega
        clear ho hl3 hvn hc ht
        obtain ⟨a9, c9, N9, HN9, hN9, hvv⟩ : ∃ a9 c9 N9, Hid (us2.length = N9) ∧ N9 ≤ 3000 ∧ v2 = .slice a9 N9 c9 := by
          obtain ⟨a9, c9, e, _⟩ := OwnU.seg HD.out.out
          exact ⟨a9, c9, us2.length, rfl, hul, e⟩
        subst hvv
        have HSG : Hid _ := HD.out.fin
        have g0 := HD.out.q.cell 0 _ rfl
        have g1 := HD.out.q.cell 1 _ rfl
        have g2 := HD.out.q.cell 2 _ rfl
        have r0 := HD.out.r.cell 0 _ rfl
        have rf := HD.out.r.free
        have r1 := HSG.out.2.2.1.cell 1 _ rfl
        have r2 := HSG.out.2.1.cell 2 _ rfl
        have n0 := HSG.out.1.cell 0 _ rfl
        have n1 := HSG.out.1.cell 1 _ rfl
        have n2 := HSG.out.1.cell 2 _ rfl
        go_wp2
        refine bodyPost_ret (v := .tuple #[shp 3 y l, .slice a9 N9 c9]) (by simp [results, Try.results5, go_sem, n0, n1, n2]) rfl ⟨_, _, _, _, _, _, us2, rfl, HSG.out.2.2.2.1, ?_, HN9.out, hN9⟩
        obtain ⟨a8, c8, e8, hs8⟩ := OwnU.seg HSG.out.2.2.2.2
        injection e8 with e8 _ _
        subst e8
        exact hs8
      obtain ⟨a9, c9, N9, HN9, hN9, hvv⟩ : ∃ a9 c9 N9, Hid (us2.length = N9) ∧ N9 ≤ 3000 ∧ v2 = .slice a9 N9 c9 := by
        obtain ⟨a9, c9, e, _⟩ := OwnU.seg HD.out.out
        exact ⟨a9, c9, us2.length, rfl, hul, e⟩
      subst hvv
      have HSG : Hid _ := HD.out.fin
      have g0 := HD.out.q.cell 0 _ rfl
      have g1 := HD.out.q.cell 1 _ rfl
      have g2 := HD.out.q.cell 2 _ rfl
      have r0 := HD.out.r.cell 0 _ rfl
      have rf := HD.out.r.free
      have r1 := HSG.out.2.2.1.cell 1 _ rfl
      have r2 := HSG.out.2.1.cell 2 _ rfl
      have n0 := HSG.out.1.cell 0 _ rfl
      have n1 := HSG.out.1.cell 1 _ rfl
      have n2 := HSG.out.1.cell 2 _ rfl
      go_wp2
      refine bodyPost_ret (v := .tuple #[shp 3 y l, .slice a9 N9 c9]) (by simp [results, Try.results5, go_sem, n0, n1, n2]) rfl ⟨_, _, _, _, _, _, us2, rfl, HSG.out.2.2.2.1, ?_, HN9.out, hN9⟩
      obtain ⟨a8, c8, e8, hs8⟩ := OwnU.seg HSG.out.2.2.2.2
      injection e8 with e8 _ _
      subst e8
      exact hs8
    go_wp2_with fail
    refine Calls.mono (draw_once _ B _ _ _ _ HD.out.cur (by omega) (by omega)) ?_
    rintro e W1 ⟨qq, rfl, hc, ht⟩
    replace HD : Hid (DS _ _ _ _ _ _ _ _ _ _ _ _ _) := HD.out.turn hc ht
    clear hc ht
    cases qq
    rotate_left
    · go_wp2_with fail
      refine Calls.mono (draw_below _ B _ _ _ _ HD.out.cur (by omega) (by omega)) ?_
      rintro e W2 ⟨x2, rfl, hx0, hx1, hc, ht⟩
      replace HD : Hid (DS _ _ _ _ _ _ _ _ _ _ _ _ _) := HD.out.turn hc ht
      clear hc ht
      obtain ⟨n2, rfl⟩ : ∃ n2 : Nat, x2 = (n2 : Int) := ⟨x2.toNat, by omega⟩
      have hwr : IntKind.i64.wrap (2000 + (n2 : Int)) = ((2000 + n2 : Nat) : Int) := by rw [IntKind.wrap_i64]; omega
      obtain ⟨n3, HN3⟩ : ∃ n3, Hid (2000 + n2 = n3) := ⟨_, rfl⟩
      have hn3 : n3 ≤ 3000 := by rw [← HN3.out]; omega
      have hn3' : 2000 + (n2 : Int) = (n3 : Int) := by rw [← HN3.out]; omega
      go_wp2_with fail
      refine Calls.mono (draw_uses _ B _ _ _ n3 HD.out.cur hn3) ?_
      rintro e W3 ⟨v2, us2, rfl, ho, hl3, hvn, hc, ht⟩
      replace HD : Hid (DS _ _ _ _ _ _ _ _ _ _ _ _ _) := HD.out.uses hc ht ho hvn
      have hul : us2.length ≤ 3000 := by omega
      clear ho hl3 hvn hc ht
      obtain ⟨a9, c9, N9, HN9, hN9, hvv⟩ : ∃ a9 c9 N9, Hid (us2.length = N9) ∧ N9 ≤ 3000 ∧ v2 = .slice a9 N9 c9 := by
        obtain ⟨a9, c9, e, _⟩ := OwnU.seg HD.out.out
        exact ⟨a9, c9, us2.length, rfl, hul, e⟩
      subst hvv
      have HSG : Hid _ := HD.out.fin
      have g0 := HD.out.q.cell 0 _ rfl
      have g1 := HD.out.q.cell 1 _ rfl
      have g2 := HD.out.q.cell 2 _ rfl
      have r0 := HD.out.r.cell 0 _ rfl
      have rf := HD.out.r.free
      have r1 := HSG.out.2.2.1.cell 1 _ rfl
      have r2 := HSG.out.2.1.cell 2 _ rfl
      have n0 := HSG.out.1.cell 0 _ rfl
      have n1 := HSG.out.1.cell 1 _ rfl
      have n2 := HSG.out.1.cell 2 _ rfl
      go_wp2
      refine bodyPost_ret (v := .tuple #[shp s y l, .slice a9 N9 c9]) (by simp [results, Try.results5, go_sem, n0, n1, n2]) rfl ⟨_, _, _, _, _, _, us2, rfl, HSG.out.2.2.2.1, ?_, HN9.out, hN9⟩
      obtain ⟨a8, c8, e8, hs8⟩ := OwnU.seg HSG.out.2.2.2.2
      injection e8 with e8 _ _
      subst e8
      exact hs8
    obtain ⟨a9, c9, N9, HN9, hN9, hvv⟩ : ∃ a9 c9 N9, Hid (us2.length = N9) ∧ N9 ≤ 3000 ∧ v2 = .slice a9 N9 c9 := by
      obtain ⟨a9, c9, e, _⟩ := OwnU.seg HD.out.out
      exact ⟨a9, c9, us2.length, rfl, hul, e⟩
    subst hvv
    have HSG : Hid _ := HD.out.fin
    have g0 := HD.out.q.cell 0 _ rfl
    have g1 := HD.out.q.cell 1 _ rfl
    have g2 := HD.out.q.cell 2 _ rfl
    have r0 := HD.out.r.cell 0 _ rfl
    have rf := HD.out.r.free
    have r1 := HSG.out.2.2.1.cell 1 _ rfl
    have r2 := HSG.out.2.1.cell 2 _ rfl
    have n0 := HSG.out.1.cell 0 _ rfl
    have n1 := HSG.out.1.cell 1 _ rfl
    have n2 := HSG.out.1.cell 2 _ rfl
    go_wp2
    refine bodyPost_ret (v := .tuple #[shp s y l, .slice a9 N9 c9]) (by simp [results, Try.results5, go_sem, n0, n1, n2]) rfl ⟨_, _, _, _, _, _, us2, rfl, HSG.out.2.2.2.1, ?_, HN9.out, hN9⟩
    obtain ⟨a8, c8, e8, hs8⟩ := OwnU.seg HSG.out.2.2.2.2
    injection e8 with e8 _ _
    subst e8
    exact hs8
  go_wp2_with fail
  refine Calls.mono (draw_once _ B _ _ _ _ HD.out.cur (by omega) (by omega)) ?_
  rintro e W1 ⟨qq, rfl, hc, ht⟩
  replace HD : Hid (DS _ _ _ _ _ _ _ _ _ _ _ _ _) := HD.out.turn hc ht
  clear hc ht
  cases qq
  rotate_left
  · have g0 := HD.out.q.cell 0 _ rfl
    have gf := HD.out.q.free
    replace HD : Hid (DS _ _ _ _ _ _ _ _ _ _ _ _ _) := HD.out.three HFQ.out
    go_wp2_with fail
    clear g0 gf
    refine Calls.mono (draw_once _ B _ _ _ _ HD.out.cur (by omega) (by omega)) ?_
    rintro e W1 ⟨qq, rfl, hc, ht⟩
    replace HD : Hid (DS _ _ _ _ _ _ _ _ _ _ _ _ _) := HD.out.turn hc ht
    clear hc ht
    cases qq
    rotate_left
    · go_wp2_with fail
      refine Calls.mono (draw_below _ B _ _ _ _ HD.out.cur (by omega) (by omega)) ?_
      rintro e W2 ⟨x2, rfl, hx0, hx1, hc, ht⟩
      replace HD : Hid (DS _ _ _ _ _ _ _ _ _ _ _ _ _) := HD.out.turn hc ht
      clear hc ht
      obtain ⟨n2, rfl⟩ : ∃ n2 : Nat, x2 = (n2 : Int) := ⟨x2.toNat, by omega⟩
      have hwr : IntKind.i64.wrap (2000 + (n2 : Int)) = ((2000 + n2 : Nat) : Int) := by rw [IntKind.wrap_i64]; omega
      obtain ⟨n3, HN3⟩ : ∃ n3, Hid (2000 + n2 = n3) := ⟨_, rfl⟩
      have hn3 : n3 ≤ 3000 := by rw [← HN3.out]; omega
      have hn3' : 2000 + (n2 : Int) = (n3 : Int) := by rw [← HN3.out]; omega
      go_wp2_with fail
      refine Calls.mono (draw_uses _ B _ _ _ n3 HD.out.cur hn3) ?_
      rintro e W3 ⟨v, us, rfl, ho, hl3, hvn, hc, ht⟩
      replace HD : Hid (DS _ _ _ _ _ _ _ _ _ _ _ _ _) := HD.out.uses hc ht ho hvn
      have hul : us.length ≤ 3000 := by omega
      clear ho hl3 hvn hc ht
      obtain ⟨a9, c9, N9, HN9, hN9, hvv⟩ : ∃ a9 c9 N9, Hid (us.length = N9) ∧ N9 ≤ 3000 ∧ v = .slice a9 N9 c9 := by
        obtain ⟨a9, c9, e, _⟩ := OwnU.seg HD.out.out
        exact ⟨a9, c9, us.length, rfl, hul, e⟩
      subst hvv
      have HSG : Hid _ := HD.out.fin
      have g0 := HD.out.q.cell 0 _ rfl
      have g1 := HD.out.q.cell 1 _ rfl
      have g2 := HD.out.q.cell 2 _ rfl
      have r0 := HD.out.r.cell 0 _ rfl
      have rf := HD.out.r.free
      have r1 := HSG.out.2.2.1.cell 1 _ rfl
      have r2 := HSG.out.2.1.cell 2 _ rfl
      have n0 := HSG.out.1.cell 0 _ rfl
      have n1 := HSG.out.1.cell 1 _ rfl
      have n2 := HSG.out.1.cell 2 _ rfl
      go_wp2
      refine bodyPost_ret (v := .tuple #[shp 3 y l, .slice a9 N9 c9]) (by simp [results, Try.results5, go_sem, n0, n1, n2]) rfl ⟨_, _, _, _, _, _, us, rfl, HSG.out.2.2.2.1, ?_, HN9.out, hN9⟩
      obtain ⟨a8, c8, e8, hs8⟩ := OwnU.seg HSG.out.2.2.2.2
      injection e8 with e8 _ _
      subst e8
      exact hs8
    obtain ⟨a9, c9, N9, HN9, hN9, hvv⟩ : ∃ a9 c9 N9, Hid (us.length = N9) ∧ N9 ≤ 3000 ∧ v = .slice a9 N9 c9 := by
      obtain ⟨a9, c9, e, _⟩ := OwnU.seg HD.out.out
      exact ⟨a9, c9, us.length, rfl, hul, e⟩
    subst hvv
    have HSG : Hid _ := HD.out.fin
    have g0 := HD.out.q.cell 0 _ rfl
    have g1 := HD.out.q.cell 1 _ rfl
    have g2 := HD.out.q.cell 2 _ rfl
    have r0 := HD.out.r.cell 0 _ rfl
    have rf := HD.out.r.free
    have r1 := HSG.out.2.2.1.cell 1 _ rfl
    have r2 := HSG.out.2.1.cell 2 _ rfl
    have n0 := HSG.out.1.cell 0 _ rfl
    have n1 := HSG.out.1.cell 1 _ rfl
    have n2 := HSG.out.1.cell 2 _ rfl
    go_wp2
    refine bodyPost_ret (v := .tuple #[shp 3 y l, .slice a9 N9 c9]) (by simp [results, Try.results5, go_sem, n0, n1, n2]) rfl ⟨_, _, _, _, _, _, us, rfl, HSG.out.2.2.2.1, ?_, HN9.out, hN9⟩
    obtain ⟨a8, c8, e8, hs8⟩ := OwnU.seg HSG.out.2.2.2.2
    injection e8 with e8 _ _
    subst e8
    exact hs8
  go_wp2_with fail
  refine Calls.mono (draw_once _ B _ _ _ _ HD.out.cur (by omega) (by omega)) ?_
  rintro e W1 ⟨qq, rfl, hc, ht⟩
  replace HD : Hid (DS _ _ _ _ _ _ _ _ _ _ _ _ _) := HD.out.turn hc ht
  clear hc ht
  cases qq
  rotate_left
  · go_wp2_with fail
    refine Calls.mono (draw_below _ B _ _ _ _ HD.out.cur (by omega) (by omega)) ?_
    rintro e W2 ⟨x2, rfl, hx0, hx1, hc, ht⟩
    replace HD : Hid (DS _ _ _ _ _ _ _ _ _ _ _ _ _) := HD.out.turn hc ht
    clear hc ht
    obtain ⟨n2, rfl⟩ : ∃ n2 : Nat, x2 = (n2 : Int) := ⟨x2.toNat, by omega⟩
    have hwr : IntKind.i64.wrap (2000 + (n2 : Int)) = ((2000 + n2 : Nat) : Int) := by rw [IntKind.wrap_i64]; omega
    obtain ⟨n3, HN3⟩ : ∃ n3, Hid (2000 + n2 = n3) := ⟨_, rfl⟩
    have hn3 : n3 ≤ 3000 := by rw [← HN3.out]; omega
    have hn3' : 2000 + (n2 : Int) = (n3 : Int) := by rw [← HN3.out]; omega
    go_wp2_with fail
    refine Calls.mono (draw_uses _ B _ _ _ n3 HD.out.cur hn3) ?_
    rintro e W3 ⟨v, us, rfl, ho, hl3, hvn, hc, ht⟩
    replace HD : Hid (DS _ _ _ _ _ _ _ _ _ _ _ _ _) := HD.out.uses hc ht ho hvn
    have hul : us.length ≤ 3000 := by omega
    clear ho hl3 hvn hc ht
    obtain ⟨a9, c9, N9, HN9, hN9, hvv⟩ : ∃ a9 c9 N9, Hid (us.length = N9) ∧ N9 ≤ 3000 ∧ v = .slice a9 N9 c9 := by
      obtain ⟨a9, c9, e, _⟩ := OwnU.seg HD.out.out
      exact ⟨a9, c9, us.length, rfl, hul, e⟩
    subst hvv
    have HSG : Hid _ := HD.out.fin
    have g0 := HD.out.q.cell 0 _ rfl
    have g1 := HD.out.q.cell 1 _ rfl
    have g2 := HD.out.q.cell 2 _ rfl
    have r0 := HD.out.r.cell 0 _ rfl
    have rf := HD.out.r.free
    have r1 := HSG.out.2.2.1.cell 1 _ rfl
    have r2 := HSG.out.2.1.cell 2 _ rfl
    have n0 := HSG.out.1.cell 0 _ rfl
    have n1 := HSG.out.1.cell 1 _ rfl
    have n2 := HSG.out.1.cell 2 _ rfl
    go_wp2
    refine bodyPost_ret (v := .tuple #[shp s y l, .slice a9 N9 c9]) (by simp [results, Try.results5, go_sem, n0, n1, n2]) rfl ⟨_, _, _, _, _, _, us, rfl, HSG.out.2.2.2.1, ?_, HN9.out, hN9⟩
    obtain ⟨a8, c8, e8, hs8⟩ := OwnU.seg HSG.out.2.2.2.2
    injection e8 with e8 _ _
    subst e8
    exact hs8
  obtain ⟨a9, c9, N9, HN9, hN9, hvv⟩ : ∃ a9 c9 N9, Hid (us.length = N9) ∧ N9 ≤ 3000 ∧ v = .slice a9 N9 c9 := by
    obtain ⟨a9, c9, e, _⟩ := OwnU.seg HD.out.out
    exact ⟨a9, c9, us.length, rfl, hul, e⟩
  subst hvv
  have HSG : Hid _ := HD.out.fin
  have g0 := HD.out.q.cell 0 _ rfl
  have g1 := HD.out.q.cell 1 _ rfl
  have g2 := HD.out.q.cell 2 _ rfl
  have r0 := HD.out.r.cell 0 _ rfl
  have rf := HD.out.r.free
  have r1 := HSG.out.2.2.1.cell 1 _ rfl
  have r2 := HSG.out.2.1.cell 2 _ rfl
  have n0 := HSG.out.1.cell 0 _ rfl
  have n1 := HSG.out.1.cell 1 _ rfl
  have n2 := HSG.out.1.cell 2 _ rfl
  go_wp2
  refine bodyPost_ret (v := .tuple #[shp s y l, .slice a9 N9 c9]) (by simp [results, Try.results5, go_sem, n0, n1, n2]) rfl ⟨_, _, _, _, _, _, us, rfl, HSG.out.2.2.2.1, ?_, HN9.out, hN9⟩
  obtain ⟨a8, c8, e8, hs8⟩ := OwnU.seg HSG.out.2.2.2.2
  injection e8 with e8 _ _
  subst e8
  exact hs8
end Go.Proofs.Ytmbpmhmehiiiaaa
