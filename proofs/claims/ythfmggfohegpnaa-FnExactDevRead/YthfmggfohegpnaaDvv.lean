
/-
  A device's state as a value, its two lists of words: how it comes in, is turned into the program's own, held against another, marked. Conditions: the words read as words; lengths are at most 1048576 where a list is copied, held or marked.
-/
import Derived.Test.YthfmggfohegpnaaRows
import Derived.Test.YthfmggfohegpnaaUls
import Derived.Below
import Derived.Lib.SmallJoins
import Derived.ProofKit
import Derived.OpenShut
import Derived.ChangeSlices
import Derived.Deep.SlicePairs
namespace Go.Proofs.Ythfmggfohegpnaa
open Go.ChangeShapes Go.WideShapes Go.ChangeAt Go.RowKit Go.Joins Go.Deep
set_option linter.unusedVariables false

theorem laidOut : laidOutB Try.prog = true := by kernel_rfl
abbrev dst (a : Option Addr) (n c : Nat) (b : Option Addr) (m d : Nat) : Value := .agg #[.slice a n c, .slice b m d]
abbrev dsr (a : Option Addr) (n c : Nat) (b : Option Addr) (m d : Nat) : Array Value := #[.slice a n c, .slice b m d]
theorem array2 {α : Type} {cs : Array α} (h : cs.size = 2) : ∃ c0 c1, cs = #[c0, c1] := by
  obtain ⟨l⟩ := cs
  match l, h with
  | [c0, c1], _ => exact ⟨c0, c1, rfl⟩
theorem list2 {α : Type} {cs : List α} (h : cs.length = 2) : ∃ c0 c1, cs = [c0, c1] := by
  match cs, h with
  | [c0, c1], _ => exact ⟨c0, c1, rfl⟩
theorem cells3 : Try.prog.cellsOf 3 = 1 := by kernel_rfl
theorem cellsU3 : Try.prog.cellsOf 31 = 1 := by kernel_rfl
theorem cellsUS : Try.prog.cellsOf 22 = 1 := by kernel_rfl
theorem cellsLD : Try.prog.cellsOf 24 = 2 := by kernel_rfl
theorem nums_open {H : Type} {enc : TypeId × Value → H} {W : World} {base : Nat} {held : Bool} {fuel : Nat} {cs : List Value} {x : DataW H × List MemPlace} {t e : TypeId} {k : IntKind} (ht : Try.prog.underlying t = some (.slice e)) (he : Try.prog.underlying e = some (.int k)) (hc : Try.prog.cellsOf e = 1)
    (h : DataW.trod enc Try.prog W base (fun _ => true) held fuel t cs = some x) : ∃ a zs c, cs = [.slice a (List.length zs) c] ∧ Seg k W a zs ∧ (∀ z ∈ zs, (Lit.int k z).wf = true) ∧ zs.length ≤ 9223372036854775807 ∧ zs.length ≤ c := by
  rcases open_ints ht he hc h with ⟨rfl, _⟩ | ⟨a, l, c, zs, rfl, _, hl, hm, hz, _, hcell, hwz⟩
  · exact ⟨none, [], 0, rfl, fun h => absurd h (by simp), by simp, by simp, by simp⟩
  · obtain ⟨ys, hy1, hy2, hy3⟩ := seg_of_row (k := k) (w := W) (a := some a) (len := l) (cap := c) (zs := zs) (.inr ⟨a, rfl, hl, hm, by simpa using hz, hcell, hwz⟩)
    have : maxLen = 9223372036854775807 := rfl
    exact ⟨some a, ys, c, by rw [hy1], hy2, hy3, by omega, by omega⟩
/-- What is known of words that came in. -/
structure WIn (W : World) (a : Option Addr) (zs : List Int) : Prop where
  seg : Seg .u32 W a zs
  wf : ∀ z ∈ zs, (Lit.int .u32 z).wf = true
  len : zs.length ≤ 9223372036854775807
set_option maxRecDepth 100000 in
theorem dst_arg {H : Type} {enc : TypeId × Value → H} {W : World} {r : Reach} {b0 base : Nat} {held : Bool} {v : Value} {d : DataW H} {p : List MemPlace}
    (hv : Value.okWide Try.prog W r b0 24 v) (h : DataW.Trod enc Try.prog W base (fun _ => true) held 24 v d p) :
    ∃ a zs c b ys c2, v = dst a (List.length zs) c b (List.length ys) c2 ∧ WIn W a zs ∧ WIn W b ys := by
  obtain ⟨cs, rfl, hsz⟩ := okWide_struct Try.underlying24 hv
  obtain ⟨v0, v1, rfl⟩ := array2 (hsz.trans cellsLD)
  obtain ⟨fuel, hf⟩ := h
  obtain ⟨xs, n, _, hx, _, hl, hfs⟩ := DataW.trod_struct Try.underlying24 hf
  obtain ⟨y0, y1, rfl⟩ := list2 hl
  have g0 := hfs 0 _ rfl
  have g1 := hfs 1 _ rfl
  simp only [Value.cells] at g0 g1
  obtain ⟨a, zs, c, e0, hs, hw, h1, h2⟩ := nums_open Try.underlying22 Try.underlying31 cellsU3 g0
  obtain ⟨b, ys, c2, e1, hs', hw', h1', h2'⟩ := nums_open Try.underlying22 Try.underlying31 cellsU3 g1
  simp [cellsUS] at e0 e1
  subst e0 e1
  exact ⟨a, zs, c, b, ys, c2, rfl, ⟨hs, hw, h1⟩, hs', hw', h1'⟩
/-- Words in memory of the call's own. -/
def OE (w : World) (lo hi : Nat) (a : Option Addr) (zs : List Int) : Prop := ∃ R, ON .u32 w lo hi a zs R
theorem OE.seg {w : World} {lo hi : Nat} {a : Option Addr} {zs : List Int} (h : OE w lo hi a zs) : Seg .u32 w a zs := by obtain ⟨R, h⟩ := h; exact h.seg
theorem OE.below {w w' : World} {lo hi : Nat} {a : Option Addr} {zs : List Int} (h : OE w lo hi a zs) (hb : Below w.heap.size w w') : OE w' lo hi a zs := by obtain ⟨R, h⟩ := h; exact ⟨R, h.below hb⟩
theorem ON.rng {k : IntKind} {w : World} {lo hi : Nat} {a : Option Addr} {ws : List Int} {R : Nat} (h : ON k w lo hi a ws R) (h0 : 0 < ws.length) : lo ≤ R ∧ R < hi := by
  obtain ⟨off, _, h1, h2, _⟩ := h h0
  exact ⟨h1, h2⟩
theorem OE.betw {w w' : World} {lo hi l' h' : Nat} {a : Option Addr} {zs : List Int} (h : OE w lo hi a zs) (hb : Betw l' h' w w') (ho : hi ≤ l' ∨ h' ≤ lo) : OE w' lo hi a zs := by
  obtain ⟨R, h⟩ := h
  exact ⟨R, h.betw hb (fun h0 => by have := h.rng h0; omega)⟩
theorem OE.wide {w : World} {lo hi l' h' : Nat} {a : Option Addr} {zs : List Int} (h : OE w lo hi a zs) (g1 : l' ≤ lo) (g2 : hi ≤ h') : OE w l' h' a zs := by obtain ⟨R, h⟩ := h; exact ⟨R, h.wide g1 g2⟩
theorem OE.nil (w : World) (lo hi : Nat) (a : Option Addr) : OE w lo hi a [] := ⟨0, ON.nil .u32 w lo hi a 0⟩
/-- Two lists in memory of the call's own, apart from each other. -/
def DE (w : World) (lo hi : Nat) (a : Option Addr) (zs : List Int) (b : Option Addr) (ys : List Int) : Prop := ∃ R S, ON .u32 w lo hi a zs R ∧ ON .u32 w lo hi b ys S ∧ (0 < zs.length → 0 < ys.length → R ≠ S)
theorem DE.seg1 {w : World} {lo hi : Nat} {a b : Option Addr} {zs ys : List Int} (h : DE w lo hi a zs b ys) : Seg .u32 w a zs := by obtain ⟨R, S, h1, _⟩ := h; exact h1.seg
theorem DE.seg2 {w : World} {lo hi : Nat} {a b : Option Addr} {zs ys : List Int} (h : DE w lo hi a zs b ys) : Seg .u32 w b ys := by obtain ⟨R, S, _, h1, _⟩ := h; exact h1.seg
theorem DE.below {w w' : World} {lo hi : Nat} {a b : Option Addr} {zs ys : List Int} (h : DE w lo hi a zs b ys) (hb : Below w.heap.size w w') : DE w' lo hi a zs b ys := by obtain ⟨R, S, h1, h2, h3⟩ := h; exact ⟨R, S, h1.below hb, h2.below hb, h3⟩
theorem DE.betw {w w' : World} {lo hi l' h' : Nat} {a b : Option Addr} {zs ys : List Int} (h : DE w lo hi a zs b ys) (hb : Betw l' h' w w') (ho : hi ≤ l' ∨ h' ≤ lo) : DE w' lo hi a zs b ys := by
  obtain ⟨R, S, h1, h2, h3⟩ := h
  exact ⟨R, S, h1.betw hb (fun h0 => by have := h1.rng h0; omega), h2.betw hb (fun h0 => by have := h2.rng h0; omega), h3⟩
theorem DE.wide {w : World} {lo hi l' h' : Nat} {a b : Option Addr} {zs ys : List Int} (h : DE w lo hi a zs b ys) (g1 : l' ≤ lo) (g2 : hi ≤ h') : DE w l' h' a zs b ys := by obtain ⟨R, S, h1, h2, h3⟩ := h; exact ⟨R, S, h1.wide g1 g2, h2.wide g1 g2, h3⟩
theorem DE.nil (w : World) (lo hi : Nat) (a b : Option Addr) : DE w lo hi a [] b [] := ⟨0, 0, ON.nil _ _ _ _ _ _, ON.nil _ _ _ _ _ _, fun h => absurd h (by simp)⟩
theorem DE.join {w : World} {lo mi hi : Nat} {a b : Option Addr} {zs ys : List Int} (h1 : OE w lo mi a zs) (h2 : OE w mi hi b ys) (g1 : lo ≤ mi) (g2 : mi ≤ hi) : DE w lo hi a zs b ys := by
  obtain ⟨R, h1⟩ := h1
  obtain ⟨S, h2⟩ := h2
  exact ⟨R, S, h1.wide (Nat.le_refl _) g2, h2.wide g1 (Nat.le_refl _), fun e1 e2 => by have := h1.rng e1; have := h2.rng e2; omega⟩
theorem DE.cut {w : World} {lo hi : Nat} {a b : Option Addr} {zs ys : List Int} (h : DE w lo hi a zs b ys) : OE w lo hi a zs ∧ OE w lo hi b ys := by obtain ⟨R, S, h1, h2, _⟩ := h; exact ⟨⟨R, h1⟩, S, h2⟩
set_option maxHeartbeats 1000000 in
theorem sz_dst (a : Option Addr) (n ca : Nat) (b : Option Addr) (m cb : Nat) (w : World) (hn : n ≤ 9223372036854775807) (hm : m ≤ 9223372036854775807) :
    Calls Try.prog 9 #[dst a n ca b m cb, .int .i64 ((1048576 : Nat) : Int)] w fun e w' => (∃ r : Int, e = .returned (.int .i64 r) ∧ (r < 0 ∨ (0 ≤ r ∧ n + m ≤ 1048576))) ∧ Below w.heap.size w w' := by
  have HB : Hid (Below w.heap.size w (w.alloc (.cells (dsr a n ca b m cb) 24))) := (Below.refl _ w).alloc (Nat.le_refl _) _
  go_enter Try.func9, Try.ntmps9
  go_wp2_with fail
  refine Calls.mono (sz_regs a ca n 1048576 _ hn (Nat.le_refl _)) ?_
  rintro u w2 ⟨⟨r, rfl, hr⟩, h2⟩
  rw [h2]
  clear h2 w2
  rcases hr with hr | ⟨hr, h1⟩
  · go_wp2
    go_ret
    exact ⟨⟨_, rfl, .inl (by omega)⟩, HB.out⟩
  · have h0 : ¬ (r < 0) := by omega
    subst hr
    go_wp2_with fail
    refine Calls.mono (sz_regs b cb m (1048576 - n) _ hm (by omega)) ?_
    rintro u w2 ⟨⟨r, rfl, hr⟩, h2⟩
    rw [h2]
    clear h2 w2
    rcases hr with hr | ⟨hr, h3⟩
    · go_wp2
      go_ret
      exact ⟨⟨_, rfl, .inl (by omega)⟩, HB.out⟩
    · have h0 : ¬ (r < 0) := by omega
      go_wp2
      go_ret
      exact ⟨⟨_, rfl, .inr ⟨by omega, by omega⟩⟩, HB.out⟩
set_option maxHeartbeats 1000000 in
theorem eq_dst (a a' : Option Addr) (n ca ca' : Nat) (b b' : Option Addr) (m cb cb' : Nat) (zs ys : List Int) (w : World) (ha : Seg .u32 w a zs) (ha' : Seg .u32 w a' zs) (hl : zs.length = n) (hn : n ≤ 1048576) (hb : Seg .u32 w b ys) (hb' : Seg .u32 w b' ys) (hm' : ys.length = m) (hm : m ≤ 1048576) :
    Calls Try.prog 13 #[dst a n ca b m cb, dst a' n ca' b' m cb'] w fun e w' => e = .returned (.bool true) ∧ Below w.heap.size w w' := by
  have HB : Hid (Below w.heap.size w ((w.alloc (.cells (dsr a n ca b m cb) 27)).alloc (.cells (dsr a' n ca' b' m cb') 27))) := ((Below.refl _ w).alloc (Nat.le_refl _) _).alloc (by simp) _
  have HE1 : Hid (∀ X, Below w.heap.size w X → Calls Try.prog 35 #[.slice a n ca, .slice a' n ca'] X fun e w' => e = .returned (.bool true) ∧ Below X.heap.size X w') := fun X hX => eq_regs a a' ca ca' n zs _ (ha.below hX) (ha'.below hX) hl hn
  have HE2 : Hid (∀ X, Below w.heap.size w X → Calls Try.prog 35 #[.slice b m cb, .slice b' m cb'] X fun e w' => e = .returned (.bool true) ∧ Below X.heap.size X w') := fun X hX => eq_regs b b' cb cb' m ys _ (hb.below hX) (hb'.below hX) hm' hm
  have HK : Hid (Bk ((w.alloc (.cells (dsr a n ca b m cb) 27)).alloc (.cells (dsr a' n ca' b' m cb') 27)) w.heap.size (dsr a n ca b m cb) ∧ Bk ((w.alloc (.cells (dsr a n ca b m cb) 27)).alloc (.cells (dsr a' n ca' b' m cb') 27)) (w.heap.size + 1) (dsr a' n ca' b' m cb')) := ⟨(Bk.new w _ _ _ rfl).alloc _, Bk.new _ _ _ _ (by simp)⟩
  clear ha hb hl ha' hb' hm'
  go_enter Try.func13, Try.ntmps13
  go_wp2_with fail
  refine Calls.mono (HE1.out _ HB.out) ?_
  rintro u w1 ⟨rfl, hb1⟩
  have HB1 : Hid (Below w.heap.size w w1) := HB.out.trans (hb1.mono HB.out.size)
  have K1 : Hid (Bk w1 w.heap.size (dsr a n ca b m cb) ∧ Bk w1 (w.heap.size + 1) (dsr a' n ca' b' m cb')) := ⟨HK.out.1.below hb1, HK.out.2.below hb1⟩
  clear hb1 HB HE1 HK
  have k1 := K1.out.1.cell 1 _ rfl
  have k2 := K1.out.2.cell 1 _ rfl
  clear K1
  go_wp2_with fail
  refine Calls.mono (HE2.out _ HB1.out) ?_
  rintro u w2 ⟨rfl, hb2⟩
  have HB2 : Hid (Below w.heap.size w w2) := HB1.out.trans (hb2.mono HB1.out.size)
  clear hb2 HB1 HE2 k1 k2
  go_wp2
  go_ret
  exact ⟨rfl, HB2.out⟩
theorem mark_oe {w : World} {lo hi c1 n k R : Nat} {a : Option Addr} {zs : List Int} (h : ON .u32 w lo hi a zs R) (hl : zs.length = n) (hn : n ≤ 1048576) (hk : k ≤ 1000000000) :
    Calls Try.prog 40 #[.slice a n c1, .int .i64 (k : Int)] w fun e w' => e = .returned (.int .i64 ((k + n : Nat) : Int)) ∧ Betw lo hi w w' ∧ (0 < n → Betw R (R + 1) w w') ∧ (n = 0 → w' = w) ∧ ON .u32 w' lo hi a (marksM 4294967296 k n) R := by
  refine (mark_regs lo hi R c1 k n a zs _ h hl hn hk).mono ?_
  rintro e w' ⟨h1, h2, _, h4, h5⟩
  refine ⟨h1, ?_, fun _ => h2, h5, h4⟩
  by_cases h0 : n = 0
  · rw [h5 h0]; exact Betw.refl _ _ _
  · have := h.rng (by omega)
    exact h2.wide this.1 (by omega)
set_option maxHeartbeats 1000000 in
theorem mark_dst (lo hi : Nat) (a : Option Addr) (n ca : Nat) (b : Option Addr) (m cb k : Nat) (zs ys : List Int) (w : World) (ho : DE w lo hi a zs b ys) (hl : zs.length = n) (hn : n ≤ 1048576) (hm' : ys.length = m) (hm : m ≤ 1048576) (hk : k ≤ 990000000) (hhi : hi ≤ w.heap.size) :
    Calls Try.prog 16 #[dst a n ca b m cb, .int .i64 (k : Int)] w fun e w' => e = .returned (.int .i64 ((k + n + m : Nat) : Int)) ∧ Betw lo hi w w' ∧ DE w' lo hi a (marksM 4294967296 k n) b (marksM 4294967296 (k + n) m) := by
  have hbw : Below w.heap.size w (w.alloc (.cells (dsr a n ca b m cb) 27)) := (Below.refl _ w).alloc (Nat.le_refl _) _
  obtain ⟨R, S, hR, hS, hRS⟩ := ho.below hbw
  have HK : Hid (Bk (w.alloc (.cells (dsr a n ca b m cb) 27)) w.heap.size (dsr a n ca b m cb)) := Bk.new w _ _ _ rfl
  have HB : Hid (Betw lo hi w (w.alloc (.cells (dsr a n ca b m cb) 27))) := Below.betw hbw
  have M1 : Hid (Calls Try.prog 40 #[.slice a n ca, .int .i64 (k : Int)] (w.alloc (.cells (dsr a n ca b m cb) 27)) fun e w' => e = .returned (.int .i64 ((k + n : Nat) : Int)) ∧ Betw lo hi (w.alloc (.cells (dsr a n ca b m cb) 27)) w' ∧ ON .u32 w' lo hi a (marksM 4294967296 k n) R ∧ ON .u32 w' lo hi b ys S) := by
    refine (mark_oe hR hl hn (by omega)).mono ?_
    rintro e w' ⟨h1, h2, h3, h4, h5⟩
    refine ⟨h1, h2, h5, ?_⟩
    by_cases h0 : n = 0
    · rw [h4 h0]; exact hS
    · exact hS.betw (h3 (by omega)) (fun g => by have := hRS (by omega) g; omega)
  have HRS : Hid (0 < n → 0 < m → R ≠ S) := fun g1 g2 => hRS (by omega) (by omega)
  have HL : Hid (ys.length = m) := hm'
  clear hR hS hRS hbw hm' hl
  obtain ⟨K, HKK⟩ : ∃ K, Hid (k + n = K) := ⟨_, rfl⟩
  have hK : K ≤ 1000000000 := by have := HKK.out; omega
  rw [HKK.out] at M1 ⊢
  have hlo : w.heap.size < lo ∨ hi ≤ w.heap.size := .inr hhi
  go_enter Try.func16, Try.ntmps16
  go_wp2_with fail
  refine Calls.mono M1.out ?_
  rintro u w1 ⟨rfl, hb1, ho1, hp1⟩
  have HB1 : Hid (Betw lo hi w w1) := HB.out.trans hb1
  have K1 : Hid (Bk w1 w.heap.size (dsr a n ca b m cb)) := HK.out.betw hb1 hlo
  have HO1 : Hid (ON .u32 w1 lo hi a (marksM 4294967296 k n) R) := ho1
  have M2 : Hid (Calls Try.prog 40 #[.slice b m cb, .int .i64 (K : Int)] w1 fun e w' => e = .returned (.int .i64 ((K + m : Nat) : Int)) ∧ Betw lo hi w1 w' ∧ ON .u32 w' lo hi a (marksM 4294967296 k n) R ∧ ON .u32 w' lo hi b (marksM 4294967296 K m) S) := by
    refine (mark_oe hp1 HL.out hm hK).mono ?_
    rintro e w' ⟨h1, h2, h3, h4, h5⟩
    refine ⟨h1, h2, ?_, h5⟩
    by_cases h0 : m = 0
    · rw [h4 h0]; exact HO1.out
    · refine HO1.out.betw (h3 (by omega)) (fun g => ?_)
      rw [marksM_len] at g
      have := HRS.out g (by omega)
      omega
  clear hb1 ho1 hp1 HB HK M1 HO1
  have k1 := K1.out.cell 1 _ rfl
  go_wp2_with fail
  refine Calls.mono M2.out ?_
  rintro u w2 ⟨rfl, hb2, ho2, hp2⟩
  have HB2 : Hid (Betw lo hi w w2) := HB1.out.trans hb2
  have HO2 : Hid (DE w2 lo hi a (marksM 4294967296 k n) b (marksM 4294967296 K m)) := ⟨R, S, ho2, hp2, fun g1 g2 => by rw [marksM_len] at g1 g2; exact HRS.out g1 g2⟩
  clear hb2 ho2 hp2 k1 K1 HB1 M2
  go_wp2
  go_ret
  exact ⟨rfl, HB2.out, HO2.out⟩
set_option maxHeartbeats 1000000 in
theorem held_dst (a : Option Addr) (n ca : Nat) (b : Option Addr) (m cb k : Nat) (w : World) (hs : Seg .u32 w a (marksM 4294967296 k n)) (hn : n ≤ 1048576) (ht : Seg .u32 w b (marksM 4294967296 (k + n) m)) (hm : m ≤ 1048576) (hk : k ≤ 990000000) :
    Calls Try.prog 17 #[dst a n ca b m cb, .int .i64 (k : Int)] w fun e w' => e = .returned (.int .i64 ((k + n + m : Nat) : Int)) ∧ Below w.heap.size w w' := by
  obtain ⟨K, HKK⟩ : ∃ K, Hid (k + n = K) := ⟨_, rfl⟩
  have hK : K ≤ 1000000000 := by have := HKK.out; omega
  have M1 : Hid (∀ X, Below w.heap.size w X → Calls Try.prog 41 #[.slice a n ca, .int .i64 (k : Int)] X fun e w' => e = .returned (.int .i64 (K : Int)) ∧ Below X.heap.size X w') := fun X hX => by rw [← HKK.out]; exact held_regs a ca n k _ (hs.below hX) hn (by omega)
  rw [HKK.out] at ht ⊢
  obtain ⟨q, HQ⟩ : ∃ q, Hid (K + m = q) := ⟨_, rfl⟩
  have M2 : Hid (∀ X, Below w.heap.size w X → Calls Try.prog 41 #[.slice b m cb, .int .i64 (K : Int)] X fun e w' => e = .returned (.int .i64 (q : Int)) ∧ Below X.heap.size X w') := fun X hX => by rw [← HQ.out]; exact held_regs b cb m K _ (ht.below hX) hm hK
  rw [HQ.out]
  have HB : Hid (Below w.heap.size w (w.alloc (.cells (dsr a n ca b m cb) 27))) := (Below.refl _ w).alloc (Nat.le_refl _) _
  have HK : Hid (Bk (w.alloc (.cells (dsr a n ca b m cb) 27)) w.heap.size (dsr a n ca b m cb)) := Bk.new w _ _ _ rfl
  have hq : ¬ ((q : Int) < 0) := by omega
  have hK0 : ¬ ((K : Int) < 0) := by omega
  clear hs ht HQ HKK
  go_enter Try.func17, Try.ntmps17
  go_wp2_with fail
  refine Calls.mono (M1.out _ HB.out) ?_
  rintro u w1 ⟨rfl, hb1⟩
  have HB1 : Hid (Below w.heap.size w w1) := HB.out.trans (hb1.mono HB.out.size)
  have K1 : Hid (Bk w1 w.heap.size (dsr a n ca b m cb)) := HK.out.below hb1
  clear hb1 HB HK M1
  have k1 := K1.out.cell 1 _ rfl
  go_wp2_with fail
  refine Calls.mono (M2.out _ HB1.out) ?_
  rintro u w2 ⟨rfl, hb2⟩
  have HB2 : Hid (Below w.heap.size w w2) := HB1.out.trans (hb2.mono HB1.out.size)
  clear hb2 HB1 K1 M2 k1
  go_wp2
  go_ret
  exact ⟨rfl, HB2.out⟩
set_option maxHeartbeats 1000000 in
theorem to_dst (a : Option Addr) (n ca : Nat) (b : Option Addr) (m cb : Nat) (zs ys : List Int) (w : World) (hs : Seg .u32 w a zs) (hl : zs.length = n) (hn : n ≤ 1048576) (ht : Seg .u32 w b ys) (hlm : ys.length = m) (hm : m ≤ 1048576) :
    Calls Try.prog 11 #[dst a n ca b m cb] w fun e w' => ∃ a' b', e = .returned (dst a' n n b' m m) ∧ Below w.heap.size w w' ∧ DE w' w.heap.size w'.heap.size a' zs b' ys := by
  have T1 : Hid (∀ X, Below w.heap.size w X → Calls Try.prog 34 #[.slice a n ca] X fun e w' => e = .returned (.slice (some ⟨X.heap.size, 0, none⟩) n n) ∧ Below X.heap.size X w' ∧ Own .u32 w' X.heap.size zs) := fun X hX => to_regs a ca n zs _ (hs.below hX) hl hn
  have T2 : Hid (∀ X, Below w.heap.size w X → Calls Try.prog 34 #[.slice b m cb] X fun e w' => e = .returned (.slice (some ⟨X.heap.size, 0, none⟩) m m) ∧ Below X.heap.size X w' ∧ Own .u32 w' X.heap.size ys) := fun X hX => to_regs b cb m ys _ (ht.below hX) hlm hm
  have HB : Hid (Below w.heap.size w (((w.alloc (.cells (dsr a n ca b m cb) 24)).alloc (.cells (dsr none 0 0 none 0 0) 27)).alloc (.cells (dsr none 0 0 none 0 0) 27))) := (((Below.refl _ w).alloc (Nat.le_refl _) _).alloc (by simp) _).alloc (by simp; omega) _
  have HK : Hid (Bk (((w.alloc (.cells (dsr a n ca b m cb) 24)).alloc (.cells (dsr none 0 0 none 0 0) 27)).alloc (.cells (dsr none 0 0 none 0 0) 27)) w.heap.size (dsr a n ca b m cb) ∧ Bk (((w.alloc (.cells (dsr a n ca b m cb) 24)).alloc (.cells (dsr none 0 0 none 0 0) 27)).alloc (.cells (dsr none 0 0 none 0 0) 27)) (w.heap.size + 1) (dsr none 0 0 none 0 0) ∧ Bk (((w.alloc (.cells (dsr a n ca b m cb) 24)).alloc (.cells (dsr none 0 0 none 0 0) 27)).alloc (.cells (dsr none 0 0 none 0 0) 27)) (w.heap.size + 2) (dsr none 0 0 none 0 0)) := ⟨((Bk.new w _ _ _ rfl).alloc _).alloc _, (Bk.new _ _ _ _ (by simp)).alloc _, Bk.new _ _ _ _ (by simp)⟩
  have hsz : (((w.alloc (.cells (dsr a n ca b m cb) 24)).alloc (.cells (dsr none 0 0 none 0 0) 27)).alloc (.cells (dsr none 0 0 none 0 0) 27)).heap.size = w.heap.size + 3 := by simp
  clear hs hl ht hlm
  go_enter Try.func11, Try.ntmps11
  go_wp2_with fail
  refine Calls.mono (T1.out _ HB.out) ?_
  rintro u w1 ⟨rfl, hb1, ho1⟩
  have hK := HK.out
  rw [hsz] at ho1 ⊢
  have HB1 : Hid (Below w.heap.size w w1) := HB.out.trans (hb1.mono HB.out.size)
  have K1 : Hid (Bk w1 w.heap.size (dsr a n ca b m cb) ∧ Bk w1 (w.heap.size + 1) (dsr none 0 0 none 0 0) ∧ Bk w1 (w.heap.size + 2) (dsr none 0 0 none 0 0)) := ⟨hK.1.below hb1, hK.2.1.below hb1, hK.2.2.below hb1⟩
  have HO1 : Hid (Own .u32 w1 (w.heap.size + 3) zs) := ho1
  clear hb1 ho1 HB HK T1 hsz hK
  have r0 := K1.out.2.2.cell 0 _ rfl
  have rf := K1.out.2.2.free
  have ht1 : Betw (w.heap.size + 2) (w.heap.size + 3) w1 (w1.setCell ⟨w.heap.size + 2, 0, none⟩ (.slice (some ⟨w.heap.size + 3, 0, none⟩) n n)) := (Betw.refl _ _ w1).setCell (p := ⟨w.heap.size + 2, 0, none⟩) (Nat.le_refl _) (by simp) _
  have K2 : Hid (Bk (w1.setCell ⟨w.heap.size + 2, 0, none⟩ (.slice (some ⟨w.heap.size + 3, 0, none⟩) n n)) w.heap.size (dsr a n ca b m cb) ∧ Bk (w1.setCell ⟨w.heap.size + 2, 0, none⟩ (.slice (some ⟨w.heap.size + 3, 0, none⟩) n n)) (w.heap.size + 1) (dsr none 0 0 none 0 0) ∧ Bk (w1.setCell ⟨w.heap.size + 2, 0, none⟩ (.slice (some ⟨w.heap.size + 3, 0, none⟩) n n)) (w.heap.size + 2) (dsr (some ⟨w.heap.size + 3, 0, none⟩) n n none 0 0)) := ⟨K1.out.1.other _ 0 _ (by omega), K1.out.2.1.other _ 0 _ (by omega), K1.out.2.2.set 0 _ (by simp) rfl⟩
  have HB2 : Hid (Below w.heap.size w (w1.setCell ⟨w.heap.size + 2, 0, none⟩ (.slice (some ⟨w.heap.size + 3, 0, none⟩) n n))) := HB1.out.trans (ht1.below (by omega) HB1.out.size)
  have HO2 : Hid (OE (w1.setCell ⟨w.heap.size + 2, 0, none⟩ (.slice (some ⟨w.heap.size + 3, 0, none⟩) n n)) (w.heap.size + 3) (w.heap.size + 4) (some ⟨w.heap.size + 3, 0, none⟩) zs) := OE.betw ⟨_, ON.own HO1.out (Nat.le_refl _) (Nat.lt_succ_self _)⟩ ht1 (.inr (Nat.le_refl _))
  have hz2 : w.heap.size + 4 ≤ (w1.setCell ⟨w.heap.size + 2, 0, none⟩ (.slice (some ⟨w.heap.size + 3, 0, none⟩) n n)).heap.size := by have := HO1.out.lt; have := ht1.size; omega
  have k1 := K2.out.1.cell 1 _ rfl
  clear ht1 K1 HB1 HO1
  go_wp2_with fail
  refine Calls.mono (T2.out _ HB2.out) ?_
  generalize (w1.setCell ⟨w.heap.size + 2, 0, none⟩ (.slice (some ⟨w.heap.size + 3, 0, none⟩) n n)) = V at HB2 HO2 hz2 K2 k1 ⊢
  clear r0 rf
  rintro u w2 ⟨rfl, hb2, ho2⟩
  generalize hB2 : V.heap.size = B2 at ho2 ⊢
  have hzb : w.heap.size + 4 ≤ B2 := by omega
  have HB3 : Hid (Below w.heap.size w w2) := HB2.out.trans (hb2.mono HB2.out.size)
  have K3 : Hid (Bk w2 (w.heap.size + 1) (dsr none 0 0 none 0 0) ∧ Bk w2 (w.heap.size + 2) (dsr (some ⟨w.heap.size + 3, 0, none⟩) n n none 0 0)) := ⟨K2.out.2.1.below hb2, K2.out.2.2.below hb2⟩
  have HO3 : Hid (DE w2 (w.heap.size + 3) (B2 + 1) (some ⟨w.heap.size + 3, 0, none⟩) zs (some ⟨B2, 0, none⟩) ys) := DE.join (OE.wide (OE.below HO2.out hb2) (Nat.le_refl _) hzb) ⟨_, ON.own ho2 (Nat.le_refl _) (Nat.lt_succ_self _)⟩ (by omega) (by omega)
  have hlt2 : B2 < w2.heap.size := ho2.lt
  clear hb2 ho2 HB2 K2 HO2 T2 k1 hz2 hB2
  have r1 := K3.out.2.cell 1 _ rfl
  have rf := K3.out.2.free
  have K4 : Hid (Bk (w2.setCell ⟨w.heap.size + 2, 1, none⟩ (.slice (some ⟨B2, 0, none⟩) m m)) (w.heap.size + 1) (dsr none 0 0 none 0 0) ∧ Bk (w2.setCell ⟨w.heap.size + 2, 1, none⟩ (.slice (some ⟨B2, 0, none⟩) m m)) (w.heap.size + 2) (dsr (some ⟨w.heap.size + 3, 0, none⟩) n n (some ⟨B2, 0, none⟩) m m)) := ⟨K3.out.1.other _ 1 _ (by omega), K3.out.2.set 1 _ (by simp) rfl⟩
  have z0 := K4.out.1.cell 0 _ rfl
  have z1 := K4.out.1.cell 1 _ rfl
  have zf := K4.out.1.free
  have t0 := K4.out.2.cell 0 _ rfl
  have t1 := K4.out.2.cell 1 _ rfl
  go_wp2
  have k9 : Bk (((w2.setCell ⟨w.heap.size + 2, 1, none⟩ (.slice (some ⟨B2, 0, none⟩) m m)).setCell ⟨w.heap.size + 1, 0, none⟩ (.slice (some ⟨w.heap.size + 3, 0, none⟩) n n)).setCell ⟨w.heap.size + 1, 1, none⟩ (.slice (some ⟨B2, 0, none⟩) m m)) (w.heap.size + 1) (dsr (some ⟨w.heap.size + 3, 0, none⟩) n n (some ⟨B2, 0, none⟩) m m) := (K4.out.1.set 0 (.slice (some ⟨w.heap.size + 3, 0, none⟩) n n) (by simp) (cs' := dsr (some ⟨w.heap.size + 3, 0, none⟩) n n none 0 0) rfl).set 1 _ (by simp) rfl
  have ht : Betw (w.heap.size + 1) (w.heap.size + 3) w2 (((w2.setCell ⟨w.heap.size + 2, 1, none⟩ (.slice (some ⟨B2, 0, none⟩) m m)).setCell ⟨w.heap.size + 1, 0, none⟩ (.slice (some ⟨w.heap.size + 3, 0, none⟩) n n)).setCell ⟨w.heap.size + 1, 1, none⟩ (.slice (some ⟨B2, 0, none⟩) m m)) := (((Betw.refl _ _ w2).setCell (p := ⟨w.heap.size + 2, 1, none⟩) (by simp) (by simp) (.slice (some ⟨B2, 0, none⟩) m m)).setCell (p := ⟨w.heap.size + 1, 0, none⟩) (by simp) (by simp) (.slice (some ⟨w.heap.size + 3, 0, none⟩) n n)).setCell (p := ⟨w.heap.size + 1, 1, none⟩) (by simp) (by simp) (.slice (some ⟨B2, 0, none⟩) m m)
  have hb9 : Below w.heap.size w (((w2.setCell ⟨w.heap.size + 2, 1, none⟩ (.slice (some ⟨B2, 0, none⟩) m m)).setCell ⟨w.heap.size + 1, 0, none⟩ (.slice (some ⟨w.heap.size + 3, 0, none⟩) n n)).setCell ⟨w.heap.size + 1, 1, none⟩ (.slice (some ⟨B2, 0, none⟩) m m)) := HB3.out.trans (ht.below (by omega) HB3.out.size)
  have ho9 : DE (((w2.setCell ⟨w.heap.size + 2, 1, none⟩ (.slice (some ⟨B2, 0, none⟩) m m)).setCell ⟨w.heap.size + 1, 0, none⟩ (.slice (some ⟨w.heap.size + 3, 0, none⟩) n n)).setCell ⟨w.heap.size + 1, 1, none⟩ (.slice (some ⟨B2, 0, none⟩) m m)) w.heap.size (((w2.setCell ⟨w.heap.size + 2, 1, none⟩ (.slice (some ⟨B2, 0, none⟩) m m)).setCell ⟨w.heap.size + 1, 0, none⟩ (.slice (some ⟨w.heap.size + 3, 0, none⟩) n n)).setCell ⟨w.heap.size + 1, 1, none⟩ (.slice (some ⟨B2, 0, none⟩) m m)).heap.size (some ⟨w.heap.size + 3, 0, none⟩) zs (some ⟨B2, 0, none⟩) ys := DE.wide (DE.betw HO3.out ht (.inr (Nat.le_refl _))) (by omega) (by have := ht.size; omega)
  clear r1 rf zf z0 z1 t0 t1 K3 K4 HB3 HO3 ht
  revert k9 hb9 ho9
  generalize (((w2.setCell ⟨w.heap.size + 2, 1, none⟩ (.slice (some ⟨B2, 0, none⟩) m m)).setCell ⟨w.heap.size + 1, 0, none⟩ (.slice (some ⟨w.heap.size + 3, 0, none⟩) n n)).setCell ⟨w.heap.size + 1, 1, none⟩ (.slice (some ⟨B2, 0, none⟩) m m)) = Wf
  intro k9 hb9 ho9
  have q0 := k9.cell 0 _ rfl
  have q1 := k9.cell 1 _ rfl
  exact bodyPost_ret (v := dst (some ⟨w.heap.size + 3, 0, none⟩) n n (some ⟨B2, 0, none⟩) m m) (by simp [results, Try.results11, go_sem, q0, q1]) rfl ⟨_, _, rfl, hb9, ho9⟩
end Go.Proofs.Ythfmggfohegpnaa
