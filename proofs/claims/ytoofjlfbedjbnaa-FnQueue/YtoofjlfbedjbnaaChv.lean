
/-
  Rows of channels and the two ends of a channel as values: how they come in, are turned into the program's own, held against one another, marked. Conditions: the words read as words; lengths are at most 1048576 where a list is copied, held or marked.
-/
import Derived.Test.YtoofjlfbedjbnaaRows
import Derived.Test.YtoofjlfbedjbnaaUls
import Derived.Below
import Derived.Lib.SmallJoins
import Derived.ProofKit
import Derived.OpenShut
import Derived.ChangeSlices
import Derived.Deep.SlicePairs
namespace Go.Proofs.Ytoofjlfbedjbnaa
open Go.ChangeShapes Go.WideShapes Go.ChangeAt Go.RowKit Go.Joins Go.Deep
set_option linter.unusedVariables false

theorem laidOut : laidOutB Try.prog = true := by kernel_rfl
abbrev crw (k f t d : Int) : Value := .agg #[.int .i64 k, .int .i64 f, .int .i64 t, .int .i64 d]
abbrev crow (k f t d : Int) : Array Value := #[.int .i64 k, .int .i64 f, .int .i64 t, .int .i64 d]
abbrev oen (h : Int) (a : Option Addr) (n c : Nat) : Value := .agg #[.int .i64 h, .slice a n c]
abbrev orow (h : Int) (a : Option Addr) (n c : Nat) : Array Value := #[.int .i64 h, .slice a n c]
abbrev ien (a : Option Addr) (n c : Nat) : Value := .agg #[.slice a n c]
abbrev irow (a : Option Addr) (n c : Nat) : Array Value := #[.slice a n c]
theorem array4 {α : Type} {cs : Array α} (h : cs.size = 4) : ∃ c0 c1 c2 c3, cs = #[c0, c1, c2, c3] := by
  obtain ⟨l⟩ := cs
  match l, h with
  | [c0, c1, c2, c3], _ => exact ⟨c0, c1, c2, c3, rfl⟩
theorem list4 {α : Type} {cs : List α} (h : cs.length = 4) : ∃ c0 c1 c2 c3, cs = [c0, c1, c2, c3] := by
  match cs, h with
  | [c0, c1, c2, c3], _ => exact ⟨c0, c1, c2, c3, rfl⟩
theorem array2 {α : Type} {cs : Array α} (h : cs.size = 2) : ∃ c0 c1, cs = #[c0, c1] := by
  obtain ⟨l⟩ := cs
  match l, h with
  | [c0, c1], _ => exact ⟨c0, c1, rfl⟩
theorem list2 {α : Type} {cs : List α} (h : cs.length = 2) : ∃ c0 c1, cs = [c0, c1] := by
  match cs, h with
  | [c0, c1], _ => exact ⟨c0, c1, rfl⟩
theorem array1 {α : Type} {cs : Array α} (h : cs.size = 1) : ∃ c0, cs = #[c0] := by
  obtain ⟨l⟩ := cs
  match l, h with
  | [c0], _ => exact ⟨c0, rfl⟩
theorem list1 {α : Type} {cs : List α} (h : cs.length = 1) : ∃ c0, cs = [c0] := by
  match cs, h with
  | [c0], _ => exact ⟨c0, rfl⟩
abbrev crwD {H : Type} (k f t d : Int) : DataW H := .agg [.lit (.int .i64 k), .lit (.int .i64 f), .lit (.int .i64 t), .lit (.int .i64 d)]
abbrev crwW (k f t d : Int) : Prop := (Lit.int .i64 k).wf = true ∧ (Lit.int .i64 f).wf = true ∧ (Lit.int .i64 t).wf = true ∧ (Lit.int .i64 d).wf = true
theorem cells3 : Try.prog.cellsOf 3 = 1 := by kernel_rfl
theorem cellsU3 : Try.prog.cellsOf 48 = 1 := by kernel_rfl
theorem cellsUS : Try.prog.cellsOf 28 = 1 := by kernel_rfl
theorem cellsLC : Try.prog.cellsOf 23 = 4 := by kernel_rfl
theorem cellsLO : Try.prog.cellsOf 30 = 2 := by kernel_rfl
theorem cellsLI : Try.prog.cellsOf 38 = 1 := by kernel_rfl
set_option maxRecDepth 100000 in
theorem crw_open {H : Type} {enc : TypeId × Value → H} {W : World} {r : Reach} {b0 base : Nat} {spare : Nat → Bool} {held : Bool} {x : Value} {d : DataW H} {q : List MemPlace}
    (hv : Value.okWide Try.prog W r b0 23 x) (h : DataW.Trod enc Try.prog W base spare held 23 x d q) :
    ∃ k f t dd, x = crw k f t dd ∧ d = crwD k f t dd ∧ q = [] ∧ crwW k f t dd := by
  obtain ⟨cs, rfl, hsz⟩ := okWide_struct Try.underlying23 hv
  obtain ⟨v0, v1, v2, v3, rfl⟩ := array4 (hsz.trans cellsLC)
  obtain ⟨fuel, hf⟩ := h
  obtain ⟨xs, m, _, hx, _, hl, hfs⟩ := DataW.trod_struct Try.underlying23 hf
  obtain ⟨y0, y1, y2, y3, rfl⟩ := list4 hl
  have g0 := hfs 0 _ rfl
  have g1 := hfs 1 _ rfl
  have g2 := hfs 2 _ rfl
  have g3 := hfs 3 _ rfl
  simp only [Value.cells] at g0 g1 g2 g3
  obtain ⟨k, e0, rfl, w0⟩ := DataW.trod_int Try.underlying3 g0
  obtain ⟨f, e1, rfl, w1⟩ := DataW.trod_int Try.underlying3 g1
  obtain ⟨t, e2, rfl, w2⟩ := DataW.trod_int Try.underlying3 g2
  obtain ⟨dd, e3, rfl, w3⟩ := DataW.trod_int Try.underlying3 g3
  simp [cells3] at e0 e1 e2 e3
  subst e0 e1 e2 e3
  simp at hx
  exact ⟨k, f, t, dd, rfl, hx.1, hx.2, w0, w1, w2, w3⟩
theorem crw_reads {H : Type} {enc : TypeId × Value → H} {W : World} {base : Nat} {spare : Nat → Bool} {held : Bool} {k f t d : Int}
    (g : crwW k f t d) : DataW.Trod enc Try.prog W base spare held 23 (crw k f t d) (crwD k f t d) [] := by
  obtain ⟨w1, w2, w3, w4⟩ := g
  refine ⟨2, ?_⟩
  have := trod_struct_mk (enc := enc) (w := W) (base := base) (spare := spare) (held := held) (n := 1) (cs := [.int .i64 k, .int .i64 f, .int .i64 t, .int .i64 d])
    (xs := [(.lit (.int .i64 k), []), (.lit (.int .i64 f), []), (.lit (.int .i64 t), []), (.lit (.int .i64 d), [])]) Try.underlying23 (by rw [cellsLC]; rfl)
    (by simp [cells3, DataW.trod, Try.underlying3, w1, w2, w3, w4])
  simpa [Value.cells] using this
theorem nums_open {H : Type} {enc : TypeId × Value → H} {W : World} {base : Nat} {held : Bool} {fuel : Nat} {cs : List Value} {x : DataW H × List MemPlace} {t e : TypeId} {k : IntKind} (ht : Try.prog.underlying t = some (.slice e)) (he : Try.prog.underlying e = some (.int k)) (hc : Try.prog.cellsOf e = 1)
    (h : DataW.trod enc Try.prog W base (fun _ => true) held fuel t cs = some x) : ∃ a zs c, cs = [.slice a (List.length zs) c] ∧ Seg k W a zs ∧ (∀ z ∈ zs, (Lit.int k z).wf = true) ∧ zs.length ≤ 9223372036854775807 ∧ zs.length ≤ c := by
  rcases open_ints ht he hc h with ⟨rfl, _⟩ | ⟨a, l, c, zs, rfl, _, hl, hm, hz, _, hcell, hwz⟩
  · exact ⟨none, [], 0, rfl, fun h => absurd h (by simp), by simp, by simp, by simp⟩
  · obtain ⟨ys, hy1, hy2, hy3⟩ := seg_of_row (k := k) (w := W) (a := some a) (len := l) (cap := c) (zs := zs) (.inr ⟨a, rfl, hl, hm, by simpa using hz, hcell, hwz⟩)
    have : maxLen = 9223372036854775807 := rfl
    exact ⟨some a, ys, c, by rw [hy1], hy2, hy3, by omega, by omega⟩
/-- What is known of words that came in. -/
structure WIn (W : World) (a : Option Addr) (zs : List Int) : Prop where
  seg : Seg .u32 W a zs
  wf : ∀ z ∈ zs, (Lit.int .u32 z).wf = true
  len : zs.length ≤ 9223372036854775807
set_option maxRecDepth 100000 in
theorem out_arg {H : Type} {enc : TypeId × Value → H} {W : World} {r : Reach} {b0 base : Nat} {held : Bool} {v : Value} {d : DataW H} {p : List MemPlace}
    (hv : Value.okWide Try.prog W r b0 30 v) (h : DataW.Trod enc Try.prog W base (fun _ => true) held 30 v d p) :
    ∃ hd a zs c, v = oen hd a (List.length zs) c ∧ (Lit.int .i64 hd).wf = true ∧ WIn W a zs := by
  obtain ⟨cs, rfl, hsz⟩ := okWide_struct Try.underlying30 hv
  obtain ⟨v0, v1, rfl⟩ := array2 (hsz.trans cellsLO)
  obtain ⟨fuel, hf⟩ := h
  obtain ⟨xs, n, _, hx, _, hl, hfs⟩ := DataW.trod_struct Try.underlying30 hf
  obtain ⟨y0, y1, rfl⟩ := list2 hl
  have g0 := hfs 0 _ rfl
  have g1 := hfs 1 _ rfl
  simp only [Value.cells] at g0 g1
  obtain ⟨hd, e0, _, w0⟩ := DataW.trod_int Try.underlying3 g0
  obtain ⟨a, zs, c, e1, hs, hw, h1, h2⟩ := nums_open Try.underlying28 Try.underlying48 cellsU3 g1
  simp [cells3, cellsUS] at e0 e1
  subst e0 e1
  exact ⟨hd, a, zs, c, rfl, w0, hs, hw, h1⟩
set_option maxRecDepth 100000 in
theorem in_arg {H : Type} {enc : TypeId × Value → H} {W : World} {r : Reach} {b0 base : Nat} {held : Bool} {v : Value} {d : DataW H} {p : List MemPlace}
    (hv : Value.okWide Try.prog W r b0 38 v) (h : DataW.Trod enc Try.prog W base (fun _ => true) held 38 v d p) :
    ∃ a zs c, v = ien a (List.length zs) c ∧ WIn W a zs := by
  obtain ⟨cs, rfl, hsz⟩ := okWide_struct Try.underlying38 hv
  obtain ⟨v0, rfl⟩ := array1 (hsz.trans cellsLI)
  obtain ⟨fuel, hf⟩ := h
  obtain ⟨xs, n, _, hx, _, hl, hfs⟩ := DataW.trod_struct Try.underlying38 hf
  obtain ⟨y0, rfl⟩ := list1 hl
  have g0 := hfs 0 _ rfl
  simp only [Value.cells] at g0
  obtain ⟨a, zs, c, e1, hs, hw, h1, h2⟩ := nums_open Try.underlying28 Try.underlying48 cellsU3 g0
  simp [cellsUS] at e1
  subst e1
  exact ⟨a, zs, c, rfl, hs, hw, h1⟩
/-- Words in memory of the call's own. -/
def OE (w : World) (lo hi : Nat) (a : Option Addr) (zs : List Int) : Prop := ∃ R, ON .u32 w lo hi a zs R
theorem OE.seg {w : World} {lo hi : Nat} {a : Option Addr} {zs : List Int} (h : OE w lo hi a zs) : Seg .u32 w a zs := by obtain ⟨R, h⟩ := h; exact h.seg
theorem OE.below {w w' : World} {lo hi : Nat} {a : Option Addr} {zs : List Int} (h : OE w lo hi a zs) (hb : Below w.heap.size w w') : OE w' lo hi a zs := by obtain ⟨R, h⟩ := h; exact ⟨R, h.below hb⟩
theorem ON.rng {k : IntKind} {w : World} {lo hi : Nat} {a : Option Addr} {ws : List Int} {R : Nat} (h : ON k w lo hi a ws R) (h0 : 0 < ws.length) : lo ≤ R ∧ R < hi := by
  obtain ⟨off, _, h1, h2, _⟩ := h h0
  exact ⟨h1, h2⟩
theorem OE.betw {w w' : World} {lo hi l' h' : Nat} {a : Option Addr} {zs : List Int} (h : OE w lo hi a zs) (hb : Betw l' h' w w') (ho : hi ≤ l' ∨ h' ≤ lo) : OE w' lo hi a zs := by
  obtain ⟨R, h⟩ := h
  exact ⟨R, h.betw hb (fun h0 => by have := h.rng h0; omega)⟩
theorem OE.wide {w : World} {lo hi l' h' : Nat} {a : Option Addr} {zs : List Int} (h : OE w lo hi a zs) (g1 : l' ≤ lo) (g2 : hi ≤ h') : OE w l' h' a zs := by obtain ⟨R, h⟩ := h; exact ⟨R, h.wide g1 g2⟩
theorem OE.nil (w : World) (lo hi : Nat) (a : Option Addr) : OE w lo hi a [] := ⟨0, ON.nil .u32 w lo hi a 0⟩
set_option maxHeartbeats 400000 in
theorem to_row (k f t d : Int) (w : World) : Calls Try.prog 15 #[crw k f t d] w fun x w' => x = .returned (crw k f t d) ∧ Below w.heap.size w w' := by
  go_enter Try.func15, Try.ntmps15
  go_wp2
  exact bodyPost_ret (v := crw k f t d) (by simp [results, Try.results15, go_sem]) rfl ⟨rfl, (((Below.refl _ _).alloc (Nat.le_refl _) _).alloc (by simp) _).alloc (by simp; omega) _⟩
set_option maxHeartbeats 1000000 in
theorem sz_out (h : Int) (a : Option Addr) (cap n L : Nat) (w : World) (hn : n ≤ 9223372036854775807) (hL : L ≤ 1048576) :
    Calls Try.prog 17 #[oen h a n cap, .int .i64 (L : Int)] w fun e w' => (∃ r : Int, e = .returned (.int .i64 r) ∧ (r < 0 ∨ (r = ((L - n : Nat) : Int) ∧ n ≤ L))) ∧ Below w.heap.size w w' := by
  have HB : Hid (Below w.heap.size w (w.alloc (.cells (orow h a n cap) 30))) := (Below.refl _ w).alloc (Nat.le_refl _) _
  go_enter Try.func17, Try.ntmps17
  go_wp2_with fail
  refine Calls.mono (sz_regs a cap n L _ hn hL) ?_
  rintro u w2 ⟨⟨r, rfl, hr⟩, h2⟩
  rw [h2]
  clear h2 w2
  rcases hr with hr | ⟨hr, h1⟩
  · go_wp2
    go_ret
    exact ⟨⟨_, rfl, .inl (by omega)⟩, HB.out⟩
  · have h0 : ¬ (r < 0) := by omega
    go_wp2
    go_ret
    exact ⟨⟨_, rfl, .inr ⟨by first | rfl | exact hr, h1⟩⟩, HB.out⟩
set_option maxHeartbeats 1000000 in
theorem to_out (h : Int) (a : Option Addr) (cap n : Nat) (zs : List Int) (w : World) (hs : Seg .u32 w a zs) (hl : zs.length = n) (hn : n ≤ 1048576) :
    Calls Try.prog 19 #[oen h a n cap] w fun e w' => ∃ a', e = .returned (oen h a' n n) ∧ Below w.heap.size w w' ∧ OE w' w.heap.size w'.heap.size a' zs := by
  have hbw : Below w.heap.size w (((w.alloc (.cells (orow h a n cap) 30)).alloc (.cells (orow 0 none 0 0) 33)).alloc (.cells (orow h none 0 0) 33)) := (((Below.refl _ w).alloc (Nat.le_refl _) _).alloc (by simp) _).alloc (by simp; omega) _
  have HT : Hid (Calls Try.prog 59 #[.slice a n cap] (((w.alloc (.cells (orow h a n cap) 30)).alloc (.cells (orow 0 none 0 0) 33)).alloc (.cells (orow h none 0 0) 33)) fun e w' => e = .returned (.slice (some ⟨(((w.alloc (.cells (orow h a n cap) 30)).alloc (.cells (orow 0 none 0 0) 33)).alloc (.cells (orow h none 0 0) 33)).heap.size, 0, none⟩) n n) ∧ Below (((w.alloc (.cells (orow h a n cap) 30)).alloc (.cells (orow 0 none 0 0) 33)).alloc (.cells (orow h none 0 0) 33)).heap.size (((w.alloc (.cells (orow h a n cap) 30)).alloc (.cells (orow 0 none 0 0) 33)).alloc (.cells (orow h none 0 0) 33)) w' ∧ Own .u32 w' (((w.alloc (.cells (orow h a n cap) 30)).alloc (.cells (orow 0 none 0 0) 33)).alloc (.cells (orow h none 0 0) 33)).heap.size zs) := to_regs a cap n zs _ (hs.below hbw) hl hn
  have HB : Hid (Below w.heap.size w (((w.alloc (.cells (orow h a n cap) 30)).alloc (.cells (orow 0 none 0 0) 33)).alloc (.cells (orow h none 0 0) 33))) := hbw
  have HK : Hid (Bk (((w.alloc (.cells (orow h a n cap) 30)).alloc (.cells (orow 0 none 0 0) 33)).alloc (.cells (orow h none 0 0) 33)) (w.heap.size + 1) (orow 0 none 0 0) ∧ Bk (((w.alloc (.cells (orow h a n cap) 30)).alloc (.cells (orow 0 none 0 0) 33)).alloc (.cells (orow h none 0 0) 33)) (w.heap.size + 2) (orow h none 0 0)) := ⟨(Bk.new _ _ _ _ (by simp)).alloc _, Bk.new _ _ _ _ (by simp)⟩
  have hsz : (((w.alloc (.cells (orow h a n cap) 30)).alloc (.cells (orow 0 none 0 0) 33)).alloc (.cells (orow h none 0 0) 33)).heap.size = w.heap.size + 3 := by simp
  clear hs hl hbw
  go_enter Try.func19, Try.ntmps19
  go_wp2_with fail
  refine Calls.mono HT.out ?_
  rintro u w1 ⟨rfl, hb1, ho1⟩
  rw [hsz] at ho1 hb1 ⊢
  have HB1 : Hid (Below w.heap.size w w1) := HB.out.trans (hb1.mono (by omega))
  have K1 : Hid (Bk w1 (w.heap.size + 1) (orow 0 none 0 0) ∧ Bk w1 (w.heap.size + 2) (orow h none 0 0)) := ⟨HK.out.1.below (by rw [hsz]; exact hb1), HK.out.2.below (by rw [hsz]; exact hb1)⟩
  have HO1 : Hid (Own .u32 w1 (w.heap.size + 3) zs) := ho1
  clear hb1 ho1 HB HK HT hsz
  have K2 : Hid (Bk (w1.setCell ⟨w.heap.size + 2, 1, none⟩ (.slice (some ⟨w.heap.size + 3, 0, none⟩) n n)) (w.heap.size + 1) (orow 0 none 0 0)) := K1.out.1.other _ 1 _ (by omega)
  have K3 : Hid (Bk (w1.setCell ⟨w.heap.size + 2, 1, none⟩ (.slice (some ⟨w.heap.size + 3, 0, none⟩) n n)) (w.heap.size + 2) (orow h (some ⟨w.heap.size + 3, 0, none⟩) n n)) := K1.out.2.set 1 _ (by simp) rfl
  have r1 := K1.out.2.cell 1 _ rfl
  have rf := K1.out.2.free
  have z0 := K2.out.cell 0 _ rfl
  have z1 := K2.out.cell 1 _ rfl
  have zf := K2.out.free
  have t0 := K3.out.cell 0 _ rfl
  have t1 := K3.out.cell 1 _ rfl
  go_wp2
  have k9 : Bk (((w1.setCell ⟨w.heap.size + 2, 1, none⟩ (.slice (some ⟨w.heap.size + 3, 0, none⟩) n n)).setCell ⟨w.heap.size + 1, 0, none⟩ (.int .i64 h)).setCell ⟨w.heap.size + 1, 1, none⟩ (.slice (some ⟨w.heap.size + 3, 0, none⟩) n n)) (w.heap.size + 1) (orow h (some ⟨w.heap.size + 3, 0, none⟩) n n) := (K2.out.set 0 (.int .i64 h) (by simp) (cs' := orow h none 0 0) rfl).set 1 _ (by simp) rfl
  have ht : Betw (w.heap.size + 1) (w.heap.size + 3) w1 (((w1.setCell ⟨w.heap.size + 2, 1, none⟩ (.slice (some ⟨w.heap.size + 3, 0, none⟩) n n)).setCell ⟨w.heap.size + 1, 0, none⟩ (.int .i64 h)).setCell ⟨w.heap.size + 1, 1, none⟩ (.slice (some ⟨w.heap.size + 3, 0, none⟩) n n)) := (((Betw.refl (w.heap.size + 1) (w.heap.size + 3) w1).setCell (p := ⟨w.heap.size + 2, 1, none⟩) (by simp) (by simp) (.slice (some ⟨w.heap.size + 3, 0, none⟩) n n)).setCell (p := ⟨w.heap.size + 1, 0, none⟩) (by simp) (by simp) (.int .i64 h)).setCell (p := ⟨w.heap.size + 1, 1, none⟩) (by simp) (by simp) (.slice (some ⟨w.heap.size + 3, 0, none⟩) n n)
  have hb9 : Below w.heap.size w (((w1.setCell ⟨w.heap.size + 2, 1, none⟩ (.slice (some ⟨w.heap.size + 3, 0, none⟩) n n)).setCell ⟨w.heap.size + 1, 0, none⟩ (.int .i64 h)).setCell ⟨w.heap.size + 1, 1, none⟩ (.slice (some ⟨w.heap.size + 3, 0, none⟩) n n)) := HB1.out.trans (ht.below (by omega) HB1.out.size)
  have ho9 : OE (((w1.setCell ⟨w.heap.size + 2, 1, none⟩ (.slice (some ⟨w.heap.size + 3, 0, none⟩) n n)).setCell ⟨w.heap.size + 1, 0, none⟩ (.int .i64 h)).setCell ⟨w.heap.size + 1, 1, none⟩ (.slice (some ⟨w.heap.size + 3, 0, none⟩) n n)) w.heap.size (((w1.setCell ⟨w.heap.size + 2, 1, none⟩ (.slice (some ⟨w.heap.size + 3, 0, none⟩) n n)).setCell ⟨w.heap.size + 1, 0, none⟩ (.int .i64 h)).setCell ⟨w.heap.size + 1, 1, none⟩ (.slice (some ⟨w.heap.size + 3, 0, none⟩) n n)).heap.size (some ⟨w.heap.size + 3, 0, none⟩) zs := OE.wide (OE.betw ⟨_, ON.own HO1.out (Nat.le_refl _) (Nat.lt_succ_self _)⟩ ht (.inr (Nat.le_refl _))) (by omega) (by have := HO1.out.lt; have := ht.size; omega)
  clear r1 rf zf z0 t0 z1 t1 K1 K2 K3 HB1 HO1 ht
  revert k9 hb9 ho9
  generalize (((w1.setCell ⟨w.heap.size + 2, 1, none⟩ (.slice (some ⟨w.heap.size + 3, 0, none⟩) n n)).setCell ⟨w.heap.size + 1, 0, none⟩ (.int .i64 h)).setCell ⟨w.heap.size + 1, 1, none⟩ (.slice (some ⟨w.heap.size + 3, 0, none⟩) n n)) = Wf
  intro k9 hb9 ho9
  have q0 := k9.cell 0 _ rfl
  have q1 := k9.cell 1 _ rfl
  exact bodyPost_ret (v := oen h (some ⟨w.heap.size + 3, 0, none⟩) n n) (by simp [results, Try.results19, go_sem, q0, q1]) rfl ⟨_, rfl, hb9, ho9⟩
set_option maxHeartbeats 1000000 in
theorem eq_out (h : Int) (a b : Option Addr) (ca cb n : Nat) (zs : List Int) (w : World) (ha : Seg .u32 w a zs) (hb : Seg .u32 w b zs) (hl : zs.length = n) (hn : n ≤ 1048576) :
    Calls Try.prog 21 #[oen h a n ca, oen h b n cb] w fun e w' => e = .returned (.bool true) ∧ Below w.heap.size w w' := by
  have hbw : Below w.heap.size w ((w.alloc (.cells (orow h a n ca) 33)).alloc (.cells (orow h b n cb) 33)) := ((Below.refl _ w).alloc (Nat.le_refl _) _).alloc (by simp) _
  have HE : Hid (Calls Try.prog 41 #[.slice a n ca, .slice b n cb] ((w.alloc (.cells (orow h a n ca) 33)).alloc (.cells (orow h b n cb) 33)) fun e w' => e = .returned (.bool true) ∧ Below ((w.alloc (.cells (orow h a n ca) 33)).alloc (.cells (orow h b n cb) 33)).heap.size ((w.alloc (.cells (orow h a n ca) 33)).alloc (.cells (orow h b n cb) 33)) w') := eq_regs a b ca cb n zs _ (ha.below hbw) (hb.below hbw) hl hn
  have HB : Hid (Below w.heap.size w ((w.alloc (.cells (orow h a n ca) 33)).alloc (.cells (orow h b n cb) 33))) := hbw
  clear ha hb hl hbw
  go_enter Try.func21, Try.ntmps21
  go_wp2_with fail
  refine Calls.mono HE.out ?_
  rintro u w1 ⟨rfl, hb1⟩
  have HB1 : Hid (Below w.heap.size w w1) := HB.out.trans (hb1.mono HB.out.size)
  clear hb1 HB HE
  go_wp2
  go_ret
  exact ⟨rfl, HB1.out⟩
set_option maxHeartbeats 1000000 in
theorem mark_out (h : Int) (lo hi c1 n k : Nat) (a : Option Addr) (zs : List Int) (w : World) (ho : OE w lo hi a zs) (hl : zs.length = n) (hn : n ≤ 1048576) (hk : k ≤ 1000000000) (hhi : hi ≤ w.heap.size) :
    Calls Try.prog 31 #[oen h a n c1, .int .i64 (k : Int)] w fun e w' => e = .returned (.int .i64 ((k + n : Nat) : Int)) ∧ Betw lo hi w w' ∧ OE w' lo hi a (marksM 4294967296 k n) := by
  have hbw : Below w.heap.size w (w.alloc (.cells (orow h a n c1) 33)) := (Below.refl _ w).alloc (Nat.le_refl _) _
  have HM : Hid (Calls Try.prog 42 #[.slice a n c1, .int .i64 (k : Int)] (w.alloc (.cells (orow h a n c1) 33)) fun e w' => e = .returned (.int .i64 ((k + n : Nat) : Int)) ∧ Betw lo hi (w.alloc (.cells (orow h a n c1) 33)) w' ∧ OE w' lo hi a (marksM 4294967296 k n)) := by
    obtain ⟨R, h⟩ := ho.below hbw
    refine (mark_regs lo hi R c1 k n a zs _ h hl hn hk).mono ?_
    rintro e w' ⟨h1, h2, _, h4, h5⟩
    refine ⟨h1, ?_, R, h4⟩
    by_cases h0 : n = 0
    · rw [h5 h0]; exact Betw.refl _ _ _
    · have := h.rng (by omega)
      exact h2.wide this.1 (by omega)
  have HB : Hid (Betw lo hi w (w.alloc (.cells (orow h a n c1) 33))) := Below.betw hbw
  clear ho hl hbw
  go_enter Try.func31, Try.ntmps31
  go_wp2_with fail
  refine Calls.mono HM.out ?_
  rintro u w1 ⟨rfl, hb1, ho1⟩
  have HB1 : Hid (Betw lo hi w w1) := HB.out.trans hb1
  have HO1 : Hid (OE w1 lo hi a (marksM 4294967296 k n)) := ho1
  clear hb1 ho1 HB HM
  go_wp2
  go_ret
  exact ⟨rfl, HB1.out, HO1.out⟩
set_option maxHeartbeats 1000000 in
theorem held_out (h : Int) (c1 n k : Nat) (a : Option Addr) (w : World) (hs : Seg .u32 w a (marksM 4294967296 k n)) (hn : n ≤ 1048576) (hk : k ≤ 1000000000) :
    Calls Try.prog 32 #[oen h a n c1, .int .i64 (k : Int)] w fun e w' => e = .returned (.int .i64 ((k + n : Nat) : Int)) ∧ Below w.heap.size w w' := by
  have hbw : Below w.heap.size w (w.alloc (.cells (orow h a n c1) 33)) := (Below.refl _ w).alloc (Nat.le_refl _) _
  have HM : Hid (Calls Try.prog 43 #[.slice a n c1, .int .i64 (k : Int)] (w.alloc (.cells (orow h a n c1) 33)) fun e w' => e = .returned (.int .i64 ((k + n : Nat) : Int)) ∧ Below (w.alloc (.cells (orow h a n c1) 33)).heap.size (w.alloc (.cells (orow h a n c1) 33)) w') := held_regs a c1 n k _ (hs.below hbw) hn hk
  have HB : Hid (Below w.heap.size w (w.alloc (.cells (orow h a n c1) 33))) := hbw
  obtain ⟨q, HQ⟩ : ∃ q, Hid (k + n = q) := ⟨_, rfl⟩
  rw [HQ.out] at HM ⊢
  have hq : ¬ ((q : Int) < 0) := by omega
  clear hs hbw HQ
  go_enter Try.func32, Try.ntmps32
  go_wp2_with fail
  refine Calls.mono HM.out ?_
  rintro u w1 ⟨rfl, hb1⟩
  have HB1 : Hid (Below w.heap.size w w1) := HB.out.trans (hb1.mono HB.out.size)
  clear hb1 HB HM
  go_wp2
  go_ret
  exact ⟨rfl, HB1.out⟩
set_option maxHeartbeats 1000000 in
theorem sz_in (a : Option Addr) (cap n L : Nat) (w : World) (hn : n ≤ 9223372036854775807) (hL : L ≤ 1048576) :
    Calls Try.prog 22 #[ien a n cap, .int .i64 (L : Int)] w fun e w' => (∃ r : Int, e = .returned (.int .i64 r) ∧ (r < 0 ∨ (r = ((L - n : Nat) : Int) ∧ n ≤ L))) ∧ Below w.heap.size w w' := by
  have HB : Hid (Below w.heap.size w (w.alloc (.cells (irow a n cap) 38))) := (Below.refl _ w).alloc (Nat.le_refl _) _
  go_enter Try.func22, Try.ntmps22
  go_wp2_with fail
  refine Calls.mono (sz_regs a cap n L _ hn hL) ?_
  rintro u w2 ⟨⟨r, rfl, hr⟩, h2⟩
  rw [h2]
  clear h2 w2
  rcases hr with hr | ⟨hr, h1⟩
  · go_wp2
    go_ret
    exact ⟨⟨_, rfl, .inl (by omega)⟩, HB.out⟩
  · have h0 : ¬ (r < 0) := by omega
    go_wp2
    go_ret
    exact ⟨⟨_, rfl, .inr ⟨by first | rfl | exact hr, h1⟩⟩, HB.out⟩
set_option maxHeartbeats 1000000 in
theorem to_in (a : Option Addr) (cap n : Nat) (zs : List Int) (w : World) (hs : Seg .u32 w a zs) (hl : zs.length = n) (hn : n ≤ 1048576) :
    Calls Try.prog 24 #[ien a n cap] w fun e w' => ∃ a', e = .returned (ien a' n n) ∧ Below w.heap.size w w' ∧ OE w' w.heap.size w'.heap.size a' zs := by
  have hbw : Below w.heap.size w (((w.alloc (.cells (irow a n cap) 38)).alloc (.cells (irow none 0 0) 41)).alloc (.cells (irow none 0 0) 41)) := (((Below.refl _ w).alloc (Nat.le_refl _) _).alloc (by simp) _).alloc (by simp; omega) _
  have HT : Hid (Calls Try.prog 59 #[.slice a n cap] (((w.alloc (.cells (irow a n cap) 38)).alloc (.cells (irow none 0 0) 41)).alloc (.cells (irow none 0 0) 41)) fun e w' => e = .returned (.slice (some ⟨(((w.alloc (.cells (irow a n cap) 38)).alloc (.cells (irow none 0 0) 41)).alloc (.cells (irow none 0 0) 41)).heap.size, 0, none⟩) n n) ∧ Below (((w.alloc (.cells (irow a n cap) 38)).alloc (.cells (irow none 0 0) 41)).alloc (.cells (irow none 0 0) 41)).heap.size (((w.alloc (.cells (irow a n cap) 38)).alloc (.cells (irow none 0 0) 41)).alloc (.cells (irow none 0 0) 41)) w' ∧ Own .u32 w' (((w.alloc (.cells (irow a n cap) 38)).alloc (.cells (irow none 0 0) 41)).alloc (.cells (irow none 0 0) 41)).heap.size zs) := to_regs a cap n zs _ (hs.below hbw) hl hn
  have HB : Hid (Below w.heap.size w (((w.alloc (.cells (irow a n cap) 38)).alloc (.cells (irow none 0 0) 41)).alloc (.cells (irow none 0 0) 41))) := hbw
  have HK : Hid (Bk (((w.alloc (.cells (irow a n cap) 38)).alloc (.cells (irow none 0 0) 41)).alloc (.cells (irow none 0 0) 41)) (w.heap.size + 1) (irow none 0 0) ∧ Bk (((w.alloc (.cells (irow a n cap) 38)).alloc (.cells (irow none 0 0) 41)).alloc (.cells (irow none 0 0) 41)) (w.heap.size + 2) (irow none 0 0)) := ⟨(Bk.new _ _ _ _ (by simp)).alloc _, Bk.new _ _ _ _ (by simp)⟩
  have hsz : (((w.alloc (.cells (irow a n cap) 38)).alloc (.cells (irow none 0 0) 41)).alloc (.cells (irow none 0 0) 41)).heap.size = w.heap.size + 3 := by simp
  clear hs hl hbw
  go_enter Try.func24, Try.ntmps24
  go_wp2_with fail
  refine Calls.mono HT.out ?_
  rintro u w1 ⟨rfl, hb1, ho1⟩
  rw [hsz] at ho1 hb1 ⊢
  have HB1 : Hid (Below w.heap.size w w1) := HB.out.trans (hb1.mono (by omega))
  have K1 : Hid (Bk w1 (w.heap.size + 1) (irow none 0 0) ∧ Bk w1 (w.heap.size + 2) (irow none 0 0)) := ⟨HK.out.1.below (by rw [hsz]; exact hb1), HK.out.2.below (by rw [hsz]; exact hb1)⟩
  have HO1 : Hid (Own .u32 w1 (w.heap.size + 3) zs) := ho1
  clear hb1 ho1 HB HK HT hsz
  have K2 : Hid (Bk (w1.setCell ⟨w.heap.size + 2, 0, none⟩ (.slice (some ⟨w.heap.size + 3, 0, none⟩) n n)) (w.heap.size + 1) (irow none 0 0)) := K1.out.1.other _ 0 _ (by omega)
  have K3 : Hid (Bk (w1.setCell ⟨w.heap.size + 2, 0, none⟩ (.slice (some ⟨w.heap.size + 3, 0, none⟩) n n)) (w.heap.size + 2) (irow (some ⟨w.heap.size + 3, 0, none⟩) n n)) := K1.out.2.set 0 _ (by simp) rfl
  have r0 := K1.out.2.cell 0 _ rfl
  have rf := K1.out.2.free
  have z0 := K2.out.cell 0 _ rfl
  have zf := K2.out.free
  have t0 := K3.out.cell 0 _ rfl
  go_wp2
  have k9 : Bk ((w1.setCell ⟨w.heap.size + 2, 0, none⟩ (.slice (some ⟨w.heap.size + 3, 0, none⟩) n n)).setCell ⟨w.heap.size + 1, 0, none⟩ (.slice (some ⟨w.heap.size + 3, 0, none⟩) n n)) (w.heap.size + 1) (irow (some ⟨w.heap.size + 3, 0, none⟩) n n) := K2.out.set 0 _ (by simp) rfl
  have ht : Betw (w.heap.size + 1) (w.heap.size + 3) w1 ((w1.setCell ⟨w.heap.size + 2, 0, none⟩ (.slice (some ⟨w.heap.size + 3, 0, none⟩) n n)).setCell ⟨w.heap.size + 1, 0, none⟩ (.slice (some ⟨w.heap.size + 3, 0, none⟩) n n)) := ((Betw.refl (w.heap.size + 1) (w.heap.size + 3) w1).setCell (p := ⟨w.heap.size + 2, 0, none⟩) (by simp) (by simp) (.slice (some ⟨w.heap.size + 3, 0, none⟩) n n)).setCell (p := ⟨w.heap.size + 1, 0, none⟩) (by simp) (by simp) (.slice (some ⟨w.heap.size + 3, 0, none⟩) n n)
  have hb9 : Below w.heap.size w ((w1.setCell ⟨w.heap.size + 2, 0, none⟩ (.slice (some ⟨w.heap.size + 3, 0, none⟩) n n)).setCell ⟨w.heap.size + 1, 0, none⟩ (.slice (some ⟨w.heap.size + 3, 0, none⟩) n n)) := HB1.out.trans (ht.below (by omega) HB1.out.size)
  have ho9 : OE ((w1.setCell ⟨w.heap.size + 2, 0, none⟩ (.slice (some ⟨w.heap.size + 3, 0, none⟩) n n)).setCell ⟨w.heap.size + 1, 0, none⟩ (.slice (some ⟨w.heap.size + 3, 0, none⟩) n n)) w.heap.size ((w1.setCell ⟨w.heap.size + 2, 0, none⟩ (.slice (some ⟨w.heap.size + 3, 0, none⟩) n n)).setCell ⟨w.heap.size + 1, 0, none⟩ (.slice (some ⟨w.heap.size + 3, 0, none⟩) n n)).heap.size (some ⟨w.heap.size + 3, 0, none⟩) zs := OE.wide (OE.betw ⟨_, ON.own HO1.out (Nat.le_refl _) (Nat.lt_succ_self _)⟩ ht (.inr (Nat.le_refl _))) (by omega) (by have := HO1.out.lt; have := ht.size; omega)
  clear r0 rf zf z0 t0 K1 K2 K3 HB1 HO1 ht
  revert k9 hb9 ho9
  generalize ((w1.setCell ⟨w.heap.size + 2, 0, none⟩ (.slice (some ⟨w.heap.size + 3, 0, none⟩) n n)).setCell ⟨w.heap.size + 1, 0, none⟩ (.slice (some ⟨w.heap.size + 3, 0, none⟩) n n)) = Wf
  intro k9 hb9 ho9
  have q0 := k9.cell 0 _ rfl
  exact bodyPost_ret (v := ien (some ⟨w.heap.size + 3, 0, none⟩) n n) (by simp [results, Try.results24, go_sem, q0]) rfl ⟨_, rfl, hb9, ho9⟩
set_option maxHeartbeats 1000000 in
theorem eq_in (a b : Option Addr) (ca cb n : Nat) (zs : List Int) (w : World) (ha : Seg .u32 w a zs) (hb : Seg .u32 w b zs) (hl : zs.length = n) (hn : n ≤ 1048576) :
    Calls Try.prog 26 #[ien a n ca, ien b n cb] w fun e w' => e = .returned (.bool true) ∧ Below w.heap.size w w' := by
  have hbw : Below w.heap.size w ((w.alloc (.cells (irow a n ca) 41)).alloc (.cells (irow b n cb) 41)) := ((Below.refl _ w).alloc (Nat.le_refl _) _).alloc (by simp) _
  have HE : Hid (Calls Try.prog 41 #[.slice a n ca, .slice b n cb] ((w.alloc (.cells (irow a n ca) 41)).alloc (.cells (irow b n cb) 41)) fun e w' => e = .returned (.bool true) ∧ Below ((w.alloc (.cells (irow a n ca) 41)).alloc (.cells (irow b n cb) 41)).heap.size ((w.alloc (.cells (irow a n ca) 41)).alloc (.cells (irow b n cb) 41)) w') := eq_regs a b ca cb n zs _ (ha.below hbw) (hb.below hbw) hl hn
  have HB : Hid (Below w.heap.size w ((w.alloc (.cells (irow a n ca) 41)).alloc (.cells (irow b n cb) 41))) := hbw
  clear ha hb hl hbw
  go_enter Try.func26, Try.ntmps26
  go_wp2_with fail
  refine Calls.mono HE.out ?_
  rintro u w1 ⟨rfl, hb1⟩
  have HB1 : Hid (Below w.heap.size w w1) := HB.out.trans (hb1.mono HB.out.size)
  clear hb1 HB HE
  go_wp2
  go_ret
  exact ⟨rfl, HB1.out⟩
set_option maxHeartbeats 1000000 in
theorem mark_in (lo hi c1 n k : Nat) (a : Option Addr) (zs : List Int) (w : World) (ho : OE w lo hi a zs) (hl : zs.length = n) (hn : n ≤ 1048576) (hk : k ≤ 1000000000) (hhi : hi ≤ w.heap.size) :
    Calls Try.prog 37 #[ien a n c1, .int .i64 (k : Int)] w fun e w' => e = .returned (.int .i64 ((k + n : Nat) : Int)) ∧ Betw lo hi w w' ∧ OE w' lo hi a (marksM 4294967296 k n) := by
  have hbw : Below w.heap.size w (w.alloc (.cells (irow a n c1) 41)) := (Below.refl _ w).alloc (Nat.le_refl _) _
  have HM : Hid (Calls Try.prog 42 #[.slice a n c1, .int .i64 (k : Int)] (w.alloc (.cells (irow a n c1) 41)) fun e w' => e = .returned (.int .i64 ((k + n : Nat) : Int)) ∧ Betw lo hi (w.alloc (.cells (irow a n c1) 41)) w' ∧ OE w' lo hi a (marksM 4294967296 k n)) := by
    obtain ⟨R, h⟩ := ho.below hbw
    refine (mark_regs lo hi R c1 k n a zs _ h hl hn hk).mono ?_
    rintro e w' ⟨h1, h2, _, h4, h5⟩
    refine ⟨h1, ?_, R, h4⟩
    by_cases h0 : n = 0
    · rw [h5 h0]; exact Betw.refl _ _ _
    · have := h.rng (by omega)
      exact h2.wide this.1 (by omega)
  have HB : Hid (Betw lo hi w (w.alloc (.cells (irow a n c1) 41))) := Below.betw hbw
  clear ho hl hbw
  go_enter Try.func37, Try.ntmps37
  go_wp2_with fail
  refine Calls.mono HM.out ?_
  rintro u w1 ⟨rfl, hb1, ho1⟩
  have HB1 : Hid (Betw lo hi w w1) := HB.out.trans hb1
  have HO1 : Hid (OE w1 lo hi a (marksM 4294967296 k n)) := ho1
  clear hb1 ho1 HB HM
  go_wp2
  go_ret
  exact ⟨rfl, HB1.out, HO1.out⟩
set_option maxHeartbeats 1000000 in
theorem held_in (c1 n k : Nat) (a : Option Addr) (w : World) (hs : Seg .u32 w a (marksM 4294967296 k n)) (hn : n ≤ 1048576) (hk : k ≤ 1000000000) :
    Calls Try.prog 38 #[ien a n c1, .int .i64 (k : Int)] w fun e w' => e = .returned (.int .i64 ((k + n : Nat) : Int)) ∧ Below w.heap.size w w' := by
  have hbw : Below w.heap.size w (w.alloc (.cells (irow a n c1) 41)) := (Below.refl _ w).alloc (Nat.le_refl _) _
  have HM : Hid (Calls Try.prog 43 #[.slice a n c1, .int .i64 (k : Int)] (w.alloc (.cells (irow a n c1) 41)) fun e w' => e = .returned (.int .i64 ((k + n : Nat) : Int)) ∧ Below (w.alloc (.cells (irow a n c1) 41)).heap.size (w.alloc (.cells (irow a n c1) 41)) w') := held_regs a c1 n k _ (hs.below hbw) hn hk
  have HB : Hid (Below w.heap.size w (w.alloc (.cells (irow a n c1) 41))) := hbw
  obtain ⟨q, HQ⟩ : ∃ q, Hid (k + n = q) := ⟨_, rfl⟩
  rw [HQ.out] at HM ⊢
  have hq : ¬ ((q : Int) < 0) := by omega
  clear hs hbw HQ
  go_enter Try.func38, Try.ntmps38
  go_wp2_with fail
  refine Calls.mono HM.out ?_
  rintro u w1 ⟨rfl, hb1⟩
  have HB1 : Hid (Below w.heap.size w w1) := HB.out.trans (hb1.mono HB.out.size)
  clear hb1 HB HM
  go_wp2
  go_ret
  exact ⟨rfl, HB1.out⟩
end Go.Proofs.Ytoofjlfbedjbnaa
