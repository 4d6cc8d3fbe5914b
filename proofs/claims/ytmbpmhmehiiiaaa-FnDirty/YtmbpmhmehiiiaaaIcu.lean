
/-
  A use of a cache: the program's own function. Conditions: the cache is right, the address is one.
-/
import Derived.Test.YtmbpmhmehiiiaaaRows
import Derived.Test.YtmbpmhmehiiiaaaRof
import Derived.Test.YtmbpmhmehiiiaaaLus
import Derived.Test.YtmbpmhmehiiiaaaCpz
import Derived.Test.YtmbpmhmehiiiaaaCea
import Derived.Test.YtmbpmhmehiiiaaaCho
import Derived.Test.YtmbpmhmehiiiaaaUpu
import Derived.Test.YtmbpmhmehiiiaaaRrp
import Derived.Test.YtmbpmhmehiiiaaaCpw
import Derived.Test.YtmbpmhmehiiiaaaRgi
import Derived.Deep.RegionHeldLaw
import Derived.Deep.RegionHeld3
namespace Go.Proofs.Ytmbpmhmehiiiaaa
open Go.ChangeShapes Go.WideShapes Go.ChangeAt Go.RowKit Go.Deep
set_option linter.unusedVariables false

def useD' (h M : Nat) (t : Int) (q : Bool) (D : Nat → List Wy) : Nat → List Wy := fun i => if i = h then usedRow M (D i) t q else D i
theorem al1 {w : World} {p : Addr} {v : Value} (o : Obj) (h : w.cell? p = some v) : (w.alloc o).cell? p = some v := kept_cell ((Below.refl _ _).alloc (Nat.le_refl _) _) h
theorem st1 {w : World} {b c i j : Nat} {v u : Value} (hne : b ≠ c) (h : w.cell? ⟨b, i, none⟩ = some v) : (w.setCell ⟨c, j, none⟩ u).cell? ⟨b, i, none⟩ = some v := by
  rw [World.cell?_setCell_other _ _ _ _ (by intro e; injection e with e1 e2 e3; exact hne e1.symm)]
  exact h
theorem Bk.grownNe {w w' : World} {b : Nat} {cs : Array Value} {row : Option Nat} (h : Bk w b cs) (hg : w.grownBy w' row) (hne : row ≠ some b) : Bk w' b cs := by
  have hk := hg.block b h.lt (fun e => hne e.symm)
  exact ⟨Nat.lt_of_lt_of_le h.lt hg.size, fun i v e => (World.cell?_of_block (a := ⟨b, i, none⟩) hk).trans (h.cell i v e), fun i => (World.frozen?_of_block (a := ⟨b, i, none⟩) hk).trans (h.free i)⟩
/-- The cache that came in, the answer's room, the new cache and its rows so far. -/
structure CU (w W : World) (P B n k : Nat) (M L : Int) (a : Option Addr) (cap : Nat) (D : Nat → List Wy) (m : Nat) : Prop where
  bel : Below w.heap.size w W
  b0 : Bk W w.heap.size #[.int .i64 n, .int .i64 M, .int .i64 L, .slice a n cap]
  b1 : Bk W (w.heap.size + 1) #[.int .i64 0, .int .i64 0, .int .i64 0, .slice none 0 0]
  bp : Bk W P #[.int .i64 n, .int .i64 M, .int .i64 L, .slice (some ⟨B, 0, none⟩) n n]
  rows : Rsb W (w.heap.size + 2) m B n k D
  low : w.heap.size + 2 ≤ B ∧ w.heap.size + 2 ≤ P ∧ P ≠ B ∧ P < m
theorem CU.below {w W W' : World} {P B n k : Nat} {M L : Int} {a : Option Addr} {cap : Nat} {D : Nat → List Wy} {m : Nat} (h : CU w W P B n k M L a cap D m) (hb : Below m W W') : CU w W' P B n k M L a cap D m := by
  have h1 := h.rows.lt
  have h2 := h.low
  have hm := h.rows.mle
  have hk : ∀ b cs, b < m → Bk W b cs → Bk W' b cs := fun b cs hlt hB => ⟨Nat.lt_of_lt_of_le hB.lt hb.size, fun i v e => (hb.cell (p := ⟨b, i, none⟩) hlt).trans (hB.cell i v e), fun i => (hb.frozen (p := ⟨b, i, none⟩) hlt).trans (hB.free i)⟩
  exact ⟨h.bel.trans (hb.mono (by omega)), hk _ _ (by omega) h.b0, hk _ _ (by omega) h.b1, hk _ _ h2.2.2.2 h.bp, h.rows.chg hb, h.low⟩
theorem CU.put {w W W1 w5 : World} {P B n k : Nat} {M L : Int} {a : Option Addr} {cap : Nat} {D : Nat → List Wy} {m g cp : Nat} (h : CU w W P B n k M L a cap D m) (hk : k < n) (h1 : Below W.heap.size W W1) (hg : W1.grownBy w5 (some W.heap.size)) (how : OW w5 W.heap.size w5.heap.size (some ⟨g, 0, none⟩) (D k) g) (hc : (D k).length ≤ cp) :
    CU w (w5.setCell ⟨B, k, none⟩ (.slice (some ⟨g, 0, none⟩) (D k).length cp)) P B n (k + 1) M L a cap D w5.heap.size ∧ w5.cell? ⟨P, 3, none⟩ = some (.slice (some ⟨B, 0, none⟩) n n) ∧ (∃ u, w5.cell? ⟨B, k, none⟩ = some u) ∧ w5.frozen? ⟨B, k, none⟩ = false := by
  have hm := h.rows.mle
  have hBm := h.rows.lt
  have hl := h.low
  have hsz := h1.size
  have hg5 := hg.size
  have hb5 : Below m W w5 := Below.grown (h1.mono hm) hg (by omega) (fun g e => by injection e with e; omega)
  have h5 := h.below hb5
  refine ⟨⟨(h5.bel.setCell (p := ⟨B, k, none⟩) (by show _ ≤ B; omega) _), h5.b0.other _ _ _ (by omega), h5.b1.other _ _ _ (by omega), h5.bp.other _ _ _ (fun e => hl.2.2.1 e.symm), ?_, ⟨hl.1, hl.2.1, hl.2.2.1, by omega⟩⟩, h5.bp.cell 3 _ rfl, h5.rows.room k hk, h5.rows.free k⟩
  exact h5.rows.put hk _ cp g w5.heap.size (fun h0 => by obtain ⟨_, _, g1, _⟩ := how h0; omega) (how.wide (by omega) (Nat.le_refl _)) hc (by omega) (Nat.le_refl _)
theorem CU.fin {w W : World} {P B n h' M' : Nat} {M L : Int} {a a6 : Option Addr} {cap c6 R6 : Nat} {D : Nat → List Wy} {m : Nat} {ws : List Wy} (h : CU w W P B n n M L a cap D m) (hh : h' < n) (hlo : m ≤ M') (how : OW W M' W.heap.size a6 ws R6) (hc : ws.length ≤ c6) :
    CU w (W.setCell ⟨B, h', none⟩ (.slice a6 ws.length c6)) P B n n M L a cap (fun i => if i = h' then ws else D i) W.heap.size ∧ (∃ u, W.cell? ⟨B, h', none⟩ = some u) ∧ W.frozen? ⟨B, h', none⟩ = false := by
  have hm := h.rows.mle
  have hBm := h.rows.lt
  have hl := h.low
  refine ⟨⟨h.bel.setCell (p := ⟨B, h', none⟩) (by show _ ≤ B; omega) _, h.b0.other _ _ _ (by omega), h.b1.other _ _ _ (by omega), h.bp.other _ _ _ (fun e => hl.2.2.1 e.symm), ?_, ⟨hl.1, hl.2.1, hl.2.2.1, by omega⟩⟩, h.rows.room h' hh, h.rows.free h'⟩
  exact h.rows.repl hh ws a6 c6 R6 W.heap.size (fun h0 => by obtain ⟨_, _, g1, _⟩ := how h0; omega) (how.wide (by have := h.low; omega) (Nat.le_refl _)) hc hm (Nat.le_refl _)
theorem CU.ret {w W : World} {P B n : Nat} {M L : Int} {a : Option Addr} {cap : Nat} {D : Nat → List Wy} {m : Nat} (h : CU w W P B n n M L a cap D m) :
    Bk ((((W.setCell ⟨w.heap.size + 1, 0, none⟩ (.int .i64 n)).setCell ⟨w.heap.size + 1, 1, none⟩ (.int .i64 M)).setCell ⟨w.heap.size + 1, 2, none⟩ (.int .i64 L)).setCell ⟨w.heap.size + 1, 3, none⟩ (.slice (some ⟨B, 0, none⟩) n n)) (w.heap.size + 1) #[.int .i64 n, .int .i64 M, .int .i64 L, .slice (some ⟨B, 0, none⟩) n n] ∧
    Bk (((W.setCell ⟨w.heap.size + 1, 0, none⟩ (.int .i64 n)).setCell ⟨w.heap.size + 1, 1, none⟩ (.int .i64 M)).setCell ⟨w.heap.size + 1, 2, none⟩ (.int .i64 L)) (w.heap.size + 1) #[.int .i64 n, .int .i64 M, .int .i64 L, .slice none 0 0] ∧
    Bk ((W.setCell ⟨w.heap.size + 1, 0, none⟩ (.int .i64 n)).setCell ⟨w.heap.size + 1, 1, none⟩ (.int .i64 M)) (w.heap.size + 1) #[.int .i64 n, .int .i64 M, .int .i64 0, .slice none 0 0] ∧
    Bk (W.setCell ⟨w.heap.size + 1, 0, none⟩ (.int .i64 n)) (w.heap.size + 1) #[.int .i64 n, .int .i64 0, .int .i64 0, .slice none 0 0] ∧
    Below w.heap.size w ((((W.setCell ⟨w.heap.size + 1, 0, none⟩ (.int .i64 n)).setCell ⟨w.heap.size + 1, 1, none⟩ (.int .i64 M)).setCell ⟨w.heap.size + 1, 2, none⟩ (.int .i64 L)).setCell ⟨w.heap.size + 1, 3, none⟩ (.slice (some ⟨B, 0, none⟩) n n)) ∧
    ORows ((((W.setCell ⟨w.heap.size + 1, 0, none⟩ (.int .i64 n)).setCell ⟨w.heap.size + 1, 1, none⟩ (.int .i64 M)).setCell ⟨w.heap.size + 1, 2, none⟩ (.int .i64 L)).setCell ⟨w.heap.size + 1, 3, none⟩ (.slice (some ⟨B, 0, none⟩) n n)) w.heap.size ((((W.setCell ⟨w.heap.size + 1, 0, none⟩ (.int .i64 n)).setCell ⟨w.heap.size + 1, 1, none⟩ (.int .i64 M)).setCell ⟨w.heap.size + 1, 2, none⟩ (.int .i64 L)).setCell ⟨w.heap.size + 1, 3, none⟩ (.slice (some ⟨B, 0, none⟩) n n)).heap.size (some ⟨B, 0, none⟩) n D := by
  have f0 := h.b1.set 0 (.int .i64 n) (by simp) rfl
  have f1 := f0.set 1 (.int .i64 M) (by simp) rfl
  have f2 := f1.set 2 (.int .i64 L) (by simp) rfl
  have f3 := f2.set 3 (.slice (some ⟨B, 0, none⟩) n n) (by simp) rfl
  refine ⟨f3, f2, f1, f0, below_four h.bel (w.heap.size + 1) (by omega) _ _ _ _, ?_⟩
  have hb : Betw (w.heap.size + 1) (w.heap.size + 2) W ((((W.setCell ⟨w.heap.size + 1, 0, none⟩ (.int .i64 n)).setCell ⟨w.heap.size + 1, 1, none⟩ (.int .i64 M)).setCell ⟨w.heap.size + 1, 2, none⟩ (.int .i64 L)).setCell ⟨w.heap.size + 1, 3, none⟩ (.slice (some ⟨B, 0, none⟩) n n)) := betw_four (Betw.refl _ _ _) (w.heap.size + 1) (by omega) (by omega) _ _ _ _
  exact (h.rows.rows'.betw hb (.inr (Nat.le_refl _))).wide (by omega) (Nat.le_trans h.rows.mle hb.size)
theorem Rsb.wide {w : World} {lo lo' m m' B n k : Nat} {D : Nat → List Wy} (h : Rsb w lo m B n k D) (h1 : lo' ≤ lo) (h2 : m ≤ m') (h3 : m' ≤ w.heap.size) : Rsb w lo' m' B n k D := by
  obtain ⟨A, C, R, hr⟩ := h.rows
  have := h.lt
  have := h.low
  exact ⟨by omega, h3, by omega, h.free, h.room, A, C, R, ⟨hr.cell, hr.room, fun i hi => (hr.row i hi).wide h1 h2, hr.base, hr.apart⟩⟩
theorem Rsb.betw {w w' : World} {lo m B n k l' h' : Nat} {D : Nat → List Wy} (h : Rsb w lo m B n k D) (hb : Betw l' h' w w') (ho : m ≤ l' ∨ h' ≤ lo) : Rsb w' lo m B n k D := by
  obtain ⟨A, C, R, hr⟩ := h.rows
  have h1 := h.lt
  have h2 := h.low
  have h3 := h.mle
  have hB : B < w.heap.size := by omega
  refine ⟨h.lt, Nat.le_trans h.mle hb.size, h.low, fun j => (hb.frozen (p := ⟨B, j, none⟩) hB (by show B < l' ∨ h' ≤ B; omega)).trans (h.free j), fun i hi => by rw [hb.cell (p := ⟨B, i, none⟩) hB (by show B < l' ∨ h' ≤ B; omega)]; exact h.room i hi, A, C, R, hr.betw hb hB ho h2 h1⟩
/-- What stands while the copy is made: ahead of the copy, behind it, and the new cache's room. -/
structure C3 (w w2 w' : World) (n : Nat) (M L : Int) (a : Option Addr) (cap : Nat) (D : Nat → List Wy) (b0 b1 b2 b3 b4 b5 b6 b7 : Bool) (x24 x25 x26 x27 x28 x29 x9 : Value) : Prop where
  gb : Below w2.heap.size w2 w'
  f0 : b0 = true → x24 = .pointer (some ⟨w.heap.size, 0, none⟩)
  f1 : b1 = true → x25 = .agg #[.int .i64 n, .int .i64 M, .int .i64 L]
  f2 : b2 = true → x26 = .pointer (some ⟨w.heap.size, 3, none⟩)
  f3 : b3 = true → x27 = .slice a n cap
  f4 : b4 = true → ∃ B lo m, x28 = .slice (some ⟨B, 0, none⟩) n n ∧ w2.heap.size ≤ lo ∧ Rsb w' lo m B n n D ∧ (b6 = true → ∀ P, x9 = .pointer (some ⟨P, 0, none⟩) → P < lo ∨ m ≤ P)
  f5 : b5 = true → b4 = true ∧ b1 = true ∧ ∀ v, x28 = v → x29 = cch n M L v
  f6 : b6 = true → ∃ P cs, x9 = .pointer (some ⟨P, 0, none⟩) ∧ w2.heap.size ≤ P ∧ Bk w' P cs ∧ cs.size = 4 ∧ (b7 = true → cs = #[.int .i64 n, .int .i64 M, .int .i64 L, x28])
  f7 : b7 = true → b4 = true ∧ b5 = true ∧ b6 = true
theorem C3.below {w w2 w' w'' : World} {n : Nat} {M L : Int} {a : Option Addr} {cap : Nat} {D : Nat → List Wy} {b0 b1 b2 b3 b4 b5 b6 b7 : Bool} {x24 x25 x26 x27 x28 x29 x9 : Value} (h : C3 w w2 w' n M L a cap D b0 b1 b2 b3 b4 b5 b6 b7 x24 x25 x26 x27 x28 x29 x9) (hb : Below w'.heap.size w' w'') : C3 w w2 w'' n M L a cap D b0 b1 b2 b3 b4 b5 b6 b7 x24 x25 x26 x27 x28 x29 x9 :=
  ⟨h.gb.trans (hb.mono h.gb.size), h.f0, h.f1, h.f2, h.f3, fun g => by obtain ⟨B, lo, m, e, h1, h2, h3⟩ := h.f4 g; exact ⟨B, lo, m, e, h1, h2.below hb, h3⟩, h.f5, fun g => by obtain ⟨P, cs, e, h1, h2, h3, h4⟩ := h.f6 g; exact ⟨P, cs, e, h1, h2.below hb, h3, h4⟩, h.f7⟩
theorem C3.fin {w w2 w' : World} {n : Nat} {M L : Int} {a : Option Addr} {cap : Nat} {D : Nat → List Wy} {b0 b1 b2 b3 : Bool} {x24 x25 x26 x27 x28 x29 x9 : Value} (h : C3 w w2 w' n M L a cap D b0 b1 b2 b3 true true true true x24 x25 x26 x27 x28 x29 x9) (hw : Below w.heap.size w w2) (hb0 : Bk w2 w.heap.size #[.int .i64 n, .int .i64 M, .int .i64 L, .slice a n cap]) (hb1 : Bk w2 (w.heap.size + 1) #[.int .i64 0, .int .i64 0, .int .i64 0, .slice none 0 0]) :
    ∃ P B, x9 = .pointer (some ⟨P, 0, none⟩) ∧ CU w w' P B n n M L a cap D w'.heap.size := by
  obtain ⟨B, lo, m, e, h1, h2, h3⟩ := h.f4 rfl
  obtain ⟨P, cs, e6, g1, g2, g3, g4⟩ := h.f6 rfl
  have g5 := g4 rfl
  subst g5 e
  have hsz := hb1.lt
  have := h2.low
  have := h2.lt
  have := h2.mle
  have hne := h3 rfl P e6
  exact ⟨P, B, e6, hw.trans (h.gb.mono hw.size), hb0.below h.gb, hb1.below h.gb, g2, h2.wide (by omega) (by omega) (Nat.le_refl _), by omega, by omega, by omega, g2.lt⟩
set_option maxRecDepth 100000 in
set_option maxHeartbeats 8000000 in
theorem impl_use (n M L A : Nat) (q : Bool) (a : Option Addr) (cap : Nat) (D : Nat → List Wy) (w : World) (hs : RSeg w a n D) (hq : CacheOkP (n : Int) (M : Int) (L : Int) n D) (hA : A ≤ 65535) (h : Nat) (t : Int) (hh : A / L % n = h) (ht : ((A / L / n : Nat) : Int) = t) :
    Calls Try.prog 9 #[cch (n : Int) (M : Int) (L : Int) (.slice a n cap), .int .i64 A, .bool q] w fun e w' => ∃ a' cap', e = .returned (.tuple #[cch (n : Int) (M : Int) (L : Int) (.slice a' n cap'), .bool (usedHit (D h) t), .bool (usedBack M (D h) t q)]) ∧ Below w.heap.size w w' ∧ ORows w' w.heap.size w'.heap.size a' n (useD' h M t q D) := by
  have hp := shapeOk_parts hq.1
  have hn16 : n ≤ 16 := by omega
  have hn1 : 1 ≤ n := by omega
  have hM1 : 1 ≤ M ∧ M ≤ 4 := by omega
  have hhn : h < n := by rw [← hh]; exact Nat.mod_lt _ (by omega)
  have hrow : ∀ i, i < n → (D i).length ≤ M := fun i hi => by have := (hq.2.2 i hi).1; omega
  have htot : ∀ k, k ≤ n → tot D k ≤ 4 * k := fun k => by
    induction k with
    | zero => intro _; simp [tot]
    | succ k ih => intro hk; have := ih (by omega); have := hrow k (by omega); simp only [tot]; omega
  have hnt : tot D n ≤ 1048576 := by have := htot n (Nat.le_refl _); omega
  have hb0 : Below w.heap.size w ((w.alloc (.cells #[.int .i64 n, .int .i64 M, .int .i64 L, .slice a n cap] 34)).alloc (.cells #[.int .i64 0, .int .i64 0, .int .i64 0, .slice none 0 0] 34)) := ((Below.refl _ _).alloc (Nat.le_refl _) _).alloc (by simp) _
  have HC : Hid _ := impl_cachek (n : Int) (M : Int) (L : Int) a cap n D _ (RSeg.below hs hb0) (by omega) hnt true (by simp [hq])
  have HX : Hid (inr (A : Int) 0 65535 = true) := inr_yes (by omega)
  have HSH : Hid (shapeOk (n : Int) (M : Int) (L : Int) = true) := hq.1
  have HB0 : Hid _ := And.intro hb0 (And.intro ((Bk.new w #[.int .i64 n, .int .i64 M, .int .i64 L, .slice a n cap] 34 w.heap.size rfl).alloc (.cells #[.int .i64 0, .int .i64 0, .int .i64 0, .slice none 0 0] 34)) (Bk.new (w.alloc (.cells #[.int .i64 n, .int .i64 M, .int .i64 L, .slice a n cap] 34)) #[.int .i64 0, .int .i64 0, .int .i64 0, .slice none 0 0] 34 (w.heap.size + 1) (by simp)))
  have HS : Hid (RSeg w a n D) := hs
  have HR : Hid _ := hrow
  have HV : Hid ((1 ≤ n ∧ n ≤ 16) ∧ (4 ≤ L ∧ L ≤ 32) ∧ A ≤ 65535) := ⟨by omega, by omega, hA⟩
  have HHT : Hid _ := And.intro hh ht
  obtain ⟨qh, HQH⟩ : ∃ qh, Hid (usedHit (D h) t = qh) := ⟨_, rfl⟩
  obtain ⟨qb, HQB⟩ : ∃ qb, Hid (usedBack M (D h) t q = qb) := ⟨_, rfl⟩
  rw [HQH.out, HQB.out]
  have HNT : Hid (tot D n ≤ 1048576) := hnt
  clear hp hs hq hrow htot hnt hb0 hA hh ht
  go_enter Try.func9, Try.ntmps9
  go_wp2_with fail
  refine Calls.mono HC.out ?_
  rintro u w1 ⟨rfl, hb1⟩
  have HB1 : Hid _ := And.intro (HB0.out.1.trans (hb1.mono HB0.out.1.size)) (And.intro (HB0.out.2.1.below hb1) (HB0.out.2.2.below hb1))
  have k0 := HB1.out.2.1.cell 0 _ rfl
  have k1 := HB1.out.2.1.cell 1 _ rfl
  have k2 := HB1.out.2.1.cell 2 _ rfl
  have k3 := HB1.out.2.1.cell 3 _ rfl
  clear hb1 HB0 HC
  go_wp2_with fail
  refine (is_addr (A : Int) _).mono ?_
  rintro u w2 ⟨rfl, rfl⟩
  rw [HX.out]
  have HSZ2 : Hid (w.heap.size + 2 ≤ w2.heap.size) := by have := HB1.out.2.2.lt; show _ ≤ _; omega
  have HCL : Hid (∀ X, Below w2.heap.size w2 X → Calls Try.prog 27 #[.slice a n cap] X fun e w' => e = .returned (.slice (some ⟨X.heap.size, 0, none⟩) n n) ∧ Below X.heap.size X w' ∧ ∃ m, Rsb w' X.heap.size m X.heap.size n n D) := fun X hX => cpl_ways a cap n D X (RSeg.below HS.out (HB1.out.1.trans (hX.mono HB1.out.1.size))) (by omega) HNT.out
  clear k0 k1 k2 k3
  go_wp2
  refine wp_region_inv (by kernel_rfl) (by kernel_rfl) (fun AC ℓ a' w' => ∃ (x24 x25 x26 x27 x28 x29 x9 : Value), a' = (((((((AC.put (some 24) x24).put (some 25) x25).put (some 26) x26).put (some 27) x27).put (some 28) x28).put (some 29) x29).put (some 9) x9) ∧ C3 w w2 w' n (M : Int) (L : Int) a cap D (ℓ 0) (ℓ 1) (ℓ 2) (ℓ 3) (ℓ 4) (ℓ 5) (ℓ 6) (ℓ 7) x24 x25 x26 x27 x28 x29 x9) ?_ ?_ ?_ ?_
  · exact ⟨undef, undef, undef, undef, undef, undef, undef, (by simp only [Act.put, List.setIfInBounds_toArray, List.set_cons_zero, List.set_cons_succ]), ⟨(Below.refl _ _).drew, (fun g => by cases g), (fun g => by cases g), (fun g => by cases g), (fun g => by cases g), (fun g => by cases g), (fun g => by cases g), (fun g => by cases g), (fun g => by cases g)⟩⟩
  rotate_left
  · intro ℓ a' w' i o hI ho hi hL hdep K hK
    obtain ⟨x24, x25, x26, x27, x28, x29, x9, rfl, hr⟩ := hI
    have hi7 : i < 8 := hi
    have hcs : i = 0 ∨ i = 1 ∨ i = 2 ∨ i = 3 ∨ i = 4 ∨ i = 5 ∨ i = 6 ∨ i = 7 := by omega
    have HBw : Hid (Bk w' w.heap.size #[.int .i64 n, .int .i64 M, .int .i64 L, .slice a n cap]) := HB1.out.2.1.below hr.gb
    clear hi hi7
    rcases hcs with rfl | rfl | rfl | rfl | rfl | rfl | rfl | rfl
    · obtain rfl := Option.some.inj ho
      clear hdep ho
      rw [if_pos (by rfl)]
      try simp only [Act.put, List.setIfInBounds_toArray, List.set_cons_zero, List.set_cons_succ]
      go_simp
      exact hK.out _ _ (fun j => if j = 0 then true else ℓ j) ⟨.pointer (some ⟨w.heap.size, 0, none⟩), x25, x26, x27, x28, x29, x9, (by simp only [Act.put, List.setIfInBounds_toArray, List.set_cons_zero, List.set_cons_succ]), ⟨hr.gb, (fun _ => rfl), hr.f1, hr.f2, hr.f3, hr.f4, hr.f5, hr.f6, hr.f7⟩⟩ (if_pos rfl) (fun j hj => if_neg hj)
    · obtain rfl := Option.some.inj ho
      have g0 : ℓ 0 = true := hdep { on := 0, ground := Ground.data } (by simp) rfl
      clear hdep ho
      obtain rfl := hr.f0 g0
      have c0 := HBw.out.cell 0 _ rfl
      have c1 := HBw.out.cell 1 _ rfl
      have c2 := HBw.out.cell 2 _ rfl
      rw [if_pos (by rfl)]
      try simp only [Act.put, List.setIfInBounds_toArray, List.set_cons_zero, List.set_cons_succ]
      go_simp
      exact hK.out _ _ (fun j => if j = 1 then true else ℓ j) ⟨.pointer (some ⟨w.heap.size, 0, none⟩), .agg #[.int .i64 n, .int .i64 M, .int .i64 L], x26, x27, x28, x29, x9, (by simp only [Act.put, List.setIfInBounds_toArray, List.set_cons_zero, List.set_cons_succ]), ⟨hr.gb, hr.f0, (fun _ => rfl), hr.f2, hr.f3, hr.f4, (fun h => ⟨(hr.f5 h).1, rfl, (hr.f5 h).2.2⟩), hr.f6, hr.f7⟩⟩ (if_pos rfl) (fun j hj => if_neg hj)
    · obtain rfl := Option.some.inj ho
      clear hdep ho
      rw [if_pos (by rfl)]
      try simp only [Act.put, List.setIfInBounds_toArray, List.set_cons_zero, List.set_cons_succ]
      go_simp
      exact hK.out _ _ (fun j => if j = 2 then true else ℓ j) ⟨x24, x25, .pointer (some ⟨w.heap.size, 3, none⟩), x27, x28, x29, x9, (by simp only [Act.put, List.setIfInBounds_toArray, List.set_cons_zero, List.set_cons_succ]), ⟨hr.gb, hr.f0, hr.f1, (fun _ => rfl), hr.f3, hr.f4, hr.f5, hr.f6, hr.f7⟩⟩ (if_pos rfl) (fun j hj => if_neg hj)
    · obtain rfl := Option.some.inj ho
      have g2 : ℓ 2 = true := hdep { on := 2, ground := Ground.data } (by simp) rfl
      clear hdep ho
      obtain rfl := hr.f2 g2
      have c3 := HBw.out.cell 3 _ rfl
      rw [if_pos (by rfl)]
      try simp only [Act.put, List.setIfInBounds_toArray, List.set_cons_zero, List.set_cons_succ]
      go_simp
      exact hK.out _ _ (fun j => if j = 3 then true else ℓ j) ⟨x24, x25, .pointer (some ⟨w.heap.size, 3, none⟩), .slice a n cap, x28, x29, x9, (by simp only [Act.put, List.setIfInBounds_toArray, List.set_cons_zero, List.set_cons_succ]), ⟨hr.gb, hr.f0, hr.f1, hr.f2, (fun _ => rfl), hr.f4, hr.f5, hr.f6, hr.f7⟩⟩ (if_pos rfl) (fun j hj => if_neg hj)
    · obtain rfl := Option.some.inj ho
      have g3 : ℓ 3 = true := hdep { on := 3, ground := Ground.data } (by simp) rfl
      clear hdep ho
      obtain rfl := hr.f3 g3
      have hl5 : ℓ 5 = false := by
        cases h7 : ℓ 5
        · rfl
        · have := (hr.f5 h7).1; rw [this] at hL; cases hL
      have hl7 : ℓ 7 = false := by
        cases h7 : ℓ 7
        · rfl
        · have := (hr.f7 h7).1; rw [this] at hL; cases hL
      rw [if_pos (by rfl)]
      try simp only [Act.put, List.setIfInBounds_toArray, List.set_cons_zero, List.set_cons_succ]
      go_simp
      refine Calls.mono (HCL.out _ hr.gb) ?_
      rintro e w9 ⟨rfl, hb9, m9, hr9'⟩
      have hr9 := hr.below hb9
      exact hK.out _ _ (fun j => if j = 4 then true else ℓ j) ⟨x24, x25, x26, .slice a n cap, .slice (some ⟨w'.heap.size, 0, none⟩) n n, x29, x9, (by simp only [Act.put, List.setIfInBounds_toArray, List.set_cons_zero, List.set_cons_succ]), ⟨hr9.gb, hr9.f0, hr9.f1, hr9.f2, hr9.f3, (fun _ => ⟨_, _, _, rfl, hr.gb.size, hr9', fun g P e => by obtain ⟨P', cs, e', _, hk, _⟩ := hr.f6 g; rw [e] at e'; injection e' with e'; injection e' with e'; injection e' with e'; exact .inl (by rw [e']; exact hk.lt)⟩), (fun h => by rw [hl5] at h; cases h), (fun g => by obtain ⟨P, cs, e, h1, h2, h3, h4⟩ := hr9.f6 g; exact ⟨P, cs, e, h1, h2, h3, fun h => by rw [hl7] at h; cases h⟩), (fun h => by rw [hl7] at h; cases h)⟩⟩ (if_pos rfl) (fun j hj => if_neg hj)
    · obtain rfl := Option.some.inj ho
      have g1 : ℓ 1 = true := hdep { on := 1, ground := Ground.data } (by simp) rfl
      have g4 : ℓ 4 = true := hdep { on := 4, ground := Ground.data } (by simp) rfl
      clear hdep ho
      revert hK
      obtain ⟨B, lo, m, hx28, h1, h2, h3⟩ := hr.f4 g4
      subst hx28
      obtain rfl := hr.f1 g1
      intro hK
      have hl7 : ℓ 7 = false := by
        cases h7 : ℓ 7
        · rfl
        · have := (hr.f7 h7).2.1; rw [this] at hL; cases hL
      rw [if_pos (by rfl)]
      try simp only [Act.put, List.setIfInBounds_toArray, List.set_cons_zero, List.set_cons_succ]
      go_simp
      exact hK.out _ _ (fun j => if j = 5 then true else ℓ j) ⟨x24, .agg #[.int .i64 n, .int .i64 M, .int .i64 L], x26, x27, .slice (some ⟨B, 0, none⟩) n n, cch n M L (.slice (some ⟨B, 0, none⟩) n n), x9, (by simp only [Act.put, List.setIfInBounds_toArray, List.set_cons_zero, List.set_cons_succ]), ⟨hr.gb, hr.f0, hr.f1, hr.f2, hr.f3, hr.f4, (fun _ => ⟨g4, g1, fun v e => by rw [← e]⟩), hr.f6, (fun h => by rw [hl7] at h; cases h)⟩⟩ (if_pos rfl) (fun j hj => if_neg hj)
    · obtain rfl := Option.some.inj ho
      clear hdep ho
      have hl7 : ℓ 7 = false := by
        cases h7 : ℓ 7
        · rfl
        · have := (hr.f7 h7).2.2; rw [this] at hL; cases hL
      rw [if_pos (by rfl)]
      try simp only [Act.put, List.setIfInBounds_toArray, List.set_cons_zero, List.set_cons_succ]
      go_simp
      have hal : Below w'.heap.size w' (w'.alloc (.cells #[.int .i64 0, .int .i64 0, .int .i64 0, .slice none 0 0] 34)) := (Below.refl _ _).alloc (Nat.le_refl _) _
      have hr9 := hr.below hal
      have hk9 : Bk (w'.alloc (.cells #[.int .i64 0, .int .i64 0, .int .i64 0, .slice none 0 0] 34)) w'.heap.size #[.int .i64 0, .int .i64 0, .int .i64 0, .slice none 0 0] := Bk.new _ _ _ _ rfl
      exact hK.out _ _ (fun j => if j = 6 then true else ℓ j) ⟨x24, x25, x26, x27, x28, x29, .pointer (some ⟨w'.heap.size, 0, none⟩), (by simp only [Act.put, List.setIfInBounds_toArray, List.set_cons_zero, List.set_cons_succ]), ⟨hr9.gb, hr9.f0, hr9.f1, hr9.f2, hr9.f3, (fun g => by obtain ⟨B, lo, m, e, h1, h2, h3⟩ := hr.f4 g; exact ⟨B, lo, m, e, h1, h2.below hal, fun _ P e => by injection e with e; injection e with e; injection e with e; exact .inr (by rw [← e]; exact h2.mle)⟩), hr9.f5, (fun _ => ⟨_, _, rfl, hr.gb.size, hk9, rfl, fun h => by rw [hl7] at h; cases h⟩), (fun h => by rw [hl7] at h; cases h)⟩⟩ (if_pos rfl) (fun j hj => if_neg hj)
    · obtain rfl := Option.some.inj ho
      have g5 : ℓ 5 = true := hdep { on := 5, ground := Ground.data } (by simp) rfl
      have g6 : ℓ 6 = true := hdep { on := 6, ground := Ground.data } (by simp) rfl
      clear hdep ho
      revert hK
      obtain ⟨g4, g1, hx29⟩ := hr.f5 g5
      have hx29' := hx29 _ rfl
      subst hx29'
      obtain ⟨P, cs, hx9, hP1, hk8, hsz4, _⟩ := hr.f6 g6
      obtain ⟨B, lo, m, hx28, h1, h2, h3⟩ := hr.f4 g4
      have hne := h3 g6 P hx9
      subst hx9 hx28
      obtain ⟨cs⟩ := cs
      obtain ⟨y0, y1, y2, y3, rfl⟩ : ∃ y0 y1 y2 y3, cs = [y0, y1, y2, y3] := by
        match cs, hsz4 with
        | [y0, y1, y2, y3], _ => exact ⟨y0, y1, y2, y3, rfl⟩
      intro hK
      have q0 := hk8.cell 0 _ rfl
      have q1 := hk8.cell 1 _ rfl
      have q2 := hk8.cell 2 _ rfl
      have q3 := hk8.cell 3 _ rfl
      have z0 := hk8.free 0
      have z1 := hk8.free 1
      have z2 := hk8.free 2
      have z3 := hk8.free 3
      rw [if_pos (by rfl)]
      try simp only [Act.put, List.setIfInBounds_toArray, List.set_cons_zero, List.set_cons_succ]
      go_simp
      have hk9 : Bk ((((w'.setCell ⟨P, 0, none⟩ (.int .i64 n)).setCell ⟨P, 1, none⟩ (.int .i64 M)).setCell ⟨P, 2, none⟩ (.int .i64 L)).setCell ⟨P, 3, none⟩ (.slice (some ⟨B, 0, none⟩) n n)) P #[.int .i64 n, .int .i64 M, .int .i64 L, .slice (some ⟨B, 0, none⟩) n n] := (((hk8.set 0 _ (by simp) rfl).set 1 _ (by simp) rfl).set 2 _ (by simp) rfl).set 3 _ (by simp) rfl
      have hgb := below_four hr.gb P hP1 (.int .i64 n) (.int .i64 M) (.int .i64 L) (.slice (some ⟨B, 0, none⟩) n n)
      have hr8 := h2.betw (betw_four (Betw.refl P (P + 1) w') P (Nat.le_refl _) (Nat.lt_succ_self _) (.int .i64 n) (.int .i64 M) (.int .i64 L) (.slice (some ⟨B, 0, none⟩) n n)) (by omega)
      exact hK.out _ _ (fun j => if j = 7 then true else ℓ j) ⟨x24, x25, x26, x27, .slice (some ⟨B, 0, none⟩) n n, cch n M L (.slice (some ⟨B, 0, none⟩) n n), .pointer (some ⟨P, 0, none⟩), (by simp only [Act.put, List.setIfInBounds_toArray, List.set_cons_zero, List.set_cons_succ]), ⟨hgb, hr.f0, hr.f1, hr.f2, hr.f3, (fun _ => ⟨B, lo, m, rfl, h1, hr8, h3⟩), hr.f5, (fun _ => ⟨P, _, rfl, hP1, hk9, rfl, fun _ => rfl⟩), (fun _ => ⟨g4, g5, g6⟩)⟩⟩ (if_pos rfl) (fun j hj => if_neg hj)
  · rintro a' w' ℓ ℓ' hℓ hI
    rw [← show ℓ = ℓ' from funext hℓ]
    exact hI
  intro ℓ a' wr hI hall
  obtain ⟨x24, x25, x26, x27, x28, x29, x9, rfl, hr⟩ := hI
  have hall' : ∀ i, i < 8 → ℓ i = true := hall
  rw [hall' 4 (by omega), hall' 5 (by omega), hall' 6 (by omega), hall' 7 (by omega)] at hr
  obtain ⟨P, B, hx9, hcu⟩ := hr.fin HB1.out.1 HB1.out.2.1 HB1.out.2.2
  subst hx9
  obtain ⟨m, Hm⟩ : ∃ m, Hid (wr.heap.size = m) := ⟨_, rfl⟩
  rw [Hm.out] at hcu
  clear hr hall hall' Hm HCL HB1 HSZ2 HNT
  simp only [Act.put, List.setIfInBounds_toArray, List.set_cons_zero, List.set_cons_succ]
  have k0 := hcu.b0.cell 0 _ rfl
  have k1 := hcu.b0.cell 1 _ rfl
  have k2 := hcu.b0.cell 2 _ rfl
  have HCU : Hid (CU w wr P B n n M L a cap D m) := hcu
  clear hcu
  go_wp2_with fail
  refine Calls.mono (home_any n L A (M : Int) _ HV.out.1 HV.out.2.1 HV.out.2.2) ?_
  rintro u w4 ⟨rfl, hb4⟩
  rw [HHT.out.1, HHT.out.2]
  have hcu4 : CU w w4 P B n n M L a cap D m := HCU.out.below (hb4.mono HCU.out.rows.mle)
  obtain ⟨b1, o1, a1, c1, rfl, hbl1, e1, s1⟩ := RSeg.at (w := w) HS.out h hhn
  replace e1 := (hcu4.bel.cell (p := ⟨b1, o1 + h, none⟩) hbl1).trans e1
  have hseg4 : WSeg w4 a1 (D h) := by
    intro h0
    obtain ⟨b2, o2, e2, hlt2, hc2⟩ := s1 h0
    exact ⟨b2, o2, e2, Nat.lt_of_lt_of_le hlt2 hcu4.bel.size, fun i hi => ⟨(hcu4.bel.cell (p := ⟨b2, o2 + i * 2, none⟩) hlt2).trans (hc2 i hi).1, (hcu4.bel.cell (p := ⟨b2, o2 + i * 2 + 1, none⟩) hlt2).trans (hc2 i hi).2⟩⟩
  have hlenM : (D h).length ≤ M := HR.out h hhn
  have HROW : Hid _ := row_of a1 c1 (D h) w4 hseg4 (by omega)
  have HLM : Hid _ := hlenM
  obtain ⟨len, Hlen⟩ : ∃ len, Hid ((D h).length = len) := ⟨_, rfl⟩
  rw [Hlen.out] at e1 HROW
  have HCU4 : Hid (CU w w4 P B n n M L (some ⟨b1, o1, none⟩) cap D m) := hcu4
  have k3 := hcu4.b0.cell 3 _ rfl
  have hhn' : (h : Int) < (n : Int) := by omega
  clear hcu4 hseg4 s1 hbl1 hb4 k0 k1 k2 HCU hlenM
  go_wp2_with fail
  refine Calls.mono HROW.out ?_
  rintro u w5 ⟨hd, bs, rfl, hLL, hlow, hb5⟩
  have hal5 : Below w5.heap.size w5 (w5.alloc (.cells #[.pointer (some ⟨hd, 0, none⟩)] 66)) := (Below.refl _ _).alloc (Nat.le_refl _) _
  have hm4 := HCU4.out.rows.mle
  have hcu5 : CU w (w5.alloc (.cells #[.pointer (some ⟨hd, 0, none⟩)] 66)) P B n n M L (some ⟨b1, o1, none⟩) cap D m := (HCU4.out.below (hb5.mono hm4)).below (hal5.mono (Nat.le_trans hm4 hb5.size))
  have hltn := hLL.lt
  have HCU5 : Hid (CU w (w5.alloc (.cells #[.pointer (some ⟨hd, 0, none⟩)] 66)) P B n n M L (some ⟨b1, o1, none⟩) cap D m) := hcu5
  have HLL5 : Hid (LL (w5.alloc (.cells #[.pointer (some ⟨hd, 0, none⟩)] 66)) (hd :: bs) (wd :: D h)) := hLL.below hal5
  have HBV5 : Hid _ := Bk.new w5 #[.pointer (some ⟨hd, 0, none⟩)] 66 w5.heap.size rfl
  have HND : Hid (w5.heap.size ∉ hd :: bs ∧ (∀ j ∈ hd :: bs, m ≤ j) ∧ m ≤ w5.heap.size) := ⟨fun c => by have := hltn _ c; omega, fun j hj => Nat.le_trans hm4 (hlow j hj), Nat.le_trans hm4 hb5.size⟩
  have k1 := hcu5.b0.cell 1 _ rfl
  clear hcu5 hltn hLL hlow hb5 hal5 e1 k3 HROW HCU4 hm4
  have hM1000 : M ≤ 1000 := by omega
  go_wp2_with fail
  refine Calls.mono (row_use hd M bs wd (D h) t q _ HLL5.out hM1000) ?_
  rintro u w6 ⟨rfl, bs', hL6, hchg, _⟩
  rw [HQH.out, HQB.out]
  have hsz6 := hchg.size
  have hb6 : Below m (w5.alloc (.cells #[.pointer (some ⟨hd, 0, none⟩)] 66)) w6 := hchg.below (Nat.le_trans HND.out.2.2 (by simp)) HND.out.2.1
  have HCU6 : Hid (CU w w6 P B n n M L (some ⟨b1, o1, none⟩) cap D m) := HCU5.out.below hb6
  have HBV6 : Hid _ := HBV5.out.chg hchg HND.out.1
  have HL6 : Hid _ := hL6
  have HM6 : Hid (m ≤ w6.heap.size + 1) := by have := HCU6.out.rows.mle; show _ ≤ _; omega
  obtain ⟨ws', HWS⟩ : ∃ ws', Hid (usedRow M (D h) t q = ws') := ⟨_, rfl⟩
  rw [HWS.out] at HL6
  have HWL : Hid (ws'.length ≤ 1000000) := by rw [← HWS.out]; have h9 := (used_len (wr := q) (t := t) hM1.1 HLM.out).1; show _ ≤ _; omega
  have c9 := HCU6.out.bp.cell 3 _ rfl
  have v0 := HBV6.out.cell 0 _ rfl
  have HPB : Hid (P ≠ B ∧ w5.heap.size ≠ B) := ⟨HCU6.out.low.2.2.1, by have := HCU6.out.rows.lt; have := HND.out.2.2; omega⟩
  have hb : Below w6.heap.size w6 w6 := Below.refl _ _
  clear hL6 hchg hb6 HCU5 HLL5 HBV5 k1 hsz6
  go_wp2
  go_region_held_law (fun w' => w'.cell? ⟨P, 3, none⟩ = some (.slice (some ⟨B, 0, none⟩) n n) ∧ w'.cell? ⟨w5.heap.size, 0, none⟩ = some (.pointer (some ⟨hd, 0, none⟩))) (first | exact ⟨c9, v0⟩ | exact ⟨st1 HPB.out.1 c9, st1 HPB.out.2 v0⟩)
    (first | (go_at_call 31; refine Calls.mono (row_list hd bs' wd ws' _ (LL.below HL6.out (Below.refl _ _).drew) HWL.out) ?_; rintro u w7 ⟨v7, rfl, hown7, hb7⟩; obtain ⟨a7, c7, R7, rfl, hc7, how7⟩ := hown7.ow; have hcu7 : CU w w7 P B n n M L (some ⟨b1, o1, none⟩) cap D m := (HCU6.out.below (Below.refl _ _).drew).below (hb7.mono HCU6.out.rows.mle); have HY : Hid _ := CU.fin hcu7 hhn HM6.out how7 hc7; replace c9 := hcu7.bp.cell 3 _ rfl; replace v0 := kept_cell hb7 v0; obtain ⟨u9, bu⟩ := HY.out.2.1; have bf := HY.out.2.2; clear hcu7 hown7 hb7 hc7 how7))
  have HZ : Hid _ := HY.out.1
  have R0 := HZ.out.ret
  have p0 := HZ.out.bp.cell 0 _ rfl
  have p1 := HZ.out.bp.cell 1 _ rfl
  have p2 := HZ.out.bp.cell 2 _ rfl
  have p3 := HZ.out.bp.cell 3 _ rfl
  have r0 := HZ.out.b1.cell 0 _ rfl
  have rf := HZ.out.b1.free
  have r1 := R0.2.2.2.1.cell 1 _ rfl
  have r2 := R0.2.2.1.cell 2 _ rfl
  have r3 := R0.2.1.cell 3 _ rfl
  have n0 := R0.1.cell 0 _ rfl
  have n1' := R0.1.cell 1 _ rfl
  have n2 := R0.1.cell 2 _ rfl
  have n3 := R0.1.cell 3 _ rfl
  have HF : Hid _ := R0.2.2.2.2
  clear HY R0 c9 v0 bu bf hb
  go_wp2
  refine bodyPost_ret (v := .tuple #[cch (n : Int) (M : Int) (L : Int) (.slice (some ⟨B, 0, none⟩) n n), .bool qh, .bool qb]) (by simp [results, Try.results9, go_sem, n0, n1', n2, n3]) rfl ⟨_, _, rfl, HF.out.1, ?_⟩
  refine HF.out.2.congr fun i hi => ?_
  unfold useD'
  by_cases e : i = h
  · subst e; rw [if_pos rfl, if_pos rfl, HWS.out]
  · rw [if_neg e, if_neg e]
end Go.Proofs.Ytmbpmhmehiiiaaa
