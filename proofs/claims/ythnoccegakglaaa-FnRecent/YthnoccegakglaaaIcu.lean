/-
  A use of a cache: the program's own function. Conditions: the cache is right, the address is one.
-/
import Derived.Test.YthnoccegakglaaaRows
import Derived.Test.YthnoccegakglaaaRof
import Derived.Test.YthnoccegakglaaaLus
import Derived.Test.YthnoccegakglaaaCpz
import Derived.Test.YthnoccegakglaaaCea
import Derived.Test.YthnoccegakglaaaCho
import Derived.Test.YthnoccegakglaaaUpu
import Derived.Test.YthnoccegakglaaaRrp
import Derived.Deep.RegionHeldLaw
import Derived.Deep.RegionHeld3
namespace Go.Proofs.Ythnoccegakglaaa
open Go.ChangeShapes Go.WideShapes Go.ChangeAt Go.RowKit Go.Deep
set_option linter.unusedVariables false

def useD' (h M : Nat) (t : Int) (q : Bool) (D : Nat → List Wy) : Nat → List Wy := fun i => if i = h then usedRow M (D i) t q else D i
theorem al1 {w : World} {p : Addr} {v : Value} (o : Obj) (h : w.cell? p = some v) : (w.alloc o).cell? p = some v := kept_cell ((Below.refl _ _).alloc (Nat.le_refl _) _) h
theorem st1 {w : World} {b c i j : Nat} {v u : Value} (hne : b ≠ c) (h : w.cell? ⟨b, i, none⟩ = some v) : (w.setCell ⟨c, j, none⟩ u).cell? ⟨b, i, none⟩ = some v := by
  rw [World.cell?_setCell_other _ _ _ _ (by intro e; injection e with e1 e2 e3; exact hne e1.symm)]
  exact h
theorem Bk.grownNe {w w' : World} {b : Nat} {cs : Array Value} {row : Option Nat} (h : Bk w b cs) (hg : w.grownBy w' row) (hne : row ≠ some b) : Bk w' b cs := by
  have hk := hg.block b h.lt (fun e => hne e.symm)
  exact ⟨Nat.lt_of_lt_of_le h.lt hg.size, fun i v e => (World.cell?_of_block (a := ⟨b, i, none⟩) hk).trans (h.cell i v e), fun i => (World.frozen?_of_block (a := ⟨b, i, none⟩) hk).trans (h.free i)⟩
/-- The cache that came in, the answer's room, the new cache and its rows so far. -/
structure CU (w W : World) (P B n k : Nat) (M L : Int) (a : Option Addr) (cap : Nat) (D : Nat → List Wy) (m : Nat) : Prop where
  bel : Below w.heap.size w W
  b0 : Bk W w.heap.size #[.int .i64 n, .int .i64 M, .int .i64 L, .slice a n cap]
  b1 : Bk W (w.heap.size + 1) #[.int .i64 0, .int .i64 0, .int .i64 0, .slice none 0 0]
  bp : Bk W P #[.int .i64 n, .int .i64 M, .int .i64 L, .slice (some ⟨B, 0, none⟩) n n]
  rows : Rsb W (w.heap.size + 2) m B n k D
  low : w.heap.size + 2 ≤ B ∧ w.heap.size + 2 ≤ P ∧ P ≠ B ∧ P < m
theorem CU.below {w W W' : World} {P B n k : Nat} {M L : Int} {a : Option Addr} {cap : Nat} {D : Nat → List Wy} {m : Nat} (h : CU w W P B n k M L a cap D m) (hb : Below m W W') : CU w W' P B n k M L a cap D m := by
  have h1 := h.rows.lt
  have h2 := h.low
  have hm := h.rows.mle
  have hk : ∀ b cs, b < m → Bk W b cs → Bk W' b cs := fun b cs hlt hB => ⟨Nat.lt_of_lt_of_le hB.lt hb.size, fun i v e => (hb.cell (p := ⟨b, i, none⟩) hlt).trans (hB.cell i v e), fun i => (hb.frozen (p := ⟨b, i, none⟩) hlt).trans (hB.free i)⟩
  exact ⟨h.bel.trans (hb.mono (by omega)), hk _ _ (by omega) h.b0, hk _ _ (by omega) h.b1, hk _ _ h2.2.2.2 h.bp, h.rows.chg hb, h.low⟩
theorem CU.put {w W W1 w5 : World} {P B n k : Nat} {M L : Int} {a : Option Addr} {cap : Nat} {D : Nat → List Wy} {m g cp : Nat} (h : CU w W P B n k M L a cap D m) (hk : k < n) (h1 : Below W.heap.size W W1) (hg : W1.grownBy w5 (some W.heap.size)) (how : OW w5 W.heap.size w5.heap.size (some ⟨g, 0, none⟩) (D k) g) (hc : (D k).length ≤ cp) :
    CU w (w5.setCell ⟨B, k, none⟩ (.slice (some ⟨g, 0, none⟩) (D k).length cp)) P B n (k + 1) M L a cap D w5.heap.size ∧ w5.cell? ⟨P, 3, none⟩ = some (.slice (some ⟨B, 0, none⟩) n n) ∧ (∃ u, w5.cell? ⟨B, k, none⟩ = some u) ∧ w5.frozen? ⟨B, k, none⟩ = false := by
  have hm := h.rows.mle
  have hBm := h.rows.lt
  have hl := h.low
  have hsz := h1.size
  have hg5 := hg.size
  have hb5 : Below m W w5 := Below.grown (h1.mono hm) hg (by omega) (fun g e => by injection e with e; omega)
  have h5 := h.below hb5
  refine ⟨⟨(h5.bel.setCell (p := ⟨B, k, none⟩) (by show _ ≤ B; omega) _), h5.b0.other _ _ _ (by omega), h5.b1.other _ _ _ (by omega), h5.bp.other _ _ _ (fun e => hl.2.2.1 e.symm), ?_, ⟨hl.1, hl.2.1, hl.2.2.1, by omega⟩⟩, h5.bp.cell 3 _ rfl, h5.rows.room k hk, h5.rows.free k⟩
  exact h5.rows.put hk _ cp g w5.heap.size (fun h0 => by obtain ⟨_, _, g1, _⟩ := how h0; omega) (how.wide (by omega) (Nat.le_refl _)) hc (by omega) (Nat.le_refl _)
theorem CU.fin {w W : World} {P B n h' M' : Nat} {M L : Int} {a a6 : Option Addr} {cap c6 R6 : Nat} {D : Nat → List Wy} {m : Nat} {ws : List Wy} (h : CU w W P B n n M L a cap D m) (hh : h' < n) (hlo : m ≤ M') (how : OW W M' W.heap.size a6 ws R6) (hc : ws.length ≤ c6) :
    CU w (W.setCell ⟨B, h', none⟩ (.slice a6 ws.length c6)) P B n n M L a cap (fun i => if i = h' then ws else D i) W.heap.size ∧ (∃ u, W.cell? ⟨B, h', none⟩ = some u) ∧ W.frozen? ⟨B, h', none⟩ = false := by
  have hm := h.rows.mle
  have hBm := h.rows.lt
  have hl := h.low
  refine ⟨⟨h.bel.setCell (p := ⟨B, h', none⟩) (by show _ ≤ B; omega) _, h.b0.other _ _ _ (by omega), h.b1.other _ _ _ (by omega), h.bp.other _ _ _ (fun e => hl.2.2.1 e.symm), ?_, ⟨hl.1, hl.2.1, hl.2.2.1, by omega⟩⟩, h.rows.room h' hh, h.rows.free h'⟩
  exact h.rows.repl hh ws a6 c6 R6 W.heap.size (fun h0 => by obtain ⟨_, _, g1, _⟩ := how h0; omega) (how.wide (by have := h.low; omega) (Nat.le_refl _)) hc hm (Nat.le_refl _)
theorem CU.ret {w W : World} {P B n : Nat} {M L : Int} {a : Option Addr} {cap : Nat} {D : Nat → List Wy} {m : Nat} (h : CU w W P B n n M L a cap D m) :
    Bk ((((W.setCell ⟨w.heap.size + 1, 0, none⟩ (.int .i64 n)).setCell ⟨w.heap.size + 1, 1, none⟩ (.int .i64 M)).setCell ⟨w.heap.size + 1, 2, none⟩ (.int .i64 L)).setCell ⟨w.heap.size + 1, 3, none⟩ (.slice (some ⟨B, 0, none⟩) n n)) (w.heap.size + 1) #[.int .i64 n, .int .i64 M, .int .i64 L, .slice (some ⟨B, 0, none⟩) n n] ∧
    Bk (((W.setCell ⟨w.heap.size + 1, 0, none⟩ (.int .i64 n)).setCell ⟨w.heap.size + 1, 1, none⟩ (.int .i64 M)).setCell ⟨w.heap.size + 1, 2, none⟩ (.int .i64 L)) (w.heap.size + 1) #[.int .i64 n, .int .i64 M, .int .i64 L, .slice none 0 0] ∧
    Bk ((W.setCell ⟨w.heap.size + 1, 0, none⟩ (.int .i64 n)).setCell ⟨w.heap.size + 1, 1, none⟩ (.int .i64 M)) (w.heap.size + 1) #[.int .i64 n, .int .i64 M, .int .i64 0, .slice none 0 0] ∧
    Bk (W.setCell ⟨w.heap.size + 1, 0, none⟩ (.int .i64 n)) (w.heap.size + 1) #[.int .i64 n, .int .i64 0, .int .i64 0, .slice none 0 0] ∧
    Below w.heap.size w ((((W.setCell ⟨w.heap.size + 1, 0, none⟩ (.int .i64 n)).setCell ⟨w.heap.size + 1, 1, none⟩ (.int .i64 M)).setCell ⟨w.heap.size + 1, 2, none⟩ (.int .i64 L)).setCell ⟨w.heap.size + 1, 3, none⟩ (.slice (some ⟨B, 0, none⟩) n n)) ∧
    ORows ((((W.setCell ⟨w.heap.size + 1, 0, none⟩ (.int .i64 n)).setCell ⟨w.heap.size + 1, 1, none⟩ (.int .i64 M)).setCell ⟨w.heap.size + 1, 2, none⟩ (.int .i64 L)).setCell ⟨w.heap.size + 1, 3, none⟩ (.slice (some ⟨B, 0, none⟩) n n)) w.heap.size ((((W.setCell ⟨w.heap.size + 1, 0, none⟩ (.int .i64 n)).setCell ⟨w.heap.size + 1, 1, none⟩ (.int .i64 M)).setCell ⟨w.heap.size + 1, 2, none⟩ (.int .i64 L)).setCell ⟨w.heap.size + 1, 3, none⟩ (.slice (some ⟨B, 0, none⟩) n n)).heap.size (some ⟨B, 0, none⟩) n D := by
  have f0 := h.b1.set 0 (.int .i64 n) (by simp) rfl
  have f1 := f0.set 1 (.int .i64 M) (by simp) rfl
  have f2 := f1.set 2 (.int .i64 L) (by simp) rfl
  have f3 := f2.set 3 (.slice (some ⟨B, 0, none⟩) n n) (by simp) rfl
  refine ⟨f3, f2, f1, f0, below_four h.bel (w.heap.size + 1) (by omega) _ _ _ _, ?_⟩
  have hb : Betw (w.heap.size + 1) (w.heap.size + 2) W ((((W.setCell ⟨w.heap.size + 1, 0, none⟩ (.int .i64 n)).setCell ⟨w.heap.size + 1, 1, none⟩ (.int .i64 M)).setCell ⟨w.heap.size + 1, 2, none⟩ (.int .i64 L)).setCell ⟨w.heap.size + 1, 3, none⟩ (.slice (some ⟨B, 0, none⟩) n n)) := betw_four (Betw.refl _ _ _) (w.heap.size + 1) (by omega) (by omega) _ _ _ _
  exact (h.rows.rows'.betw hb (.inr (Nat.le_refl _))).wide (by omega) (Nat.le_trans h.rows.mle hb.size)
set_option maxRecDepth 100000 in
set_option maxHeartbeats 8000000 in
theorem impl_use (n M L A : Nat) (q : Bool) (a : Option Addr) (cap : Nat) (D : Nat → List Wy) (w : World) (hs : RSeg w a n D) (hq : CacheOkP (n : Int) (M : Int) (L : Int) n D) (hA : A ≤ 65535) (h : Nat) (t : Int) (hh : A / L % n = h) (ht : ((A / L / n : Nat) : Int) = t) :
    Calls Try.prog 32 #[cch (n : Int) (M : Int) (L : Int) (.slice a n cap), .int .i64 A, .bool q] w fun e w' => ∃ a' cap', e = .returned (.tuple #[cch (n : Int) (M : Int) (L : Int) (.slice a' n cap'), .bool (usedHit (D h) t), .bool (usedBack M (D h) t q)]) ∧ Below w.heap.size w w' ∧ ORows w' w.heap.size w'.heap.size a' n (useD' h M t q D) := by
  have hp := shapeOk_parts hq.1
  have hn16 : n ≤ 16 := by omega
  have hn1 : 1 ≤ n := by omega
  have hM1 : 1 ≤ M ∧ M ≤ 4 := by omega
  have hhn : h < n := by rw [← hh]; exact Nat.mod_lt _ (by omega)
  have hrow : ∀ i, i < n → (D i).length ≤ M := fun i hi => by have := (hq.2.2 i hi).1; omega
  have htot : ∀ k, k ≤ n → tot D k ≤ 4 * k := fun k => by
    induction k with
    | zero => intro _; simp [tot]
    | succ k ih => intro hk; have := ih (by omega); have := hrow k (by omega); simp only [tot]; omega
  have hnt : tot D n ≤ 1048576 := by have := htot n (Nat.le_refl _); omega
  have hb0 : Below w.heap.size w ((w.alloc (.cells #[.int .i64 n, .int .i64 M, .int .i64 L, .slice a n cap] 43)).alloc (.cells #[.int .i64 0, .int .i64 0, .int .i64 0, .slice none 0 0] 43)) := ((Below.refl _ _).alloc (Nat.le_refl _) _).alloc (by simp) _
  have HC : Hid _ := impl_cachek (n : Int) (M : Int) (L : Int) a cap n D _ (RSeg.below hs hb0) (by omega) hnt true (by simp [hq])
  have HX : Hid (inr (A : Int) 0 65535 = true) := inr_yes (by omega)
  have HSH : Hid (shapeOk (n : Int) (M : Int) (L : Int) = true) := hq.1
  have HB0 : Hid _ := And.intro hb0 (And.intro ((Bk.new w #[.int .i64 n, .int .i64 M, .int .i64 L, .slice a n cap] 43 w.heap.size rfl).alloc (.cells #[.int .i64 0, .int .i64 0, .int .i64 0, .slice none 0 0] 43)) (Bk.new (w.alloc (.cells #[.int .i64 n, .int .i64 M, .int .i64 L, .slice a n cap] 43)) #[.int .i64 0, .int .i64 0, .int .i64 0, .slice none 0 0] 43 (w.heap.size + 1) (by simp)))
  have HS : Hid (RSeg w a n D) := hs
  have HR : Hid _ := hrow
  have HV : Hid ((1 ≤ n ∧ n ≤ 16) ∧ (4 ≤ L ∧ L ≤ 32) ∧ A ≤ 65535) := ⟨by omega, by omega, hA⟩
  have HHT : Hid _ := And.intro hh ht
  obtain ⟨qh, HQH⟩ : ∃ qh, Hid (usedHit (D h) t = qh) := ⟨_, rfl⟩
  obtain ⟨qb, HQB⟩ : ∃ qb, Hid (usedBack M (D h) t q = qb) := ⟨_, rfl⟩
  rw [HQH.out, HQB.out]
  clear hp hs hq hrow htot hnt hb0 hA hh ht
  go_enter Try.func32, Try.ntmps32
  go_wp2_with fail
  refine Calls.mono HC.out ?_
  rintro u w1 ⟨rfl, hb1⟩
  have HB1 : Hid _ := And.intro (HB0.out.1.trans (hb1.mono HB0.out.1.size)) (And.intro (HB0.out.2.1.below hb1) (HB0.out.2.2.below hb1))
  have k0 := HB1.out.2.1.cell 0 _ rfl
  have k1 := HB1.out.2.1.cell 1 _ rfl
  have k2 := HB1.out.2.1.cell 2 _ rfl
  have k3 := HB1.out.2.1.cell 3 _ rfl
  clear hb1 HB0 HC
  go_wp2_with fail
  refine (is_addr (A : Int) _).mono ?_
  rintro u w2 ⟨rfl, rfl⟩
  rw [HX.out]
  go_wp2_with fail
  refine Calls.mono (impl_cem n (M : Int) (L : Int) _ HSH.out) ?_
  rintro u w3 ⟨B, rfl, hb3, hrs, _⟩
  have hal : Below w3.heap.size w3 (w3.alloc (.cells #[.int .i64 n, .int .i64 M, .int .i64 L, .slice (some ⟨B, 0, none⟩) n n] 43)) := (Below.refl _ _).alloc (Nat.le_refl _) _
  have HI : Hid (CU w (w3.alloc (.cells #[.int .i64 n, .int .i64 M, .int .i64 L, .slice (some ⟨B, 0, none⟩) n n] 43)) w3.heap.size B n 0 M L a cap D (w3.heap.size + 1)) := by
    have hb13 := HB1.out.1.trans (hb3.mono HB1.out.1.size)
    have hBl := hrs.low
    have hBm := hrs.lt
    have hB1l := HB1.out.2.2.lt
    have hrs2 := hrs.below hal
    refine ⟨hb13.trans (hal.mono hb13.size), (HB1.out.2.1.below hb3).below hal, (HB1.out.2.2.below hb3).below hal, Bk.new _ _ 43 _ rfl, ⟨by omega, by simp, by omega, hrs2.free, hrs2.room, fun _ => none, fun _ => 0, fun _ => 0, ⟨fun i hi => absurd hi (by omega), fun i hi => absurd hi (by omega), fun i hi => absurd hi (by omega), fun i hi => absurd hi (by omega), fun i j hi => absurd hi (by omega)⟩⟩, ⟨by omega, by have := hb3.size; omega, by omega, by omega⟩⟩
  have HW2 : Hid (w.heap.size + 2 ≤ w3.heap.size) := by have := HB1.out.2.2.lt; have := hb3.size; show _ ≤ _; omega
  clear hb3 hrs hal k0 k1 k2 k3 HB1
  have i0 := HI.out.b0.cell 3 _ rfl
  go_wp2
  clear i0
  obtain ⟨W3, HW3⟩ : ∃ W3, Hid (W3 = w3.alloc (.cells #[.int .i64 n, .int .i64 M, .int .i64 L, .slice (some ⟨B, 0, none⟩) n n] 43)) := ⟨_, rfl⟩
  rw [← HW3.out] at HI ⊢
  obtain ⟨P, HP⟩ : ∃ P, Hid (w3.heap.size = P) := ⟨_, rfl⟩
  rw [HP.out] at HI HW2 ⊢
  go_loopw [32] (fun i wr => ∃ k : Nat, k ≤ n ∧ i = .int .i64 k ∧ Hid (∃ m, CU w wr P B n k M L a cap D m)) (fun i _ => n - (intOf i).toNat)
  case atStart => exact ⟨0, by omega, rfl, _, HI.out⟩
  case round =>
    obtain ⟨k, hk, rfl, HU⟩ := hrel
    clear HI HW3 HP
    by_cases hkn : k < n
    · have hkn' : (k : Int) < (n : Int) := by omega
      obtain ⟨m, hcu⟩ := HU.out
      obtain ⟨b1, o1, a1, c1, rfl, hbl1, e1, s1⟩ := RSeg.at (w := w) HS.out k hkn
      replace e1 := (hcu.bel.cell (p := ⟨b1, o1 + k, none⟩) hbl1).trans e1
      have hlen : (D k).length ≤ 4 := by have := HR.out k hkn; omega
      have HSG : Hid (WSeg wr a1 (D k)) := by
        intro h0
        obtain ⟨b2, o2, e2, hlt2, hc2⟩ := s1 h0
        exact ⟨b2, o2, e2, Nat.lt_of_lt_of_le hlt2 hcu.bel.size, fun i hi => ⟨(hcu.bel.cell (p := ⟨b2, o2 + i * 2, none⟩) hlt2).trans (hc2 i hi).1, (hcu.bel.cell (p := ⟨b2, o2 + i * 2 + 1, none⟩) hlt2).trans (hc2 i hi).2⟩⟩
      have HCU : Hid (CU w wr P B n k M L (some ⟨b1, o1, none⟩) cap D m) := hcu
      have c9 := hcu.bp.cell 3 _ rfl
      obtain ⟨len, Hlen⟩ : ∃ len, Hid ((D k).length = len) := ⟨_, rfl⟩
      rw [Hlen.out] at e1 hlen
      have halx : Below wr.heap.size wr (wr.alloc (.cells #[] 87)) := (Below.refl _ _).alloc (Nat.le_refl _) _
      have HALX : Hid _ := halx
      have HON : Hid (OwnW (wr.alloc (.cells #[] 87)).drew wr.heap.size (.slice (some ⟨wr.heap.size, 0, none⟩) 0 0) []) := (OwnW.new wr wr.heap.size rfl).below ((Below.refl _ _).drew)
      have HX2 : Hid (WSeg (wr.alloc (.cells #[] 87)).drew a1 (D k)) := WSeg.below HSG.out halx.drew
      have HNN : Hid (([] : List Wy).length + (D k).length ≤ 1048576) := by show _ ≤ _; rw [Hlen.out]; simp; omega
      have HLE : Hid (wr.heap.size ≤ (wr.alloc (.cells #[] 87)).drew.heap.size) := halx.drew.size
      have HVN : Hid (Value.slice (some ⟨wr.heap.size, 0, none⟩) 0 0 ≠ .slice none 0 0) := fun e => by cases e
      have HN0 : Hid (([] : List Wy).length + len = len) := by show _ = _; simp
      have HPB : Hid (P ≠ B) := hcu.low.2.2.1
      clear hcu HU s1 hbl1 halx
      go_wp2
      go_region_held_law (fun w' => w'.cell? ⟨P, 3, none⟩ = some (.slice (some ⟨B, 0, none⟩) n n)) (first | exact c9 | exact al1 _ c9 | exact st1 HPB.out c9)
        (first | (refine step_append_ways_s _ rfl (.tmp 40) (.tmp 41) 88 rfl Try.underlying88 wr.heap.size (.slice (some ⟨wr.heap.size, 0, none⟩) 0 0) [] (D k) a1 len c1 rfl rfl Hlen.out HON.out HX2.out HNN.out HLE.out HVN.out (some 42) rfl len HN0.out ?_; intro g5 cp5 w5 how5 hgrow5 hc5; have HY : Hid _ := CU.put HCU.out hkn HALX.out.drew hgrow5 how5 (by rw [Hlen.out]; exact hc5); clear how5 hgrow5 hc5; replace c9 := HY.out.2.1; obtain ⟨u9, bu⟩ := HY.out.2.2.1; have bf := HY.out.2.2.2))
      have HZ : Hid _ := HY.out.1
      rw [Hlen.out] at HZ
      clear HY c9 bu bf e1
      go_wp2
      go_roundw
      case rel => exact ⟨k + 1, by omega, by go_num, _, HZ.out⟩
      case measure => simp [intOf]; omega
    · obtain rfl : k = n := by omega
      clear hkn
      obtain ⟨m, hcu⟩ := HU.out
      have k0 := hcu.b0.cell 0 _ rfl
      have k1 := hcu.b0.cell 1 _ rfl
      have k2 := hcu.b0.cell 2 _ rfl
      have HCU : Hid (CU w wr P B k k M L a cap D m) := hcu
      clear hcu HU
      go_wp2_with fail
      refine Calls.mono (home_any k L A (M : Int) _ HV.out.1 HV.out.2.1 HV.out.2.2) ?_
      rintro u w4 ⟨rfl, hb4⟩
      rw [HHT.out.1, HHT.out.2]
      have hcu4 : CU w w4 P B k k M L a cap D m := HCU.out.below (hb4.mono HCU.out.rows.mle)
      obtain ⟨b1, o1, a1, c1, rfl, hbl1, e1, s1⟩ := RSeg.at (w := w) HS.out h hhn
      replace e1 := (hcu4.bel.cell (p := ⟨b1, o1 + h, none⟩) hbl1).trans e1
      have hseg4 : WSeg w4 a1 (D h) := by
        intro h0
        obtain ⟨b2, o2, e2, hlt2, hc2⟩ := s1 h0
        exact ⟨b2, o2, e2, Nat.lt_of_lt_of_le hlt2 hcu4.bel.size, fun i hi => ⟨(hcu4.bel.cell (p := ⟨b2, o2 + i * 2, none⟩) hlt2).trans (hc2 i hi).1, (hcu4.bel.cell (p := ⟨b2, o2 + i * 2 + 1, none⟩) hlt2).trans (hc2 i hi).2⟩⟩
      have hlenM : (D h).length ≤ M := HR.out h hhn
      have HROW : Hid _ := row_of a1 c1 (D h) w4 hseg4 (by omega)
      have HLM : Hid _ := hlenM
      obtain ⟨len, Hlen⟩ : ∃ len, Hid ((D h).length = len) := ⟨_, rfl⟩
      rw [Hlen.out] at e1 HROW
      have HCU4 : Hid (CU w w4 P B k k M L (some ⟨b1, o1, none⟩) cap D m) := hcu4
      have k3 := hcu4.b0.cell 3 _ rfl
      have hhn' : (h : Int) < (k : Int) := by omega
      clear hcu4 hseg4 s1 hbl1 hb4 k0 k1 k2 HCU hlenM
      go_wp2_with fail
      refine Calls.mono HROW.out ?_
      rintro u w5 ⟨hd, bs, rfl, hLL, hlow, hb5⟩
      have hal5 : Below w5.heap.size w5 (w5.alloc (.cells #[.pointer (some ⟨hd, 0, none⟩)] 84)) := (Below.refl _ _).alloc (Nat.le_refl _) _
      have hm4 := HCU4.out.rows.mle
      have hcu5 : CU w (w5.alloc (.cells #[.pointer (some ⟨hd, 0, none⟩)] 84)) P B k k M L (some ⟨b1, o1, none⟩) cap D m := (HCU4.out.below (hb5.mono hm4)).below (hal5.mono (Nat.le_trans hm4 hb5.size))
      have hltn := hLL.lt
      have HCU5 : Hid (CU w (w5.alloc (.cells #[.pointer (some ⟨hd, 0, none⟩)] 84)) P B k k M L (some ⟨b1, o1, none⟩) cap D m) := hcu5
      have HLL5 : Hid (LL (w5.alloc (.cells #[.pointer (some ⟨hd, 0, none⟩)] 84)) (hd :: bs) (wd :: D h)) := hLL.below hal5
      have HBV5 : Hid _ := Bk.new w5 #[.pointer (some ⟨hd, 0, none⟩)] 84 w5.heap.size rfl
      have HND : Hid (w5.heap.size ∉ hd :: bs ∧ (∀ j ∈ hd :: bs, m ≤ j) ∧ m ≤ w5.heap.size) := ⟨fun c => by have := hltn _ c; omega, fun j hj => Nat.le_trans hm4 (hlow j hj), Nat.le_trans hm4 hb5.size⟩
      have k1 := hcu5.b0.cell 1 _ rfl
      clear hcu5 hltn hLL hlow hb5 hal5 e1 k3 HROW HCU4 hm4
      have hM1000 : M ≤ 1000 := by omega
      go_wp2_with fail
      refine Calls.mono (row_use hd M bs wd (D h) t q _ HLL5.out hM1000) ?_
      rintro u w6 ⟨rfl, bs', hL6, hchg, _⟩
      rw [HQH.out, HQB.out]
      have hsz6 := hchg.size
      have hb6 : Below m (w5.alloc (.cells #[.pointer (some ⟨hd, 0, none⟩)] 84)) w6 := hchg.below (Nat.le_trans HND.out.2.2 (by simp)) HND.out.2.1
      have HCU6 : Hid (CU w w6 P B k k M L (some ⟨b1, o1, none⟩) cap D m) := HCU5.out.below hb6
      have HBV6 : Hid _ := HBV5.out.chg hchg HND.out.1
      have HL6 : Hid _ := hL6
      have HM6 : Hid (m ≤ w6.heap.size + 1) := by have := HCU6.out.rows.mle; show _ ≤ _; omega
      obtain ⟨ws', HWS⟩ : ∃ ws', Hid (usedRow M (D h) t q = ws') := ⟨_, rfl⟩
      rw [HWS.out] at HL6
      have HWL : Hid (ws'.length ≤ 1000000) := by rw [← HWS.out]; have h9 := (used_len (wr := q) (t := t) hM1.1 HLM.out).1; show _ ≤ _; omega
      have c9 := HCU6.out.bp.cell 3 _ rfl
      have v0 := HBV6.out.cell 0 _ rfl
      have HPB : Hid (P ≠ B ∧ w5.heap.size ≠ B) := ⟨HCU6.out.low.2.2.1, by have := HCU6.out.rows.lt; have := HND.out.2.2; omega⟩
      have hb : Below w6.heap.size w6 w6 := Below.refl _ _
      clear hL6 hchg hb6 HCU5 HLL5 HBV5 k1 hsz6
      go_wp2
      go_region_held_law (fun w' => w'.cell? ⟨P, 3, none⟩ = some (.slice (some ⟨B, 0, none⟩) k k) ∧ w'.cell? ⟨w5.heap.size, 0, none⟩ = some (.pointer (some ⟨hd, 0, none⟩))) (first | exact ⟨c9, v0⟩ | exact ⟨st1 HPB.out.1 c9, st1 HPB.out.2 v0⟩)
        (first | (go_at_call 72; refine Calls.mono (row_list hd bs' wd ws' _ (LL.below HL6.out (Below.refl _ _).drew) HWL.out) ?_; rintro u w7 ⟨v7, rfl, hown7, hb7⟩; obtain ⟨a7, c7, R7, rfl, hc7, how7⟩ := hown7.ow; have hcu7 : CU w w7 P B k k M L (some ⟨b1, o1, none⟩) cap D m := (HCU6.out.below (Below.refl _ _).drew).below (hb7.mono HCU6.out.rows.mle); have HY : Hid _ := CU.fin hcu7 hhn HM6.out how7 hc7; replace c9 := hcu7.bp.cell 3 _ rfl; replace v0 := kept_cell hb7 v0; obtain ⟨u9, bu⟩ := HY.out.2.1; have bf := HY.out.2.2; clear hcu7 hown7 hb7 hc7 how7))
      have HZ : Hid _ := HY.out.1
      have R0 := HZ.out.ret
      have p0 := HZ.out.bp.cell 0 _ rfl
      have p1 := HZ.out.bp.cell 1 _ rfl
      have p2 := HZ.out.bp.cell 2 _ rfl
      have p3 := HZ.out.bp.cell 3 _ rfl
      have r0 := HZ.out.b1.cell 0 _ rfl
      have rf := HZ.out.b1.free
      have r1 := R0.2.2.2.1.cell 1 _ rfl
      have r2 := R0.2.2.1.cell 2 _ rfl
      have r3 := R0.2.1.cell 3 _ rfl
      have n0 := R0.1.cell 0 _ rfl
      have n1' := R0.1.cell 1 _ rfl
      have n2 := R0.1.cell 2 _ rfl
      have n3 := R0.1.cell 3 _ rfl
      have HF : Hid _ := R0.2.2.2.2
      clear HY R0 c9 v0 bu bf hb
      go_wp2
      refine bodyPost_ret (v := .tuple #[cch (k : Int) (M : Int) (L : Int) (.slice (some ⟨B, 0, none⟩) k k), .bool qh, .bool qb]) (by simp [results, Try.results32, go_sem, n0, n1', n2, n3]) rfl ⟨_, _, rfl, HF.out.1, ?_⟩
      refine HF.out.2.congr fun i hi => ?_
      unfold useD'
      by_cases e : i = h
      · subst e; rw [if_pos rfl, if_pos rfl, HWS.out]
      · rw [if_neg e, if_neg e]
end Go.Proofs.Ythnoccegakglaaa
