
/-
  Many uses of a cache, one after another: the specification's own function. Conditions: the uses read as such, at most 1048576 of them.
-/
import Derived.Test.YtmbpmhmehiiiaaaRows
import Derived.Test.YtmbpmhmehiiiaaaUpr
import Derived.Test.YtmbpmhmehiiiaaaUsl
namespace Go.Proofs.Ytmbpmhmehiiiaaa
open Go.ChangeShapes Go.WideShapes Go.ChangeAt Go.RowKit Go.Deep
set_option linter.unusedVariables false

theorem OwnA.other {w : World} {base : Nat} {v : Value} {xs : List Ac} (h : OwnA w base v xs) (b i : Nat) (u : Value) (hne : v.ownBlock ≠ some b) : OwnA (w.setCell ⟨b, i, none⟩ u) base v xs := by
  refine ⟨h.1, ?_⟩
  rcases h.2 with hn | ⟨g, cap, cur, e, hbs, hg, rest⟩
  · exact .inl hn
  · subst e
    have hgb : g ≠ b := fun e => hne (by rw [e]; rfl)
    exact .inr ⟨g, cap, cur, rfl, hbs, by rw [Below.heap_setCell _ _ _ _ hgb]; exact hg, rest⟩
theorem OwnA.lt {w : World} {base : Nat} {v : Value} {xs : List Ac} (h : OwnA w base v xs) : ∀ g, v.ownBlock = some g → base ≤ g ∧ g < w.heap.size := fun g e => by
  rcases h.2 with ⟨h0, _⟩ | ⟨g', cap, cur, rfl, hbs, hg, rest⟩
  · subst h0; cases e
  · simp only [Value.ownBlock, Option.some.injEq] at e
    subst e
    refine ⟨hbs, ?_⟩
    rcases Nat.lt_or_ge g' w.heap.size with hlt | hge
    · exact hlt
    · rw [Array.getElem?_eq_none hge] at hg; cases hg
theorem grown_betw {w w' : World} {row : Option Nat} (hg : w.grownBy w' row) (g : Nat) (hr : ∀ x, row = some x → x = g) : Betw g (g + 1) w w' :=
  ⟨hg.os, hg.tape, hg.output, hg.size, fun k hk ho => hg.block k hk (fun e => by have := hr k e.symm; omega)⟩
theorem ORows.grown {w w' : World} {lo hi : Nat} {a : Option Addr} {n : Nat} {D : Nat → List Wy} {row : Option Nat} (h : ORows w lo hi a n D) (hg : w.grownBy w' row) (hr : ∀ g, row = some g → g < lo ∨ hi ≤ g) : ORows w' lo hi a n D := by
  cases row with
  | none => exact h.below ⟨hg.os, hg.tape, hg.output, hg.size, fun k hk => hg.block k hk (by simp)⟩
  | some g =>
    have := hr g rfl
    exact h.betw (grown_betw hg g (fun x e => (Option.some.inj e).symm)) (by omega)
/-- The cache in its variable 'Q', its rows from 'lo' on and below 'hi', and the list of answers so far. -/
structure KT (w W : World) (Q n : Nat) (M L : Int) (D : Nat → List Wy) (v : Value) (xs : List Ac) (a : Option Addr) (c lo hi : Nat) : Prop where
  bel : Below w.heap.size w W
  q : Bk W Q #[.int .i64 n, .int .i64 M, .int .i64 L, .slice a n c]
  pg : ORows W lo hi a n D
  out : OwnA W w.heap.size v xs
  sep : ∀ g, v.ownBlock = some g → (g < lo ∨ hi ≤ g) ∧ g ≠ Q
  qlo : Q < lo ∨ hi ≤ Q
  qw : w.heap.size ≤ Q
  hiw : hi ≤ W.heap.size
/-- A use has been made, its cache lies in 'P'; the cache's own variable is not written yet. -/
structure KU (w W : World) (Q P n : Nat) (M L : Int) (D : Nat → List Wy) (v : Value) (xs : List Ac) (a : Option Addr) (c lo hi : Nat) : Prop where
  bel : Below w.heap.size w W
  q : ∃ u0 u1 u2 u3, Bk W Q #[u0, u1, u2, u3]
  p : Bk W P #[.int .i64 n, .int .i64 M, .int .i64 L, .slice a n c]
  pg : ORows W lo hi a n D
  out : OwnA W w.heap.size v xs
  sep : ∀ g, v.ownBlock = some g → g < lo ∧ g ≠ Q
  qlo : Q < lo
  qw : w.heap.size ≤ Q
  hiw : hi ≤ W.heap.size
theorem KU.end {w W : World} {Q P n : Nat} {M L : Int} {D : Nat → List Wy} {v : Value} {xs : List Ac} {a : Option Addr} {c lo hi : Nat} (h : KU w W Q P n M L D v xs a c lo hi) :
    KT w ((((W.setCell ⟨Q, 0, none⟩ (.int .i64 n)).setCell ⟨Q, 1, none⟩ (.int .i64 M)).setCell ⟨Q, 2, none⟩ (.int .i64 L)).setCell ⟨Q, 3, none⟩ (.slice a n c)) Q n M L D v xs a c lo hi ∧ (∃ u0 u1 u2 u3, W.cell? ⟨Q, 0, none⟩ = some u0 ∧ (W.setCell ⟨Q, 0, none⟩ (.int .i64 n)).cell? ⟨Q, 1, none⟩ = some u1 ∧ ((W.setCell ⟨Q, 0, none⟩ (.int .i64 n)).setCell ⟨Q, 1, none⟩ (.int .i64 M)).cell? ⟨Q, 2, none⟩ = some u2 ∧ (((W.setCell ⟨Q, 0, none⟩ (.int .i64 n)).setCell ⟨Q, 1, none⟩ (.int .i64 M)).setCell ⟨Q, 2, none⟩ (.int .i64 L)).cell? ⟨Q, 3, none⟩ = some u3) ∧ ∀ i, W.frozen? ⟨Q, i, none⟩ = false := by
  obtain ⟨u0, u1, u2, u3, hq⟩ := h.q
  have h1 := hq.set 0 (.int .i64 n) (by simp) rfl
  have h2 := h1.set 1 (.int .i64 M) (by simp) rfl
  have h3 := h2.set 2 (.int .i64 L) (by simp) rfl
  have h4 := h3.set 3 (.slice a n c) (by simp) rfl
  have hne : v.ownBlock ≠ some Q := fun e => (h.sep Q e).2 rfl
  refine ⟨⟨below_four h.bel Q h.qw _ _ _ _, h4, h.pg.betw (betw_four (Betw.refl Q (Q + 1) W) Q (Nat.le_refl _) (Nat.lt_succ_self _) _ _ _ _) (.inr (by have := h.qlo; omega)), (((h.out.other Q 0 _ hne).other Q 1 _ hne).other Q 2 _ hne).other Q 3 _ hne, fun g e => ⟨.inl (h.sep g e).1, (h.sep g e).2⟩, .inl h.qlo, h.qw, by simpa using h.hiw⟩, ⟨u0, u1, u2, u3, hq.cell 0 _ rfl, h1.cell 1 _ rfl, h2.cell 2 _ rfl, h3.cell 3 _ rfl⟩, hq.free⟩
theorem KT.push {w W W1 w' : World} {Q n : Nat} {M L : Int} {D : Nat → List Wy} {v v' : Value} {xs xs' : List Ac} {a : Option Addr} {c lo hi : Nat} (h : KT w W Q n M L D v xs a c lo hi) (h1 : Below W.heap.size W W1) (ho : OwnA w' w.heap.size v' xs') (hg : W1.grownBy w' v.ownBlock) (hb : v.ownBlock = v'.ownBlock ∨ v'.ownBlock = some W1.heap.size) : KT w w' Q n M L D v' xs' a c lo hi := by
  have hbl := h.bel.trans (h1.mono h.bel.size)
  have hqs := h.q.lt
  have h1s := h1.size
  have hhi := h.hiw
  refine ⟨Below.grown hbl hg hbl.size (fun g e => (h.out.lt g e).1), (h.q.below h1).grownNe hg (fun e => (h.sep Q e).2 rfl), (h.pg.below h1).grown hg (fun g e => (h.sep g e).1), ho, fun g e => ?_, h.qlo, h.qw, Nat.le_trans hhi (Nat.le_trans h1s hg.size)⟩
  rcases hb with c | c
  · exact h.sep g (by rw [c]; exact e)
  · rw [c] at e
    injection e with e
    exact ⟨.inr (by omega), by omega⟩
theorem ku_one {w W w2 : World} {Q n : Nat} {M L : Int} {D E : Nat → List Wy} {v : Value} {xs : List Ac} {a a2 : Option Addr} {c c2 lo hi : Nat} (h : KT w W Q n M L D v xs a c lo hi) (hb : Below W.heap.size W w2) (hp : ORows w2 W.heap.size w2.heap.size a2 n E) (T : TypeId) :
    KU w (w2.alloc (.cells #[.int .i64 n, .int .i64 M, .int .i64 L, .slice a2 n c2] T)) Q w2.heap.size n M L E v xs a2 c2 W.heap.size w2.heap.size := by
  have hbl := h.bel.trans (hb.mono h.bel.size)
  have hal : Below w2.heap.size w2 (w2.alloc (.cells #[.int .i64 n, .int .i64 M, .int .i64 L, .slice a2 n c2] T)) := (Below.refl _ _).alloc (Nat.le_refl _) _
  exact ⟨hbl.trans (hal.mono hbl.size), ⟨_, _, _, _, (h.q.below hb).below hal⟩, Bk.new _ _ T _ rfl, hp.below hal, (h.out.below hb).below hal, fun g e => ⟨(h.out.lt g e).2, (h.sep g e).2⟩, h.q.lt, h.qw, by simp⟩
theorem ku_two {w W w2 : World} {Q n : Nat} {M L : Int} {D E : Nat → List Wy} {v : Value} {xs : List Ac} {a a2 : Option Addr} {c c2 lo hi : Nat} {T : TypeId} (h : KT w W Q n M L D v xs a c lo hi) (hb : Below (W.heap.size + 1) (W.alloc (.cells #[.int .i64 0, .int .i64 0, .int .i64 0, .slice none 0 0] T)) w2) (hp : ORows w2 (W.heap.size + 1) w2.heap.size a2 n E) :
    KU w ((((w2.setCell ⟨W.heap.size, 0, none⟩ (.int .i64 n)).setCell ⟨W.heap.size, 1, none⟩ (.int .i64 M)).setCell ⟨W.heap.size, 2, none⟩ (.int .i64 L)).setCell ⟨W.heap.size, 3, none⟩ (.slice a2 n c2)) Q W.heap.size n M L E v xs a2 c2 (W.heap.size + 1) w2.heap.size ∧ (Bk w2 W.heap.size #[.int .i64 0, .int .i64 0, .int .i64 0, .slice none 0 0] ∧ Bk (w2.setCell ⟨W.heap.size, 0, none⟩ (.int .i64 n)) W.heap.size #[.int .i64 n, .int .i64 0, .int .i64 0, .slice none 0 0] ∧ Bk ((w2.setCell ⟨W.heap.size, 0, none⟩ (.int .i64 n)).setCell ⟨W.heap.size, 1, none⟩ (.int .i64 M)) W.heap.size #[.int .i64 n, .int .i64 M, .int .i64 0, .slice none 0 0] ∧ Bk (((w2.setCell ⟨W.heap.size, 0, none⟩ (.int .i64 n)).setCell ⟨W.heap.size, 1, none⟩ (.int .i64 M)).setCell ⟨W.heap.size, 2, none⟩ (.int .i64 L)) W.heap.size #[.int .i64 n, .int .i64 M, .int .i64 L, .slice none 0 0]) := by
  have hz : (W.alloc (.cells #[.int .i64 0, .int .i64 0, .int .i64 0, .slice none 0 0] T)).heap.size = W.heap.size + 1 := by simp
  have hal : Below W.heap.size W (W.alloc (.cells #[.int .i64 0, .int .i64 0, .int .i64 0, .slice none 0 0] T)) := (Below.refl _ _).alloc (Nat.le_refl _) _
  have hb' : Below (W.alloc (.cells #[.int .i64 0, .int .i64 0, .int .i64 0, .slice none 0 0] T)).heap.size (W.alloc (.cells #[.int .i64 0, .int .i64 0, .int .i64 0, .slice none 0 0] T)) w2 := by rw [hz]; exact hb
  have hk : Bk w2 W.heap.size #[.int .i64 0, .int .i64 0, .int .i64 0, .slice none 0 0] := (Bk.new W _ T _ rfl).below hb'
  have h2 : Below W.heap.size W w2 := hal.trans (hb'.mono (by omega))
  have hbl := h.bel.trans (h2.mono h.bel.size)
  have hQ := h.q.lt
  have hout := h.out.below h2
  have hne : v.ownBlock ≠ some W.heap.size := fun e => by have := (h.out.lt _ e).2; omega
  have hlew := h.bel.size
  have g1 := hk.set 0 (.int .i64 n) (by simp) rfl
  have g2 := g1.set 1 (.int .i64 M) (by simp) rfl
  have g3 := g2.set 2 (.int .i64 L) (by simp) rfl
  have g4 := g3.set 3 (.slice a2 n c2) (by simp) rfl
  refine ⟨⟨below_four hbl W.heap.size hlew _ _ _ _, ⟨_, _, _, _, ((((h.q.below h2).other W.heap.size 0 _ (by omega)).other W.heap.size 1 _ (by omega)).other W.heap.size 2 _ (by omega)).other W.heap.size 3 _ (by omega)⟩, g4, hp.betw (betw_four (Betw.refl W.heap.size (W.heap.size + 1) w2) W.heap.size (Nat.le_refl _) (Nat.lt_succ_self _) _ _ _ _) (.inr (Nat.le_refl _)), (((hout.other _ 0 _ hne).other _ 1 _ hne).other _ 2 _ hne).other _ 3 _ hne, fun g e => ⟨by have := (h.out.lt g e).2; omega, (h.sep g e).2⟩, by omega, h.qw, by simp⟩, hk, g1, g2, g3⟩
/-- A list of accesses is handed back, in memory of the call's own. -/
def APost (X : World) (xs : List Ac) (e : Ending) (w' : World) : Prop :=
  ∃ v, e = .returned v ∧ Below X.heap.size X w' ∧ OwnA w' X.heap.size v xs
theorem st4 {w : World} {b c i j0 j1 j2 j3 : Nat} {v u0 u1 u2 u3 : Value} (hne : b ≠ c) (h : w.cell? ⟨b, i, none⟩ = some v) : ((((w.setCell ⟨c, j0, none⟩ u0).setCell ⟨c, j1, none⟩ u1).setCell ⟨c, j2, none⟩ u2).setCell ⟨c, j3, none⟩ u3).cell? ⟨b, i, none⟩ = some v := st1 hne (st1 hne (st1 hne (st1 hne h)))
theorem dr {w : World} {p : Addr} {v : Value} (h : w.cell? p = some v) : w.drew.cell? p = some v := h
theorem kept_cell' {w w' : World} {b o B : Nat} {v : Value} (hb : Below B w w') (hlt : b < B) (h : w.cell? ⟨b, o, none⟩ = some v) : w'.cell? ⟨b, o, none⟩ = some v := (hb.cell (p := ⟨b, o, none⟩) hlt).trans h
set_option maxHeartbeats 8000000 in
set_option maxRecDepth 100000 in
theorem spec_crun (n M L : Nat) (a : Option Addr) (cap N : Nat) (us : List Wy) (w : World) (hs : WSeg w a us) (hl : us.length = N) (hp : CRunP n M L N us) :
    Calls Try.prog 7 #[shp n M L, .slice a N cap] w (APost w (accC n M L us N)) := by
  have hb0 : Below w.heap.size w ((w.alloc (shrow 25 n M L)).alloc (.cells #[] 57)) := ((Below.refl _ _).alloc (Nat.le_refl _) _).alloc (by simp) _
  have HS : Hid (WSeg w a us) := hs
  have HL : Hid _ := hl
  have HP : Hid (CRunP n M L N us) := hp
  have hn2 : N ≤ 2000 := hp.2.1
  have HE0 : Hid (OwnA ((w.alloc (shrow 25 n M L)).alloc (.cells #[] 57)) w.heap.size (.slice (some ⟨w.heap.size + 1, 0, none⟩) 0 0) []) := OwnA.low (OwnA.new _ (w.heap.size + 1) (by simp)) (by omega)
  have HK0 : Hid (Bk ((w.alloc (shrow 25 n M L)).alloc (.cells #[] 57)) w.heap.size #[.int .i64 n, .int .i64 M, .int .i64 L]) := (Bk.new w _ 25 _ rfl).alloc _
  have HB0 : Hid _ := hb0
  clear hs hl hb0 hp
  have hngt : ¬ ((2000 : Int) < (N : Int)) := by omega
  go_enter Try.func7, Try.ntmps7
  go_wp2_with fail
  refine Calls.mono (spec_shok (n : Int) (M : Int) (L : Int) _) ?_
  rintro u w0 ⟨rfl, hb1⟩
  rw [HP.out.1]
  have HE1 : Hid (OwnA w0 w.heap.size (.slice (some ⟨w.heap.size + 1, 0, none⟩) 0 0) []) := HE0.out.below hb1
  have HK1 : Hid _ := HK0.out.below hb1
  have HB1 : Hid _ := HB0.out.trans (hb1.mono HB0.out.size)
  clear hb1 HE0 HK0 HB0
  go_wp2
  go_loopw [6] (fun i wr => ∃ k : Nat, k ≤ N ∧ i = .int .i64 k ∧ wr = w0) (fun i _ => N - (intOf i).toNat)
  case atStart => exact ⟨0, by omega, rfl, rfl⟩
  case round =>
    obtain ⟨k, hk, rfl, rfl⟩ := hrel
    by_cases hlt : k < N
    · have hlt' : (k : Int) < (N : Int) := by omega
      obtain ⟨b1, o1, rfl, hbl1, e1, _⟩ := WSeg.at (w := w) HS.out k (by rw [HL.out]; exact hlt)
      replace e1 := kept_cell' HB1.out hbl1 e1
      have HZA : Hid _ := HP.out.2.2 k hlt
      generalize us.getD k wd = x at e1 HZA
      obtain ⟨z, dd⟩ := x
      simp only at e1 HZA
      clear hbl1
      go_wp2_with fail
      refine (in_any z 0 65535 _).mono ?_
      rintro u w4 ⟨rfl, rfl⟩
      rw [HZA.out]
      go_wp2
      go_roundw
      case rel => exact ⟨k + 1, by omega, by go_num, trivial⟩
      case measure => simp [intOf]; omega
    · obtain rfl : k = N := by omega
      clear hlt
      have s0 := HK1.out.cell 0 _ rfl
      have s1 := HK1.out.cell 1 _ rfl
      have s2 := HK1.out.cell 2 _ rfl
      go_wp2_with fail
      refine Calls.mono (spec_cem n (M : Int) (L : Int) _ HP.out.1) ?_
      rintro u w2 ⟨a2, c2, rfl, hb2, ho2⟩
      have hbw2 := HB1.out.trans (hb2.mono HB1.out.size)
      have hal : Below w2.heap.size w2 (w2.alloc (.cells #[.int .i64 n, .int .i64 M, .int .i64 L, .slice a2 n c2] 34)) := (Below.refl _ _).alloc (Nat.le_refl _) _
      have HI : Hid (KT w (w2.alloc (.cells #[.int .i64 n, .int .i64 M, .int .i64 L, .slice a2 n c2] 34)) w2.heap.size n M L noD (.slice (some ⟨w.heap.size + 1, 0, none⟩) 0 0) [] a2 c2 wr.heap.size w2.heap.size) := ⟨hbw2.trans (hal.mono hbw2.size), Bk.new _ _ 34 _ rfl, ho2.below hal, (HE1.out.below hb2).below hal, fun g e => ?_, .inr (Nat.le_refl _), by have := hbw2.size; omega, by simp⟩
      rotate_left
      · have := (HE1.out.lt g e).2
        have := hb2.size
        exact ⟨.inl (by omega), by omega⟩
      clear hb2 hbw2 hal ho2 s0 s1 s2
      go_wp2
      obtain ⟨iA, hi1, hi2, hi3, hi4⟩ := infoA'
      have HIN : Hid _ := And.intro hi1 (And.intro hi2 (And.intro hi3 hi4))
      clear hi1 hi2 hi3 hi4
      obtain ⟨w3, HW3⟩ : ∃ w3, Hid (w3 = w2.alloc (.cells #[.int .i64 n, .int .i64 M, .int .i64 L, .slice a2 n c2] 34)) := ⟨_, rfl⟩
      rw [← HW3.out] at HI ⊢
      obtain ⟨Q, HQ⟩ : ∃ Q, Hid (w2.heap.size = Q) := ⟨_, rfl⟩
      rw [HQ.out] at HI ⊢
      go_loopw [5, 8] (fun v i wr => ∃ j : Nat, j ≤ k ∧ i = .int .i64 j ∧ Hid (∃ a c lo hi, KT w wr Q n M L (runC n M L us j) v (accC n M L us j) a c lo hi)) (fun _ i _ => k - (intOf i).toNat)
      case atStart => exact ⟨0, by omega, rfl, _, _, _, _, HI.out⟩
      case round =>
        obtain ⟨j, hj, rfl, HR⟩ := hrel
        clear HI HW3 HQ HE1
        by_cases hjk : j < k
        rotate_left
        · obtain rfl : j = k := by omega
          go_wp2
          go_ret
          obtain ⟨a9, c9, lo, hi, hrt⟩ := HR.out
          exact ⟨_, rfl, hrt.bel, hrt.out⟩
        have hjk' : (j : Int) < (k : Int) := by omega
        obtain ⟨a9, c9, lo, hi, hrt⟩ := HR.out
        obtain ⟨b1, o1, rfl, hbl1, e1, e2⟩ := WSeg.at (w := w) HS.out j (by rw [HL.out]; exact hjk)
        replace e1 := kept_cell' hrt.bel hbl1 e1
        replace e2 := kept_cell' hrt.bel hbl1 e2
        have hin := of_inr (HP.out.2.2 j hjk)
        have HOK : Hid (CacheOkP (n : Int) (M : Int) (L : Int) n (runC n M L us j)) := runC_ok HP.out.1 (fun i hi => HP.out.2.2 i (by omega))
        have HRC : Hid (runC n M L us (j + 1) = useD (hhA n L us j) M (ttA n L us j) (us.getD j wd).2 (runC n M L us j)) := rfl
        have HHT : Hid (accC n M L us (j + 1) = accC n M L us j ++ [(usedHit (runC n M L us j (hhA n L us j)) (ttA n L us j), false, usedBack M (runC n M L us j (hhA n L us j)) (ttA n L us j) (us.getD j wd).2)]) := accC_succ n M L us j
        have HHL : Hid _ := accC_len n M L us j
        have HHA : Hid (hhA n L us j = ((us.getD j wd).1.toNat / L) % n ∧ ttA n L us j = (((us.getD j wd).1.toNat / L / n : Nat) : Int)) := ⟨rfl, rfl⟩
        generalize us.getD j wd = x at e1 e2 hin HRC HHT HHA
        obtain ⟨z, qw⟩ := x
        simp only at e1 e2 hin HRC HHT HHA
        obtain ⟨m, rfl⟩ : ∃ m : Nat, z = (m : Int) := ⟨z.toNat, by omega⟩
        have HM : Hid (m ≤ 65535) := by show _ ≤ _; omega
        have HHA2 : Hid (m / L % n = hhA n L us j ∧ ((m / L / n : Nat) : Int) = ttA n L us j) := ⟨HHA.out.1.symm, HHA.out.2.symm⟩
        generalize hhA n L us j = h at HRC HHT HHA2 HHA
        generalize ttA n L us j = t at HRC HHT HHA2 HHA
        clear hin hbl1 HHA
        generalize runC n M L us j = D at hrt HR HRC HHT HOK
        generalize accC n M L us j = hs at hrt HR HHT HHL
        obtain ⟨qh, HQH⟩ : ∃ qh, Hid (usedHit (D h) t = qh) := ⟨_, rfl⟩
        obtain ⟨qb, HQB⟩ : ∃ qb, Hid (usedBack M (D h) t qw = qb) := ⟨_, rfl⟩
        rw [HQH.out, HQB.out] at HHT
        have HKT : Hid (KT w wr Q n M L D u5 hs a9 c9 lo hi) := hrt
        have c0 : wr.cell? ⟨Q, 0, none⟩ = some (.int .i64 n) := hrt.q.cell 0 _ rfl
        have c1 : wr.cell? ⟨Q, 1, none⟩ = some (.int .i64 M) := hrt.q.cell 1 _ rfl
        have c2' : wr.cell? ⟨Q, 2, none⟩ = some (.int .i64 L) := hrt.q.cell 2 _ rfl
        have c3 : wr.cell? ⟨Q, 3, none⟩ = some (.slice a9 n c9) := hrt.q.cell 3 _ rfl
        have HC : Hid (∀ X, Below wr.heap.size wr X → Calls Try.prog 24 #[cch (n : Int) (M : Int) (L : Int) (.slice a9 n c9), .int .i64 (m : Int), .bool qw] X fun e w' => ∃ a' c', e = .returned (.tuple #[cch (n : Int) (M : Int) (L : Int) (.slice a' n c'), .bool qh, .bool qb]) ∧ Below X.heap.size X w' ∧ ORows w' X.heap.size w'.heap.size a' n (useD h M t qw D)) := fun X hX => by
          have hh := spec_use n M L m qw a9 c9 D X (HKT.out.pg.seg.below hX) HOK.out HM.out h t HHA2.out.1 HHA2.out.2
          rw [HQH.out, HQB.out] at hh
          exact hh
        rw [← HRC.out] at HC
        obtain ⟨E2, HE2⟩ : ∃ E2, Hid (E2 = runC n M L us (j + 1)) := ⟨_, rfl⟩
        rw [← HE2.out] at HC
        have HNE : Hid (Q ≠ wr.heap.size ∧ b1 ≠ wr.heap.size) := ⟨by have := HKT.out.q.lt; omega, by have := World.block_lt_of_cell? wr _ e1; exact fun c => by simp at this; omega⟩
        have halx : Below wr.heap.size wr (wr.alloc (.cells #[.int .i64 0, .int .i64 0, .int .i64 0, .slice none 0 0] 34)) := (Below.refl _ _).alloc (Nat.le_refl _) _
        have HALX : Hid _ := halx
        clear halx hrt HR
        go_wp2
        go_region_held_law (fun w' => w'.cell? ⟨Q, 0, none⟩ = some (.int .i64 n) ∧ w'.cell? ⟨Q, 1, none⟩ = some (.int .i64 M) ∧ w'.cell? ⟨Q, 2, none⟩ = some (.int .i64 L) ∧ w'.cell? ⟨Q, 3, none⟩ = some (.slice a9 n c9) ∧ w'.cell? ⟨b1, o1 + j * 2, none⟩ = some (.int .i64 (m : Int)) ∧ w'.cell? ⟨b1, o1 + j * 2 + 1, none⟩ = some (.bool qw)) (first | (with_reducible exact ⟨c0, c1, c2', c3, e1, e2⟩) | (with_reducible exact ⟨dr c0, dr c1, dr c2', dr c3, dr e1, dr e2⟩) | (with_reducible exact ⟨al1 _ c0, al1 _ c1, al1 _ c2', al1 _ c3, al1 _ e1, al1 _ e2⟩) | (with_reducible exact ⟨dr (al1 _ c0), dr (al1 _ c1), dr (al1 _ c2'), dr (al1 _ c3), dr (al1 _ e1), dr (al1 _ e2)⟩) | (with_reducible exact ⟨st4 HNE.out.1 c0, st4 HNE.out.1 c1, st4 HNE.out.1 c2', st4 HNE.out.1 c3, st4 HNE.out.2 e1, st4 HNE.out.2 e2⟩) | exact ⟨st4 HNE.out.1 c0, st4 HNE.out.1 c1, st4 HNE.out.1 c2', st4 HNE.out.1 c3, st4 HNE.out.2 e1, st4 HNE.out.2 e2⟩ | exact ⟨c0, c1, c2', c3, e1, e2⟩)
          (first
            | (go_at_call 24; refine Calls.mono (HC.out _ (Below.refl _ _).drew) ?_; rintro u w6 ⟨a6, c6, rfl, hbb, hpg⟩; have hb6 : Below wr.heap.size wr w6 := (Below.refl _ _).drew.trans hbb; have HU : Hid (KU w (w6.alloc (.cells #[.int .i64 n, .int .i64 M, .int .i64 L, .slice a6 n c6] 34)) Q w6.heap.size n M L E2 u5 hs a6 c6 wr.heap.size w6.heap.size) := ku_one HKT.out hb6 hpg 34; replace c0 := kept_cell hb6 c0; replace c1 := kept_cell hb6 c1; replace c2' := kept_cell hb6 c2'; replace c3 := kept_cell hb6 c3; replace e1 := kept_cell hb6 e1; replace e2 := kept_cell hb6 e2; clear hbb hpg hb6)
            | (go_at_call 24; refine Calls.mono (HC.out _ HALX.out.drew) ?_; rintro u w6 ⟨a6, c6, rfl, hbb, hpg⟩; have hb6 : Below (wr.alloc (.cells #[.int .i64 0, .int .i64 0, .int .i64 0, .slice none 0 0] 34)).heap.size (wr.alloc (.cells #[.int .i64 0, .int .i64 0, .int .i64 0, .slice none 0 0] 34)) w6 := (Below.refl _ _).drew.trans hbb; have hru := ku_two (c2 := c6) HKT.out (World.size_alloc _ _ ▸ hb6) (World.size_alloc _ _ ▸ hpg); have HU : Hid (KU w ((((w6.setCell ⟨wr.heap.size, 0, none⟩ (.int .i64 n)).setCell ⟨wr.heap.size, 1, none⟩ (.int .i64 M)).setCell ⟨wr.heap.size, 2, none⟩ (.int .i64 L)).setCell ⟨wr.heap.size, 3, none⟩ (.slice a6 n c6)) Q wr.heap.size n M L E2 u5 hs a6 c6 (wr.heap.size + 1) w6.heap.size) := hru.1; have z0 := hru.2.1.cell 0 _ rfl; have z1 := hru.2.2.1.cell 1 _ rfl; have z2 := hru.2.2.2.1.cell 2 _ rfl; have z3 := hru.2.2.2.2.cell 3 _ rfl; have zf := hru.2.1.free; replace c0 := kept_cell hb6 (al1 _ c0); replace c1 := kept_cell hb6 (al1 _ c1); replace c2' := kept_cell hb6 (al1 _ c2'); replace c3 := kept_cell hb6 (al1 _ c3); replace e1 := kept_cell hb6 (al1 _ e1); replace e2 := kept_cell hb6 (al1 _ e2); clear hbb hpg hb6 hru))
        · clear c0 c1 c2' c3 e1 e2
          generalize w6.alloc (.cells #[.int .i64 n, .int .i64 M, .int .i64 L, .slice a6 n c6] 34) = X at HU ⊢
          generalize w6.heap.size = P at HU ⊢
          have g0 := HU.out.p.cell 0 _ rfl
          have g1 := HU.out.p.cell 1 _ rfl
          have g2 := HU.out.p.cell 2 _ rfl
          have g3 := HU.out.p.cell 3 _ rfl
          obtain ⟨hrt, ⟨v0, v1, v2, v3, y0, y1, y2, y3⟩, yf⟩ := HU.out.end
          have hal : Below ((((X.setCell ⟨Q, 0, none⟩ (.int .i64 n)).setCell ⟨Q, 1, none⟩ (.int .i64 M)).setCell ⟨Q, 2, none⟩ (.int .i64 L)).setCell ⟨Q, 3, none⟩ (.slice a6 n c6)).heap.size ((((X.setCell ⟨Q, 0, none⟩ (.int .i64 n)).setCell ⟨Q, 1, none⟩ (.int .i64 M)).setCell ⟨Q, 2, none⟩ (.int .i64 L)).setCell ⟨Q, 3, none⟩ (.slice a6 n c6)) (((((X.setCell ⟨Q, 0, none⟩ (.int .i64 n)).setCell ⟨Q, 1, none⟩ (.int .i64 M)).setCell ⟨Q, 2, none⟩ (.int .i64 L)).setCell ⟨Q, 3, none⟩ (.slice a6 n c6)).alloc (.cells #[.bool qh, .bool false, .bool qb] 57)) := (Below.refl _ _).alloc (Nat.le_refl _) _
          have hown7 : (((((X.setCell ⟨Q, 0, none⟩ (.int .i64 n)).setCell ⟨Q, 1, none⟩ (.int .i64 M)).setCell ⟨Q, 2, none⟩ (.int .i64 L)).setCell ⟨Q, 3, none⟩ (.slice a6 n c6)).alloc (.cells #[.bool qh, .bool false, .bool qb] 57)).ownsRow w.heap.size 57 3 u5 hs.length (acCells hs) := World.ownsRow.alloc hrt.out _
          have HBS : Hid (w.heap.size ≤ (((((X.setCell ⟨Q, 0, none⟩ (.int .i64 n)).setCell ⟨Q, 1, none⟩ (.int .i64 M)).setCell ⟨Q, 2, none⟩ (.int .i64 L)).setCell ⟨Q, 3, none⟩ (.slice a6 n c6)).alloc (.cells #[.bool qh, .bool false, .bool qb] 57)).heap.size) := Nat.le_trans hrt.bel.size hal.size
          have HZ : Hid (∀ (gg cap1 : Nat) (w9 : World), w9.ownsRow w.heap.size 57 3 (.slice (some ⟨gg, 0, none⟩) (hs.length + 1) cap1) (hs.length + 1) (acCells hs ++ [.bool qh, .bool false, .bool qb]) → (((((X.setCell ⟨Q, 0, none⟩ (.int .i64 n)).setCell ⟨Q, 1, none⟩ (.int .i64 M)).setCell ⟨Q, 2, none⟩ (.int .i64 L)).setCell ⟨Q, 3, none⟩ (.slice a6 n c6)).alloc (.cells #[.bool qh, .bool false, .bool qb] 57)).grownBy w9 u5.ownBlock → (u5.ownBlock = some gg ∨ gg = (((((X.setCell ⟨Q, 0, none⟩ (.int .i64 n)).setCell ⟨Q, 1, none⟩ (.int .i64 M)).setCell ⟨Q, 2, none⟩ (.int .i64 L)).setCell ⟨Q, 3, none⟩ (.slice a6 n c6)).alloc (.cells #[.bool qh, .bool false, .bool qb] 57)).heap.size) → ∃ a c lo hi, KT w w9 Q n M L (runC n M L us (j + 1)) (.slice (some ⟨gg, 0, none⟩) (hs.length + 1) cap1) (accC n M L us (j + 1)) a c lo hi) := fun gg cap1 w9 h1 h2 h3 => by
            refine ⟨_, _, _, _, HE2.out ▸ KT.push hrt hal (by rw [HHT.out]; exact OwnA.snoc (x := (qh, false, qb)) h1) h2 ?_⟩
            rcases h3 with h3 | h3
            · exact .inl h3
            · exact .inr (by rw [h3]; rfl)
          have hsl : hs.length ≤ 2000 := by have := HHL.out; omega
          clear hrt hal
          go_wp2_with (at_builtin; (refine wpList_append_lies _ rfl (.tmp 61) (.tmp 65) 30 rfl w.heap.size 57 iA (.agg #[.bool false, .bool false, .bool false]) 3 3 Try.underlying30 HIN.out.1 HIN.out.2.1 HIN.out.2.2.1 HIN.out.2.2.2 rfl (by omega) _ _ _ rfl hown7 _ 1 1 [.bool qh, .bool false, .bool qb] rfl rfl (news_acc _ (qh, false, qb) _ (by simp)) (one_acc (qh, false, qb)) (by omega) (by unfold maxLen; omega) (by omega) HBS.out _ rfl ?_; intro gg cap1 w9 hown1 hgrow hat hlt1; have HYY : Hid _ := HZ.out gg cap1 w9 hown1 hgrow hat; clear hown1 hgrow hat hlt1))
          go_roundw
          case rel => exact ⟨j + 1, by omega, by go_num, HYY⟩
          case measure => simp [intOf]; omega
        · clear c0 c1 c2' c3 e1 e2 z0 z1 z2 z3 zf
          generalize wr.heap.size = P at HU ⊢
          generalize ((((w6.setCell ⟨P, 0, none⟩ (.int .i64 n)).setCell ⟨P, 1, none⟩ (.int .i64 M)).setCell ⟨P, 2, none⟩ (.int .i64 L)).setCell ⟨P, 3, none⟩ (.slice a6 n c6)) = X at HU ⊢
          have g0 := HU.out.p.cell 0 _ rfl
          have g1 := HU.out.p.cell 1 _ rfl
          have g2 := HU.out.p.cell 2 _ rfl
          have g3 := HU.out.p.cell 3 _ rfl
          obtain ⟨hrt, ⟨v0, v1, v2, v3, y0, y1, y2, y3⟩, yf⟩ := HU.out.end
          have hal : Below ((((X.setCell ⟨Q, 0, none⟩ (.int .i64 n)).setCell ⟨Q, 1, none⟩ (.int .i64 M)).setCell ⟨Q, 2, none⟩ (.int .i64 L)).setCell ⟨Q, 3, none⟩ (.slice a6 n c6)).heap.size ((((X.setCell ⟨Q, 0, none⟩ (.int .i64 n)).setCell ⟨Q, 1, none⟩ (.int .i64 M)).setCell ⟨Q, 2, none⟩ (.int .i64 L)).setCell ⟨Q, 3, none⟩ (.slice a6 n c6)) (((((X.setCell ⟨Q, 0, none⟩ (.int .i64 n)).setCell ⟨Q, 1, none⟩ (.int .i64 M)).setCell ⟨Q, 2, none⟩ (.int .i64 L)).setCell ⟨Q, 3, none⟩ (.slice a6 n c6)).alloc (.cells #[.bool qh, .bool false, .bool qb] 57)) := (Below.refl _ _).alloc (Nat.le_refl _) _
          have hown7 : (((((X.setCell ⟨Q, 0, none⟩ (.int .i64 n)).setCell ⟨Q, 1, none⟩ (.int .i64 M)).setCell ⟨Q, 2, none⟩ (.int .i64 L)).setCell ⟨Q, 3, none⟩ (.slice a6 n c6)).alloc (.cells #[.bool qh, .bool false, .bool qb] 57)).ownsRow w.heap.size 57 3 u5 hs.length (acCells hs) := World.ownsRow.alloc hrt.out _
          have HBS : Hid (w.heap.size ≤ (((((X.setCell ⟨Q, 0, none⟩ (.int .i64 n)).setCell ⟨Q, 1, none⟩ (.int .i64 M)).setCell ⟨Q, 2, none⟩ (.int .i64 L)).setCell ⟨Q, 3, none⟩ (.slice a6 n c6)).alloc (.cells #[.bool qh, .bool false, .bool qb] 57)).heap.size) := Nat.le_trans hrt.bel.size hal.size
          have HZ : Hid (∀ (gg cap1 : Nat) (w9 : World), w9.ownsRow w.heap.size 57 3 (.slice (some ⟨gg, 0, none⟩) (hs.length + 1) cap1) (hs.length + 1) (acCells hs ++ [.bool qh, .bool false, .bool qb]) → (((((X.setCell ⟨Q, 0, none⟩ (.int .i64 n)).setCell ⟨Q, 1, none⟩ (.int .i64 M)).setCell ⟨Q, 2, none⟩ (.int .i64 L)).setCell ⟨Q, 3, none⟩ (.slice a6 n c6)).alloc (.cells #[.bool qh, .bool false, .bool qb] 57)).grownBy w9 u5.ownBlock → (u5.ownBlock = some gg ∨ gg = (((((X.setCell ⟨Q, 0, none⟩ (.int .i64 n)).setCell ⟨Q, 1, none⟩ (.int .i64 M)).setCell ⟨Q, 2, none⟩ (.int .i64 L)).setCell ⟨Q, 3, none⟩ (.slice a6 n c6)).alloc (.cells #[.bool qh, .bool false, .bool qb] 57)).heap.size) → ∃ a c lo hi, KT w w9 Q n M L (runC n M L us (j + 1)) (.slice (some ⟨gg, 0, none⟩) (hs.length + 1) cap1) (accC n M L us (j + 1)) a c lo hi) := fun gg cap1 w9 h1 h2 h3 => by
            refine ⟨_, _, _, _, HE2.out ▸ KT.push hrt hal (by rw [HHT.out]; exact OwnA.snoc (x := (qh, false, qb)) h1) h2 ?_⟩
            rcases h3 with h3 | h3
            · exact .inl h3
            · exact .inr (by rw [h3]; rfl)
          have hsl : hs.length ≤ 2000 := by have := HHL.out; omega
          clear hrt hal
          go_wp2_with (at_builtin; (refine wpList_append_lies _ rfl (.tmp 61) (.tmp 65) 30 rfl w.heap.size 57 iA (.agg #[.bool false, .bool false, .bool false]) 3 3 Try.underlying30 HIN.out.1 HIN.out.2.1 HIN.out.2.2.1 HIN.out.2.2.2 rfl (by omega) _ _ _ rfl hown7 _ 1 1 [.bool qh, .bool false, .bool qb] rfl rfl (news_acc _ (qh, false, qb) _ (by simp)) (one_acc (qh, false, qb)) (by omega) (by unfold maxLen; omega) (by omega) HBS.out _ rfl ?_; intro gg cap1 w9 hown1 hgrow hat hlt1; have HYY : Hid _ := HZ.out gg cap1 w9 hown1 hgrow hat; clear hown1 hgrow hat hlt1))
          go_roundw
          case rel => exact ⟨j + 1, by omega, by go_num, HYY⟩
          case measure => simp [intOf]; omega
end Go.Proofs.Ytmbpmhmehiiiaaa
