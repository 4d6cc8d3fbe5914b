
/-
  Many uses of a table of pages, one after another: the specification's own function; both sides alike. Conditions: the addresses read as integers, at most 1048576 of them.
-/
import Derived.Test.YtdjfijkgmeapdaaProg
import Derived.Test.YtdjfijkgmeapdaaTri
import Derived.Test.YtdjfijkgmeapdaaTem
namespace Go.Proofs.Ytdjfijkgmeapdaa
open Go.ChangeShapes Go.WideShapes Go.ChangeAt Go.RowKit Go.Deep
set_option linter.unusedVariables false

theorem OI.grown {w w' : World} {lo hi : Nat} {a : Option Addr} {zs : List Int} {row : Option Nat} (h : OI w lo hi a zs) (hg : w.grownBy w' row) (hr : ∀ g, row = some g → g < lo ∨ hi ≤ g) : OI w' lo hi a zs := fun h0 => by
  obtain ⟨B, off, e, h1, h2, hlt, hc, hf⟩ := h h0
  have hb := hg.block B hlt (fun e => by have := hr B e.symm; omega)
  exact ⟨B, off, e, h1, h2, Nat.lt_of_lt_of_le hlt hg.size, fun i hi => (World.cell?_of_block (a := ⟨B, off + i, none⟩) hb).trans (hc i hi), fun i hi => (World.frozen?_of_block (a := ⟨B, off + i, none⟩) hb).trans (hf i hi)⟩
theorem OwnB.other {w : World} {base : Nat} {v : Value} {bs : List Bool} (h : OwnB w base v bs) (b i : Nat) (u : Value) (hne : v.ownBlock ≠ some b) : OwnB (w.setCell ⟨b, i, none⟩ u) base v bs := by
  refine ⟨h.1, ?_⟩
  rcases h.2 with hn | ⟨g, cap, cur, e, hbs, hg, rest⟩
  · exact .inl hn
  · subst e
    have hgb : g ≠ b := fun e => hne (by rw [e]; rfl)
    exact .inr ⟨g, cap, cur, rfl, hbs, by rw [Below.heap_setCell _ _ _ _ hgb]; exact hg, rest⟩
theorem OwnB.lt {w : World} {base : Nat} {v : Value} {bs : List Bool} (h : OwnB w base v bs) : ∀ g, v.ownBlock = some g → base ≤ g ∧ g < w.heap.size := fun g e => by
  rcases h.2 with ⟨h0, _⟩ | ⟨g', cap, cur, rfl, hbs, hg, rest⟩
  · subst h0; cases e
  · simp only [Value.ownBlock, Option.some.injEq] at e
    subst e
    refine ⟨hbs, ?_⟩
    rcases Nat.lt_or_ge g' w.heap.size with hlt | hge
    · exact hlt
    · rw [Array.getElem?_eq_none hge] at hg; cases hg
/-- The table in its variable 'Q', its pages from 'lo' on and below 'hi', and the list of answers so far. -/
structure RT (w W : World) (Q : Nat) (s : Int) (L : List Int) (v : Value) (bs : List Bool) (a : Option Addr) (c lo hi : Nat) : Prop where
  bel : Below w.heap.size w W
  q : Bk W Q #[.int .i64 s, .slice a L.length c]
  pg : OI W lo hi a L
  out : OwnB W w.heap.size v bs
  sep : ∀ g, v.ownBlock = some g → (g < lo ∨ hi ≤ g) ∧ g ≠ Q
  qlo : Q < lo ∨ hi ≤ Q
  qw : w.heap.size ≤ Q
  hiw : hi ≤ W.heap.size
/-- A use has been made, its table lies in 'P'; the table's own variable is not written yet. -/
structure RU (w W : World) (Q P : Nat) (s : Int) (L : List Int) (v : Value) (bs : List Bool) (a : Option Addr) (c lo hi : Nat) : Prop where
  bel : Below w.heap.size w W
  q : ∃ u0 u1, Bk W Q #[u0, u1]
  p : Bk W P #[.int .i64 s, .slice a L.length c]
  pg : OI W lo hi a L
  out : OwnB W w.heap.size v bs
  sep : ∀ g, v.ownBlock = some g → g < lo ∧ g ≠ Q
  qlo : Q < lo
  qw : w.heap.size ≤ Q
  hiw : hi ≤ W.heap.size
theorem RU.end {w W : World} {Q P : Nat} {s : Int} {L : List Int} {v : Value} {bs : List Bool} {a : Option Addr} {c lo hi : Nat} (h : RU w W Q P s L v bs a c lo hi) :
    RT w ((W.setCell ⟨Q, 0, none⟩ (.int .i64 s)).setCell ⟨Q, 1, none⟩ (.slice a L.length c)) Q s L v bs a c lo hi ∧ (∃ u0 u1, W.cell? ⟨Q, 0, none⟩ = some u0 ∧ (W.setCell ⟨Q, 0, none⟩ (.int .i64 s)).cell? ⟨Q, 1, none⟩ = some u1) ∧ ∀ i, W.frozen? ⟨Q, i, none⟩ = false := by
  obtain ⟨u0, u1, hq⟩ := h.q
  have h1 := hq.set 0 (.int .i64 s) (by simp) rfl
  have h2 := h1.set 1 (.slice a L.length c) (by simp) rfl
  refine ⟨⟨(h.bel.setCell (p := ⟨Q, 0, none⟩) h.qw _).setCell (p := ⟨Q, 1, none⟩) h.qw _, h2, ?_, ?_, fun g e => ⟨.inl (h.sep g e).1, (h.sep g e).2⟩, .inl h.qlo, h.qw, by simpa using h.hiw⟩, ⟨u0, u1, hq.cell 0 _ rfl, h1.cell 1 _ rfl⟩, hq.free⟩
  · exact OI.betw (l' := Q) (h' := Q + 1) h.pg (((Betw.refl _ _ W).setCell (p := ⟨Q, 0, none⟩) (Nat.le_refl _) (Nat.lt_succ_self _) _).setCell (p := ⟨Q, 1, none⟩) (Nat.le_refl _) (Nat.lt_succ_self _) _) (.inr (by have := h.qlo; omega))
  · exact (h.out.other Q 0 _ (fun e => (h.sep Q e).2 rfl)).other Q 1 _ (fun e => (h.sep Q e).2 rfl)
theorem RT.push {w W W1 w' : World} {Q : Nat} {s : Int} {L : List Int} {v v' : Value} {bs bs' : List Bool} {a : Option Addr} {c lo hi : Nat} (h : RT w W Q s L v bs a c lo hi) (h1 : Below W.heap.size W W1) (ho : OwnB w' w.heap.size v' bs') (hg : W1.grownBy w' v.ownBlock) (hb : v.ownBlock = v'.ownBlock ∨ v'.ownBlock = some W1.heap.size) : RT w w' Q s L v' bs' a c lo hi := by
  have hbl := h.bel.trans (h1.mono h.bel.size)
  have hqs := h.q.lt
  have h1s := h1.size
  have hhi := h.hiw
  refine ⟨Below.grown hbl hg hbl.size (fun g e => (h.out.lt g e).1), (h.q.below h1).grownNe hg (fun e => (h.sep Q e).2 rfl), OI.grown (OI.below h.pg h1) hg (fun g e => (h.sep g e).1), ho, fun g e => ?_, h.qlo, h.qw, Nat.le_trans hhi (Nat.le_trans h1s hg.size)⟩
  rcases hb with c | c
  · exact h.sep g (by rw [c]; exact e)
  · rw [c] at e
    injection e with e
    exact ⟨.inr (by omega), by omega⟩
theorem ru_one {w W w2 : World} {Q : Nat} {s : Int} {L L2 : List Int} {v : Value} {bs : List Bool} {a a2 : Option Addr} {c c2 lo hi : Nat} (h : RT w W Q s L v bs a c lo hi) (hb : Below W.heap.size W w2) (hp : OI w2 W.heap.size w2.heap.size a2 L2) (T : TypeId) :
    RU w (w2.alloc (.cells #[.int .i64 s, .slice a2 L2.length c2] T)) Q w2.heap.size s L2 v bs a2 c2 W.heap.size w2.heap.size := by
  have hbl := h.bel.trans (hb.mono h.bel.size)
  have hal : Below w2.heap.size w2 (w2.alloc (.cells #[.int .i64 s, .slice a2 L2.length c2] T)) := (Below.refl _ _).alloc (Nat.le_refl _) _
  exact ⟨hbl.trans (hal.mono hbl.size), ⟨_, _, (h.q.below hb).below hal⟩, Bk.new _ _ T _ rfl, OI.below hp hal, (h.out.below hb).below hal, fun g e => ⟨(h.out.lt g e).2, (h.sep g e).2⟩, h.q.lt, h.qw, by simp⟩
theorem ru_two {w W w2 : World} {Q : Nat} {s : Int} {L L2 : List Int} {v : Value} {bs : List Bool} {a a2 : Option Addr} {c c2 lo hi : Nat} {T : TypeId} (h : RT w W Q s L v bs a c lo hi) (hb : Below (W.heap.size + 1) (W.alloc (.cells #[.int .i64 0, .slice none 0 0] T)) w2) (hp : OI w2 (W.heap.size + 1) w2.heap.size a2 L2) :
    RU w ((w2.setCell ⟨W.heap.size, 0, none⟩ (.int .i64 s)).setCell ⟨W.heap.size, 1, none⟩ (.slice a2 L2.length c2)) Q W.heap.size s L2 v bs a2 c2 (W.heap.size + 1) w2.heap.size ∧ Bk w2 W.heap.size #[.int .i64 0, .slice none 0 0] := by
  have hz : (W.alloc (.cells #[.int .i64 0, .slice none 0 0] T)).heap.size = W.heap.size + 1 := by simp
  have hal : Below W.heap.size W (W.alloc (.cells #[.int .i64 0, .slice none 0 0] T)) := (Below.refl _ _).alloc (Nat.le_refl _) _
  have hb' : Below (W.alloc (.cells #[.int .i64 0, .slice none 0 0] T)).heap.size (W.alloc (.cells #[.int .i64 0, .slice none 0 0] T)) w2 := by rw [hz]; exact hb
  have hk : Bk w2 W.heap.size #[.int .i64 0, .slice none 0 0] := (Bk.new W _ T _ rfl).below hb'
  have h2 : Below W.heap.size W w2 := hal.trans (hb'.mono (by omega))
  have hbl := h.bel.trans (h2.mono h.bel.size)
  have hQ := h.q.lt
  have hout := h.out.below h2
  have hne : v.ownBlock ≠ some W.heap.size := fun e => by have := (h.out.lt _ e).2; omega
  have hlew := h.bel.size
  refine ⟨⟨(hbl.setCell (p := ⟨W.heap.size, 0, none⟩) hlew _).setCell (p := ⟨W.heap.size, 1, none⟩) hlew _, ⟨_, _, ((h.q.below h2).other W.heap.size 0 _ (by omega)).other W.heap.size 1 _ (by omega)⟩, (hk.set 0 _ (by simp) rfl).set 1 _ (by simp) rfl, ?_, (hout.other _ 0 _ hne).other _ 1 _ hne, fun g e => ⟨by have := (h.out.lt g e).2; omega, (h.sep g e).2⟩, by omega, h.qw, by simp⟩, hk⟩
  exact OI.betw (l' := W.heap.size) (h' := W.heap.size + 1) hp (((Betw.refl _ _ w2).setCell (p := ⟨W.heap.size, 0, none⟩) (Nat.le_refl _) (Nat.lt_succ_self _) _).setCell (p := ⟨W.heap.size, 1, none⟩) (Nat.le_refl _) (Nat.lt_succ_self _) _) (.inr (Nat.le_refl _))
set_option maxHeartbeats 4000000 in
set_option maxRecDepth 100000 in
theorem spec_run (s : Int) (a : Option Addr) (cap n : Nat) (zs : List Int) (w : World) (hs : Seg .i64 w a zs) (hl : zs.length = n) (hn : n ≤ 1048576) (bs : List Bool) (hy : RunP s n zs → bs = hitsT s zs n) (hno : ¬ RunP s n zs → bs = []) :
    Calls Try.prog 7 #[.int .i64 s, .slice a n cap] w (BPost w bs) := by
  have hb0 : Below w.heap.size w (w.alloc (.cells #[] 4)) := (Below.refl _ _).alloc (Nat.le_refl _) _
  have HS : Hid (Seg .i64 w a zs) := hs
  have HL : Hid _ := hl
  have HY : Hid (RunP s n zs → bs = hitsT s zs n) := hy
  have HNO : Hid (¬ RunP s n zs → bs = []) := hno
  have HE0 : Hid (OwnB (w.alloc (.cells #[] 4)) w.heap.size (.slice (some ⟨w.heap.size, 0, none⟩) 0 0) []) := OwnB.new w _ rfl
  have HB0 : Hid _ := hb0
  clear hs hl hy hno hb0
  obtain ⟨sz, HSZ⟩ : ∃ sz, Hid (inr s 1 8 = sz) := ⟨_, rfl⟩
  go_enter Try.func7, Try.ntmps7
  go_wp2_with fail
  refine (in_any s 1 8 _).mono ?_
  rintro u w1 ⟨rfl, rfl⟩
  rw [HSZ.out]
  cases sz
  · have HF : Hid (bs = []) := HNO.out (fun h => by have h1 := h.1; rw [HSZ.out] at h1; cases h1)
    go_wp2
    go_ret
    exact ⟨_, rfl, HB0.out, by rw [HF.out]; exact HE0.out⟩
  by_cases hn2 : n ≤ 2000
  rotate_left
  · have hgt : (2000 : Int) < (n : Int) := by omega
    have HF : Hid (bs = []) := HNO.out (fun h => hn2 h.2.1)
    go_wp2
    go_ret
    exact ⟨_, rfl, HB0.out, by rw [HF.out]; exact HE0.out⟩
  have hngt : ¬ ((2000 : Int) < (n : Int)) := by omega
  go_wp2
  generalize w.alloc (.cells #[] 4) = w0 at HE0 HB0
  go_loopw [6] (fun i wr => ∃ k : Nat, k ≤ n ∧ i = .int .i64 k ∧ wr = w0 ∧ Hid (∀ j, j < k → inr (zs.getD j 0) 0 65535 = true)) (fun i _ => n - (intOf i).toNat)
  case atStart => exact ⟨0, by omega, rfl, rfl, fun j hj => absurd hj (by omega)⟩
  case round =>
    obtain ⟨k, hk, rfl, rfl, HJ⟩ := hrel
    by_cases hlt : k < n
    · have hlt' : (k : Int) < (n : Int) := by omega
      obtain ⟨b1, o1, rfl, hbl1, e1⟩ := Seg.at (w := w) HS.out k (by rw [HL.out]; exact hlt)
      replace e1 := kept_cell' HB0.out hbl1 e1
      obtain ⟨za, HZA⟩ : ∃ za, Hid (inr (zs.getD k 0) 0 65535 = za) := ⟨_, rfl⟩
      have HST : Hid (inr (zs.getD k 0) 0 65535 = true → ∀ j, j < k + 1 → inr (zs.getD j 0) 0 65535 = true) := fun h j hj => by
        by_cases e : j = k
        · subst e; exact h
        · exact HJ.out j (by omega)
      have HFN : Hid (inr (zs.getD k 0) 0 65535 = false → bs = []) := fun h => HNO.out (fun g => by have := g.2.2 k hlt; rw [h] at this; cases this)
      generalize zs.getD k 0 = z at e1 HZA HST HFN
      clear hbl1 HJ
      go_wp2_with fail
      refine (in_any z 0 65535 _).mono ?_
      rintro u w4 ⟨rfl, rfl⟩
      rw [HZA.out]
      cases za
      · have HF : Hid (bs = []) := HFN.out HZA.out
        go_wp2
        go_ret
        exact ⟨_, rfl, HB0.out, by rw [HF.out]; exact HE0.out⟩
      · have HST2 : Hid _ := HST.out HZA.out
        go_wp2
        go_roundw
        case rel => exact ⟨k + 1, by omega, by go_num, trivial, HST2⟩
        case measure => simp [intOf]; omega
    · obtain rfl : k = n := by omega
      clear hlt
      have HF : Hid (bs = hitsT s zs k) := HY.out ⟨HSZ.out, hn2, HJ.out⟩
      have HES : Hid (emS s = s) := by show _ = _; unfold emS; rw [HSZ.out]; rfl
      go_wp2_with fail
      refine Calls.mono (spec_tem s _) ?_
      rintro u w2 ⟨rfl, hb2⟩
      rw [HES.out]
      have hbw2 := HB0.out.trans (hb2.mono HB0.out.size)
      have hal : Below w2.heap.size w2 (w2.alloc (.cells #[.int .i64 s, .slice none 0 0] 30)) := (Below.refl _ _).alloc (Nat.le_refl _) _
      have HI : Hid (RT w (w2.alloc (.cells #[.int .i64 s, .slice none 0 0] 30)) w2.heap.size s [] (.slice (some ⟨w.heap.size, 0, none⟩) 0 0) [] none 0 (w2.heap.size + 1) (w2.heap.size + 1)) := ⟨hbw2.trans (hal.mono hbw2.size), Bk.new _ _ 30 _ rfl, fun h => absurd h (by simp), (HE0.out.below hb2).below hal, fun g e => ?_, .inl (by omega), by have := hbw2.size; omega, by simp⟩
      rotate_left
      · have := (HE0.out.lt g e).2
        have := hb2.size
        exact ⟨.inl (by omega), by omega⟩
      clear hb2 hbw2 hal
      go_wp2
      obtain ⟨i4, hi1, hi2, hi3, hi4⟩ := info4'
      have HIN : Hid _ := And.intro hi1 (And.intro hi2 (And.intro hi3 hi4))
      clear hi1 hi2 hi3 hi4
      obtain ⟨w3, HW3⟩ : ∃ w3, Hid (w3 = w2.alloc (.cells #[.int .i64 s, .slice none 0 0] 30)) := ⟨_, rfl⟩
      rw [← HW3.out] at HI ⊢
      obtain ⟨Q, HQ⟩ : ∃ Q, Hid (w2.heap.size = Q) := ⟨_, rfl⟩
      rw [HQ.out] at HI ⊢
      go_loopw [5, 8] (fun v i wr => ∃ j : Nat, j ≤ k ∧ i = .int .i64 j ∧ Hid (∃ a c lo hi, RT w wr Q s (runT s zs j) v (hitsT s zs j) a c lo hi)) (fun _ i _ => k - (intOf i).toNat)
      case atStart => exact ⟨0, by omega, rfl, none, 0, _, _, HI.out⟩
      case round =>
        obtain ⟨j, hj, rfl, HR⟩ := hrel
        clear HI HW3 HQ
        by_cases hjk : j < k
        rotate_left
        · obtain rfl : j = k := by omega
          go_wp2
          go_ret
          obtain ⟨a9, c9, lo, hi, hrt⟩ := HR.out
          exact ⟨_, rfl, hrt.bel, by rw [HF.out]; exact hrt.out⟩
        have hjk' : (j : Int) < (k : Int) := by omega
        obtain ⟨a9, c9, lo, hi, hrt⟩ := HR.out
        obtain ⟨b1, o1, rfl, hbl1, e1⟩ := Seg.at (w := w) HS.out j (by rw [HL.out]; exact hjk)
        replace e1 := kept_cell' hrt.bel hbl1 e1
        have hin := of_inr (HJ.out j hjk)
        have HRTS : Hid (runT s zs (j + 1) = useU s (runT s zs j) (pgZ zs j)) := rfl
        have HHT : Hid _ := hitsT_succ s zs j
        have HHL : Hid _ := hitsT_len s zs j
        have HPZ : Hid (pgZ zs j = (((zs.getD j 0).toNat / 64 : Nat) : Int)) := rfl
        have HLL : Hid _ := runT_len zs (of_inr HSZ.out).1 j
        generalize zs.getD j 0 = z at e1 HPZ hin
        obtain ⟨m, rfl⟩ : ∃ m : Nat, z = (m : Int) := ⟨z.toNat, by omega⟩
        have HM : Hid (m ≤ 65535) := by show _ ≤ _; omega
        obtain ⟨p, HP⟩ : ∃ p : Nat, Hid (m / 64 = p) := ⟨_, rfl⟩
        have HPZ2 : Hid (pgZ zs j = (p : Int)) := by rw [HPZ.out, ← HP.out]; rfl
        rw [HPZ2.out] at HRTS HHT
        clear HPZ HPZ2 hin hbl1
        generalize runT s zs j = L at hrt HR HRTS HHT HLL
        generalize hitsT s zs j = hs at hrt HR HHT HHL
        obtain ⟨qh, HQH⟩ : ∃ qh, Hid (L.contains (p : Int) = qh) := ⟨_, rfl⟩
        rw [HQH.out] at HHT
        obtain ⟨l, Hl⟩ : ∃ l, Hid (L.length = l) := ⟨_, rfl⟩
        have HRTX : Hid (RT w wr Q s L u5 hs a9 c9 lo hi) := hrt
        have c0 := hrt.q.cell 0 _ rfl
        have c1 := hrt.q.cell 1 _ rfl
        have HC : Hid (∀ X, Below wr.heap.size wr X → Calls Try.prog 25 #[tlb s (.slice a9 l c9), .int .i64 (m : Int)] X fun e w' => ∃ a' c', e = .returned (.tuple #[tlb s (.slice a' (useU s L (p : Int)).length c'), .bool qh]) ∧ Below X.heap.size X w' ∧ OI w' X.heap.size w'.heap.size a' (useU s L (p : Int))) := fun X hX => by
          have h := spec_tuse s m p a9 c9 l L X (OI.seg (OI.below HRTX.out.pg hX)) Hl.out (by rw [← Hl.out]; exact HLL.out) (of_inr HSZ.out) HM.out HP.out
          refine h.mono fun e w' h => ?_
          obtain ⟨v, h1, h2, h3⟩ := h
          obtain ⟨a', c', rfl, h4⟩ := OwnL.oi h3
          exact ⟨a', c', by rw [h1, HQH.out], h2, h4⟩
        rw [← HRTS.out] at HC
        obtain ⟨L2, HL2⟩ : ∃ L2, Hid (L2 = runT s zs (j + 1)) := ⟨_, rfl⟩
        rw [← HL2.out] at HC
        rw [show #[Value.int .i64 s, .slice a9 L.length c9][1] = .slice a9 L.length c9 from rfl, Hl.out] at c1
        change _ = some (Value.int .i64 s) at c0
        have HNE : Hid (Q ≠ wr.heap.size ∧ b1 ≠ wr.heap.size) := ⟨by have := HRTX.out.q.lt; omega, by have := World.block_lt_of_cell? wr _ e1; exact fun c => by simp at this; omega⟩
        have halx : Below wr.heap.size wr (wr.alloc (.cells #[.int .i64 0, .slice none 0 0] 30)) := (Below.refl _ _).alloc (Nat.le_refl _) _
        have HALX : Hid _ := halx
        clear halx hrt HR
        go_wp2
        go_region_held_law (fun w' => w'.cell? ⟨Q, 0, none⟩ = some (.int .i64 s) ∧ w'.cell? ⟨Q, 1, none⟩ = some (.slice a9 l c9) ∧ w'.cell? ⟨b1, o1 + j, none⟩ = some (.int .i64 (m : Int))) (first | exact ⟨c0, c1, e1⟩ | exact ⟨al1 _ c0, al1 _ c1, al1 _ e1⟩ | exact ⟨st2 HNE.out.1 c0, st2 HNE.out.1 c1, st2 HNE.out.2 e1⟩)
          (first
            | (go_at_call 25; refine Calls.mono (HC.out _ (Below.refl _ _).drew) ?_; rintro u w6 ⟨a6, c6, rfl, hbb, hpg⟩; have hb6 : Below wr.heap.size wr w6 := (Below.refl _ _).drew.trans hbb; have HU : Hid (RU w (w6.alloc (.cells #[.int .i64 s, .slice a6 L2.length c6] 30)) Q w6.heap.size s L2 u5 hs a6 c6 wr.heap.size w6.heap.size) := ru_one HRTX.out hb6 hpg 30; replace c0 := kept_cell hb6 c0; replace c1 := kept_cell hb6 c1; replace e1 := kept_cell hb6 e1; clear hbb hpg hb6)
            | (go_at_call 25; refine Calls.mono (HC.out _ HALX.out.drew) ?_; rintro u w6 ⟨a6, c6, rfl, hbb, hpg⟩; have hb6 : Below (wr.alloc (.cells #[.int .i64 0, .slice none 0 0] 30)).heap.size (wr.alloc (.cells #[.int .i64 0, .slice none 0 0] 30)) w6 := (Below.refl _ _).drew.trans hbb; have hru := ru_two (c2 := c6) HRTX.out (World.size_alloc _ _ ▸ hb6) (World.size_alloc _ _ ▸ hpg); have HU : Hid (RU w ((w6.setCell ⟨wr.heap.size, 0, none⟩ (.int .i64 s)).setCell ⟨wr.heap.size, 1, none⟩ (.slice a6 L2.length c6)) Q wr.heap.size s L2 u5 hs a6 c6 (wr.heap.size + 1) w6.heap.size) := hru.1; have z0 := hru.2.cell 0 _ rfl; have z1 := hru.2.cell 1 _ rfl; have zf := hru.2.free; replace c0 := kept_cell hb6 (al1 _ c0); replace c1 := kept_cell hb6 (al1 _ c1); replace e1 := kept_cell hb6 (al1 _ e1); clear hbb hpg hb6 hru))
        · clear c0 c1 e1
          generalize w6.alloc (.cells #[.int .i64 s, .slice a6 L2.length c6] 30) = X at HU ⊢
          generalize w6.heap.size = P at HU ⊢
          have g0 := HU.out.p.cell 0 _ rfl
          have g1 := HU.out.p.cell 1 _ rfl
          obtain ⟨hrt, ⟨v0, v1, y0, y1⟩, yf⟩ := HU.out.end
          have hal : Below ((X.setCell ⟨Q, 0, none⟩ (.int .i64 s)).setCell ⟨Q, 1, none⟩ (.slice a6 L2.length c6)).heap.size ((X.setCell ⟨Q, 0, none⟩ (.int .i64 s)).setCell ⟨Q, 1, none⟩ (.slice a6 L2.length c6)) (((X.setCell ⟨Q, 0, none⟩ (.int .i64 s)).setCell ⟨Q, 1, none⟩ (.slice a6 L2.length c6)).alloc (.cells #[.bool qh] 4)) := (Below.refl _ _).alloc (Nat.le_refl _) _
          have hown7 : (((X.setCell ⟨Q, 0, none⟩ (.int .i64 s)).setCell ⟨Q, 1, none⟩ (.slice a6 L2.length c6)).alloc (.cells #[.bool qh] 4)).ownsRow w.heap.size 4 1 u5 hs.length (hs.map Value.bool) := World.ownsRow.alloc hrt.out _
          have HBS : Hid (w.heap.size ≤ (((X.setCell ⟨Q, 0, none⟩ (.int .i64 s)).setCell ⟨Q, 1, none⟩ (.slice a6 L2.length c6)).alloc (.cells #[.bool qh] 4)).heap.size) := Nat.le_trans hrt.bel.size hal.size
          have HZ : Hid (∀ (gg cap1 : Nat) (w9 : World), w9.ownsRow w.heap.size 4 1 (.slice (some ⟨gg, 0, none⟩) (hs.length + 1) cap1) (hs.length + 1) (hs.map Value.bool ++ [.bool qh]) → (((X.setCell ⟨Q, 0, none⟩ (.int .i64 s)).setCell ⟨Q, 1, none⟩ (.slice a6 L2.length c6)).alloc (.cells #[.bool qh] 4)).grownBy w9 u5.ownBlock → (u5.ownBlock = some gg ∨ gg = (((X.setCell ⟨Q, 0, none⟩ (.int .i64 s)).setCell ⟨Q, 1, none⟩ (.slice a6 L2.length c6)).alloc (.cells #[.bool qh] 4)).heap.size) → ∃ a c lo hi, RT w w9 Q s (runT s zs (j + 1)) (.slice (some ⟨gg, 0, none⟩) (hs.length + 1) cap1) (hitsT s zs (j + 1)) a c lo hi) := fun gg cap1 w9 h1 h2 h3 => by
            refine ⟨_, _, _, _, HL2.out ▸ RT.push hrt hal (by rw [HHT.out]; exact OwnB.snoc h1) h2 ?_⟩
            rcases h3 with h3 | h3
            · exact .inl h3
            · exact .inr (by rw [h3]; rfl)
          have hsl : hs.length ≤ 2000 := by have := HHL.out; omega
          clear hrt hal
          go_wp2_with (at_builtin; (refine wpList_append_lies _ rfl (.tmp 52) (.tmp 54) 27 rfl w.heap.size 4 i4 (.bool false) 1 1 Try.underlying27 HIN.out.1 HIN.out.2.1 HIN.out.2.2.1 HIN.out.2.2.2 rfl (by omega) _ _ _ rfl hown7 _ 1 1 [.bool qh] rfl rfl (news_bool _ _ _ (by simp)) (one_bool _) (by omega) (by unfold maxLen; omega) (by omega) HBS.out _ rfl ?_; intro gg cap1 w9 hown1 hgrow hat hlt1; have HYY : Hid _ := HZ.out gg cap1 w9 hown1 hgrow hat; clear hown1 hgrow hat hlt1))
          go_roundw
          case rel => exact ⟨j + 1, by omega, by go_num, HYY⟩
          case measure => simp [intOf]; omega
        · clear c0 c1 e1 z0 z1 zf
          generalize wr.heap.size = P at HU ⊢
          generalize (w6.setCell ⟨P, 0, none⟩ (.int .i64 s)).setCell ⟨P, 1, none⟩ (.slice a6 L2.length c6) = X at HU ⊢
          have g0 := HU.out.p.cell 0 _ rfl
          have g1 := HU.out.p.cell 1 _ rfl
          obtain ⟨hrt, ⟨v0, v1, y0, y1⟩, yf⟩ := HU.out.end
          have hal : Below ((X.setCell ⟨Q, 0, none⟩ (.int .i64 s)).setCell ⟨Q, 1, none⟩ (.slice a6 L2.length c6)).heap.size ((X.setCell ⟨Q, 0, none⟩ (.int .i64 s)).setCell ⟨Q, 1, none⟩ (.slice a6 L2.length c6)) (((X.setCell ⟨Q, 0, none⟩ (.int .i64 s)).setCell ⟨Q, 1, none⟩ (.slice a6 L2.length c6)).alloc (.cells #[.bool qh] 4)) := (Below.refl _ _).alloc (Nat.le_refl _) _
          have hown7 : (((X.setCell ⟨Q, 0, none⟩ (.int .i64 s)).setCell ⟨Q, 1, none⟩ (.slice a6 L2.length c6)).alloc (.cells #[.bool qh] 4)).ownsRow w.heap.size 4 1 u5 hs.length (hs.map Value.bool) := World.ownsRow.alloc hrt.out _
          have HBS : Hid (w.heap.size ≤ (((X.setCell ⟨Q, 0, none⟩ (.int .i64 s)).setCell ⟨Q, 1, none⟩ (.slice a6 L2.length c6)).alloc (.cells #[.bool qh] 4)).heap.size) := Nat.le_trans hrt.bel.size hal.size
          have HZ : Hid (∀ (gg cap1 : Nat) (w9 : World), w9.ownsRow w.heap.size 4 1 (.slice (some ⟨gg, 0, none⟩) (hs.length + 1) cap1) (hs.length + 1) (hs.map Value.bool ++ [.bool qh]) → (((X.setCell ⟨Q, 0, none⟩ (.int .i64 s)).setCell ⟨Q, 1, none⟩ (.slice a6 L2.length c6)).alloc (.cells #[.bool qh] 4)).grownBy w9 u5.ownBlock → (u5.ownBlock = some gg ∨ gg = (((X.setCell ⟨Q, 0, none⟩ (.int .i64 s)).setCell ⟨Q, 1, none⟩ (.slice a6 L2.length c6)).alloc (.cells #[.bool qh] 4)).heap.size) → ∃ a c lo hi, RT w w9 Q s (runT s zs (j + 1)) (.slice (some ⟨gg, 0, none⟩) (hs.length + 1) cap1) (hitsT s zs (j + 1)) a c lo hi) := fun gg cap1 w9 h1 h2 h3 => by
            refine ⟨_, _, _, _, HL2.out ▸ RT.push hrt hal (by rw [HHT.out]; exact OwnB.snoc h1) h2 ?_⟩
            rcases h3 with h3 | h3
            · exact .inl h3
            · exact .inr (by rw [h3]; rfl)
          have hsl : hs.length ≤ 2000 := by have := HHL.out; omega
          clear hrt hal
          go_wp2_with (at_builtin; (refine wpList_append_lies _ rfl (.tmp 52) (.tmp 54) 27 rfl w.heap.size 4 i4 (.bool false) 1 1 Try.underlying27 HIN.out.1 HIN.out.2.1 HIN.out.2.2.1 HIN.out.2.2.2 rfl (by omega) _ _ _ rfl hown7 _ 1 1 [.bool qh] rfl rfl (news_bool _ _ _ (by simp)) (one_bool _) (by omega) (by unfold maxLen; omega) (by omega) HBS.out _ rfl ?_; intro gg cap1 w9 hown1 hgrow hat hlt1; have HYY : Hid _ := HZ.out gg cap1 w9 hown1 hgrow hat; clear hown1 hgrow hat hlt1))
          go_roundw
          case rel => exact ⟨j + 1, by omega, by go_num, HYY⟩
          case measure => simp [intOf]; omega
theorem run_alike (s : Int) (n : Nat) (zs : List Int) (hl : zs.length = n) (hn : n ≤ 1048576) : ∃ bs : List Bool, bs.length ≤ 2000 ∧ (∀ X a cap, Seg .i64 X a zs → Calls Try.prog 7 #[.int .i64 s, .slice a n cap] X (BPost X bs)) ∧ (∀ X a cap, Seg .i64 X a zs → Calls Try.prog 6 #[.int .i64 s, .slice a n cap] X (BPost X bs)) := by
  by_cases h : RunP s n zs
  · exact ⟨hitsT s zs n, by rw [hitsT_len]; exact h.2.1, fun X a cap hX => spec_run s a cap n zs X hX hl hn _ (fun _ => rfl) (fun g => absurd h g), fun X a cap hX => impl_run s a cap n zs X hX hl hn _ (fun _ => rfl) (fun g => absurd h g)⟩
  · exact ⟨[], by simp, fun X a cap hX => spec_run s a cap n zs X hX hl hn _ (fun g => absurd g h) (fun _ => rfl), fun X a cap hX => impl_run s a cap n zs X hX hl hn _ (fun g => absurd g h) (fun _ => rfl)⟩
end Go.Proofs.Ytdjfijkgmeapdaa
