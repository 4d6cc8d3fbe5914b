
/-
  Whether a span says what its cycles are in: on plain numbers, and the program's walk. Conditions: the lists lie in memory, the tables are sound.
-/
import Derived.Test.YtphdijkpjjokaaaGreatDoorBas
import Derived.Test.YtphdijkpjjokaaaGreatDoorSpi
import Derived.Test.YtphdijkpjjokaaaGreatDoorSpm
namespace Go.Proofs.YtphdijkpjjokaaaGreatDoor
open Go.ChangeShapes Go.WideShapes Go.ChangeAt Go.RowKit Go.Deep Go.Joins
set_option linter.unusedVariables false

/-- A cycle is in a phase, and in a partition's slot. -/
def InP (t : Tb) (p q c : Int) : Prop := phaseV t (c % t.maj) = q ∧ whoV t (c % t.maj) = p
def spGood (t : Tb) (x : saT) : Prop := (0 ≤ x.1 ∧ x.1 < x.2.1 ∧ x.2.1 ≤ 50000) ∧ ∀ c, x.1 ≤ c → c < x.2.1 → InP t x.2.2.1 x.2.2.2 c
noncomputable instance (t : Tb) (x : saT) : Decidable (spGood t x) := Classical.propDecidable _
theorem inp_run {t : Tb} {p q o r : Int} (h : RT t o r) (g : InP t p q o) : ∀ c, o ≤ c → c < r → InP t p q c := fun c h1 h2 => by
  obtain ⟨k, rfl⟩ : ∃ k : Nat, c = o + (k : Int) := ⟨(c - o).toNat, by omega⟩
  have := rt_const h k h2
  unfold InP at g ⊢
  unfold whoV at g ⊢
  rw [this.1, this.2]
  exact g

structure AS (w wr : World) (t : Tb) (a : Ad) (f u p q : Int) (B0 B1 B2 Nb : Nat) (b : Bool) (o r : Int) : Prop where
  bw : Below w.heap.size w wr
  it : Itr wr t a B0 B1 B2 o r u
  nb : w.heap.size < Nb ∧ Nb < wr.heap.size ∧ Nb ≠ B0 ∧ Nb ≠ B1 ∧ Nb ≠ B2
  bs : wr.heap[w.heap.size + 1]? = some (.cells #[.int .i64 f, .int .i64 u, .int .i64 p, .int .i64 q] 64 (0, 0))
  st : (b = true ∧ ∃ s : Int, wr.heap[Nb]? = some (.cells (spV t s (min o u)) 64 (0, 0)) ∧ f ≤ s ∧ s < u ∧ RT t s o ∧ ∀ c, f ≤ c → c < s → InP t p q c) ∨ (b = false ∧ ∀ c, f ≤ c → c < u → InP t p q c)
theorem as_end {w wr X w' : World} {t : Tb} {a : Ad} {f u p q o r s : Int} {B0 B1 B2 Nb : Nat} {cs : Array Value} (h : AS w wr t a f u p q B0 B1 B2 Nb true o r)
    (hk : f ≤ s ∧ s < u ∧ RT t s o ∧ ∀ c, f ≤ c → c < s → InP t p q c) (hg : InP t p q s) (hc : u ≤ o) (hsz : w.heap.size + 1 < wr.heap.size)
    (hX : X = wr.alloc (.cells cs 64)) (hb : Below X.heap.size X w') : AS w (w'.setRow wr.heap.size #[.int .i64 0, .int .i64 0, .int .i64 0, .int .i64 0]) t a f u p q B0 B1 B2 wr.heap.size false o r := by
  have hi0 := row_lt h.it.op
  have hi1 := row_lt h.it.to
  have hi2 : B2 < wr.heap.size := h.it.tb.lt
  have hal : Below wr.heap.size wr X := by rw [hX]; exact (Below.refl _ _).alloc (Nat.le_refl _) _
  have hXs : X.heap.size = wr.heap.size + 1 := by rw [hX]; simp
  have hb9 : Below wr.heap.size wr w' := hal.trans (hb.mono hal.size)
  have hblk : ∀ k, k < wr.heap.size → (w'.setRow wr.heap.size #[.int .i64 0, .int .i64 0, .int .i64 0, .int .i64 0]).heap[k]? = wr.heap[k]? := fun k hq => (setRow_other _ _ _ _ (by omega)).trans (hb9.block k hq)
  have hz : (w'.setRow wr.heap.size #[.int .i64 0, .int .i64 0, .int .i64 0, .int .i64 0]).heap.size = w'.heap.size := by simp [World.setRow]
  have hbs := hb.size
  refine ⟨⟨hb9.os.trans h.bw.os, hb9.tape.trans h.bw.tape, hb9.output.trans h.bw.output, by rw [hz]; have := h.bw.size; have := hb9.size; omega, fun k hq => (hblk k (Nat.lt_of_lt_of_le hq h.bw.size)).trans (h.bw.block k hq)⟩, h.it.grown (fun k hq => hblk k (by rcases hq with rfl | rfl | rfl <;> assumption)), ⟨by omega, by rw [hz]; omega, by omega, by omega, by omega⟩, (hblk _ hsz).trans h.bs, .inr ⟨rfl, fun c h1 h2 => ?_⟩⟩
  by_cases e : c < s
  · exact hk.2.2.2 c h1 e
  · exact inp_run hk.2.2.1 hg c (by omega) (by omega)
theorem as_more {w wr X w' : World} {t : Tb} {a : Ad} {f u p q o r r' s : Int} {B0 B1 B2 Nb : Nat} {cs : Array Value} (h : AS w wr t a f u p q B0 B1 B2 Nb true o r)
    (hk : f ≤ s ∧ s < u ∧ RT t s o ∧ ∀ c, f ≤ c → c < s → InP t p q c) (hg : InP t p q s) (hc : o < u) (hsz : w.heap.size + 1 < wr.heap.size) (hBw : w.heap.size + 1 < B0)
    (hX : X = wr.alloc (.cells cs 64)) (hb : Turn B0 X w') (hI : Itr w' t a B0 B1 B2 r r' u) (hrow : w'.heap[wr.heap.size]? = some (.cells cs 64 (0, 0))) : AS w (w'.setRow wr.heap.size (spV t o (min r u))) t a f u p q B0 B1 B2 wr.heap.size true r r' := by
  have hi0 := row_lt h.it.op
  have hi1 := row_lt h.it.to
  have hi2 : B2 < wr.heap.size := h.it.tb.lt
  have hal : Below wr.heap.size wr X := by rw [hX]; exact (Below.refl _ _).alloc (Nat.le_refl _) _
  have hXs : X.heap.size = wr.heap.size + 1 := by rw [hX]; simp
  have hso := hk.2.2.1.lt
  have hb9 : ∀ k, k < wr.heap.size → k ≠ B0 → w'.heap[k]? = wr.heap[k]? := fun k hq hn => (hb.block k (by omega) hn).trans (hal.block k hq)
  have hz : (w'.setRow wr.heap.size (spV t o (min r u))).heap.size = w'.heap.size := by simp [World.setRow]
  have hbs := hb.size
  have hws := h.bw.size
  refine ⟨⟨hb.os.trans (hal.os.trans h.bw.os), hb.tape.trans (hal.tape.trans h.bw.tape), hb.output.trans (hal.output.trans h.bw.output), by rw [hz]; omega, fun k hq => (setRow_other _ _ _ _ (by omega)).trans ((hb9 k (by omega) (by omega)).trans (h.bw.block k hq))⟩, hI.grown (fun k hq => setRow_other _ _ _ _ (by rcases hq with rfl | rfl | rfl <;> omega)), ⟨by omega, by rw [hz]; omega, by omega, by omega, by omega⟩, (setRow_other _ _ _ _ (by omega)).trans ((hb9 _ hsz (by omega)).trans h.bs), .inl ⟨rfl, o, setRow_heap _ _ _ _ _ _ hrow, by omega, hc, h.it.rt, fun c h1 h2 => ?_⟩⟩
  by_cases e : c < s
  · exact hk.2.2.2 c h1 e
  · exact inp_run hk.2.2.1 hg c (by omega) (by omega)
set_option maxRecDepth 40000 in
set_option maxHeartbeats 16000000 in
theorem impl_agrees (t : Tb) (a : Ad) (x1 x2 x3 x4 : Int) (w : World) (hm : TM 0 w t a) (hw : TW t a) (hs : TS a) (hcs : a.sn ≤ a.sc) (ht : Tm t) :
    Calls Tryz.prog 55 #[tbV t a, .agg #[.int .i64 x1, .int .i64 x2, .int .i64 x3, .int .i64 x4]] w fun e w' => e = .returned (.bool (decide (spGood t (x1, x2, x3, x4)))) ∧ Below w.heap.size w w' := by
  have hb1 : Below w.heap.size w (w.alloc (.cells (tbA t a) 41)) := (Below.refl _ _).alloc (Nat.le_refl _) _
  have HB : Hid (Below w.heap.size w ((w.alloc (.cells (tbA t a) 41)).alloc (.cells #[.int .i64 x1, .int .i64 x2, .int .i64 x3, .int .i64 x4] 64))) := hb1.alloc (by simp) _
  have HX : Hid (TBx ((w.alloc (.cells (tbA t a) 41)).alloc (.cells #[.int .i64 x1, .int .i64 x2, .int .i64 x3, .int .i64 x4] 64)) w.heap.size t a) := (TBx.new w t a _ rfl).below ((Below.refl _ _).alloc (Nat.le_refl _) _)
  have HS1 : Hid (((w.alloc (.cells (tbA t a) 41)).alloc (.cells #[.int .i64 x1, .int .i64 x2, .int .i64 x3, .int .i64 x4] 64)).heap[w.heap.size + 1]? = some (.cells #[.int .i64 x1, .int .i64 x2, .int .i64 x3, .int .i64 x4] 64 (0, 0))) := new_row _ _ _ _ (by simp)
  have HIW : Hid (∀ X, Calls Tryz.prog 75 #[.agg #[.int .i64 x1, .int .i64 x2, .int .i64 x3, .int .i64 x4]] X fun e w' => e = .returned (.bool (inr x1 0 50000 && inr x2 0 50000)) ∧ Below X.heap.size X w') := fun X => is_within x1 x2 x3 x4 X
  have HNS : Hid (x2 ≤ 50000 → ∀ (o r : Int) (B0 B1 B2 : Nat) (X : World), Itr X t a B0 B1 B2 o r x2 → Below w.heap.size w X → w.heap.size ≤ B0 → Calls Tryz.prog 64 #[.pointer (some ⟨B0, 0, none⟩), .pointer (some ⟨B1, 0, none⟩), .pointer (some ⟨B2, 0, none⟩)] X fun e w' =>
      (x2 ≤ o ∧ e = .returned (.tuple #[.agg #[.int .i64 0, .int .i64 0, .int .i64 0, .int .i64 0], .bool false]) ∧ Below X.heap.size X w') ∨
      (o < x2 ∧ ∃ r', e = .returned (.tuple #[.agg (spV t o (min r x2)), .bool true]) ∧ Turn B0 X w' ∧ Itr w' t a B0 B1 B2 r r' x2)) := fun hu o r B0 B1 B2 X hI hX hB => next_span t a o r x2 B0 B1 B2 w X hI hm hX hB hw hs hcs ht hu
  have HSO : Hid (0 ≤ x1 → x1 ≤ 50000 → ∀ X, Below w.heap.size w X → Calls Tryz.prog 37 #[tbV t a, .int .i64 x1, .int .i64 x2] X fun e w' => ∃ (r : Int) (B0 B1 B2 : Nat), e = .returned (.func (.func 64) #[] #[.pointer (some ⟨B0, 0, none⟩), .pointer (some ⟨B1, 0, none⟩), .pointer (some ⟨B2, 0, none⟩)]) ∧ Itr w' t a B0 B1 B2 x1 r x2 ∧ (X.heap.size ≤ B0 ∧ X.heap.size ≤ B1 ∧ X.heap.size ≤ B2) ∧ Below X.heap.size X w') := fun h0 h1 X hX => spans_of t a x1 x2 X (hm.below hX) hw hs hcs ht h0 h1
  obtain ⟨g, HG⟩ : ∃ g : Bool, Hid (decide (spGood t (x1, x2, x3, x4)) = g) := ⟨_, rfl⟩
  rw [HG.out]
  clear hm hw hs hcs ht hb1
  by_cases h1 : (0 ≤ x1 ∧ x1 ≤ 50000) ∧ (0 ≤ x2 ∧ x2 ≤ 50000)
  rotate_left
  · have HT : Hid (g = false) := by show _ = _; rw [← HG.out]; exact decide_eq_false (fun h => h1 ⟨⟨h.1.1, by have := h.1; simp only at this; omega⟩, by have := h.1; simp only at this; omega⟩)
    have hiw : (inr x1 0 50000 && inr x2 0 50000) = false := by
      by_cases e : 0 ≤ x1 ∧ x1 ≤ 50000
      · rw [inr_yes e, inr_no (fun k => h1 ⟨e, k⟩)]; rfl
      · rw [inr_no e]; rfl
    rw [hiw] at HIW
    clear HNS HSO h1 hiw
    go_enter Tryz.func55, Tryz.ntmps55
    go_wp2_with (first | (refine wpList_load_row rfl 64 (.tmp 3) rfl (w.heap.size + 1) rfl 64 (#[.int .i64 x1, .int .i64 x2, .int .i64 x3, .int .i64 x4]) (0, 0) _ HS1.out Tryz.underlying64 rfl (by kernel_rfl) ?_) | fail)
    refine Calls.mono (HIW.out _) ?_
    rintro e w1 ⟨rfl, hb⟩
    have HB1 : Hid (Below w.heap.size w w1) := HB.out.trans (hb.mono HB.out.size)
    clear hb HB HX HS1
    go_wp2
    go_ret
    exact ⟨by rw [HT.out]; rfl, HB1.out⟩
  have hiw : (inr x1 0 50000 && inr x2 0 50000) = true := by rw [inr_yes h1.1, inr_yes h1.2]; rfl
  rw [hiw] at HIW
  clear hiw
  by_cases h2 : x1 < x2
  rotate_left
  · have HT : Hid (g = false) := by show _ = _; rw [← HG.out]; exact decide_eq_false (fun h => h2 h.1.2.1)
    have hge : x2 ≤ x1 := by omega
    have hgd : decide (x2 ≤ x1) = true := decide_eq_true hge
    go_enter Tryz.func55, Tryz.ntmps55
    go_wp2_with (first | (refine wpList_load_row rfl 64 (.tmp 3) rfl (w.heap.size + 1) rfl 64 (#[.int .i64 x1, .int .i64 x2, .int .i64 x3, .int .i64 x4]) (0, 0) _ HS1.out Tryz.underlying64 rfl (by kernel_rfl) ?_) | fail)
    refine Calls.mono (HIW.out _) ?_
    rintro e w1 ⟨rfl, hb⟩
    have HB1 : Hid (Below w.heap.size w w1) := HB.out.trans (hb.mono HB.out.size)
    have HS2 : Hid (w1.heap[w.heap.size + 1]? = some (.cells #[.int .i64 x1, .int .i64 x2, .int .i64 x3, .int .i64 x4] 64 (0, 0))) := row_below HS1.out hb
    have c0 : w1.cell? ⟨w.heap.size + 1, 0, none⟩ = some (.int .i64 x1) := row_cell HS2.out 0 _ rfl
    have c1 : w1.cell? ⟨w.heap.size + 1, 1, none⟩ = some (.int .i64 x2) := row_cell HS2.out 1 _ rfl
    clear hb HB HX HS1 HNS HSO h1
    go_wp2
    go_ret
    exact ⟨by rw [HT.out]; rfl, HB1.out⟩
  have hge : ¬ (x2 ≤ x1) := by omega
  have hgd : decide (x2 ≤ x1) = false := decide_eq_false hge
  have HNS' : Hid _ := HNS.out h1.2.2
  have HSO' : Hid _ := HSO.out h1.1.1 h1.1.2
  have hu5 : x2 ≤ 50000 := h1.2.2
  have hf0 : 0 ≤ x1 := h1.1.1
  clear HNS HSO h1
  go_enter Tryz.func55, Tryz.ntmps55
  go_wp2_with (first | (refine wpList_load_row rfl 64 (.tmp 3) rfl (w.heap.size + 1) rfl 64 (#[.int .i64 x1, .int .i64 x2, .int .i64 x3, .int .i64 x4]) (0, 0) _ HS1.out Tryz.underlying64 rfl (by kernel_rfl) ?_) | fail)
  refine Calls.mono (HIW.out _) ?_
  rintro e w1 ⟨rfl, hb⟩
  have HB1 : Hid (Below w.heap.size w w1) := HB.out.trans (hb.mono HB.out.size)
  have HX1 : Hid (TBx w1 w.heap.size t a) := HX.out.below hb
  have HS2 : Hid (w1.heap[w.heap.size + 1]? = some (.cells #[.int .i64 x1, .int .i64 x2, .int .i64 x3, .int .i64 x4] 64 (0, 0))) := row_below HS1.out hb
  have c0 : w1.cell? ⟨w.heap.size + 1, 0, none⟩ = some (.int .i64 x1) := row_cell HS2.out 0 _ rfl
  have c1 : w1.cell? ⟨w.heap.size + 1, 1, none⟩ = some (.int .i64 x2) := row_cell HS2.out 1 _ rfl
  clear hb HB HX HS1 HIW
  go_wp2_with (first | (refine wpList_load_row rfl 41 (.tmp 2) rfl w.heap.size rfl 41 (tbA t a) (0, 0) _ HX1.out Tryz.underlying41 rfl (by kernel_rfl) ?_) | fail)
  refine Calls.mono (HSO'.out _ HB1.out) ?_
  rintro e w2 ⟨r0, B0, B1, B2, rfl, hi2, hbb, hb2⟩
  have hsz1 := row_lt HS2.out
  have HB2 : Hid (Below w.heap.size w w2) := HB1.out.trans (hb2.mono HB1.out.size)
  have HI2 : Hid (Itr w2 t a B0 B1 B2 x1 r0 x2) := hi2
  have HBB : Hid (w1.heap.size ≤ B0 ∧ w1.heap.size ≤ B1 ∧ w1.heap.size ≤ B2) := hbb
  have HS3 : Hid (w2.heap[w.heap.size + 1]? = some (.cells #[.int .i64 x1, .int .i64 x2, .int .i64 x3, .int .i64 x4] 64 (0, 0))) := row_below HS2.out hb2
  clear hb2 hi2 hbb HB1 HX1 HS2 HSO' c0 c1
  go_wp2_with fail
  refine Calls.mono (HNS'.out x1 r0 B0 B1 B2 _ HI2.out HB2.out (by have := HBB.out.1; omega)) ?_
  rintro e w3 (⟨hx, _, _⟩ | ⟨_, r1, rfl, hT, hI⟩)
  · exfalso; omega
  have hsz2 := row_lt HS3.out
  have HAS : Hid (AS w (w3.alloc (.cells (spV t x1 (min r0 x2)) 64)) t a x1 x2 x3 x4 B0 B1 B2 w3.heap.size true r0 r1) := by
    have hal : Below w3.heap.size w3 (w3.alloc (.cells (spV t x1 (min r0 x2)) 64)) := (Below.refl _ _).alloc (Nat.le_refl _) _
    have hbw := HB2.out.trans (hT.below (by have := HBB.out.1; omega) HB2.out.size)
    have q0 := row_lt hI.op
    have q1 := row_lt hI.to
    have q2 : B2 < w3.heap.size := hI.tb.lt
    have hBB := HBB.out
    have hts := hT.size
    refine ⟨hbw.trans (hal.mono hbw.size), hI.below hal, ⟨by omega, by simp, by omega, by omega, by omega⟩, (hal.block _ (by omega)).trans ((hT.block _ hsz2 (by omega)).trans HS3.out), .inl ⟨rfl, x1, new_row w3 _ _ _ rfl, by omega, h2, HI2.out.rt, fun c g1 g2 => by omega⟩⟩
  have HBB2 : Hid (w.heap.size + 1 < B0) := by have := HBB.out.1; show _ < _; omega
  clear hT hI HB2 HI2 HBB HS3
  obtain ⟨q3, hq3⟩ : ∃ q, whoV t (x1 % t.maj) = q := ⟨_, rfl⟩
  obtain ⟨q4, hq4⟩ : ∃ q, phaseV t (x1 % t.maj) = q := ⟨_, rfl⟩
  have hsv : spV t x1 (min r0 x2) = #[.int .i64 x1, .int .i64 (min r0 x2), .int .i64 q3, .int .i64 q4] := by unfold spV; rw [hq3, hq4]
  rw [hsv] at HAS ⊢
  clear hsv hq3 hq4
  go_wp2
  go_loopw [6, 7] (fun p bb wr => ∃ (Nb : Nat) (b : Bool) (o r : Int), p = .pointer (some ⟨Nb, 0, none⟩) ∧ bb = .bool b ∧ Hid (AS w wr t a x1 x2 x3 x4 B0 B1 B2 Nb b o r)) (fun _ bb wr => (x2 - cint wr B0).toNat + bone bb)
  case atStart => exact ⟨w3.heap.size, true, r0, r1, rfl, rfl, HAS.out⟩
  case round =>
    clear HAS
    obtain ⟨Nb, b, o, r, rfl, rfl, HLS⟩ := hrel
    cases b
    · have HT : Hid (g = true) := by
        rcases HLS.out.st with ⟨h, _⟩ | ⟨_, h⟩
        · cases h
        · show _ = _; rw [← HG.out]; exact decide_eq_true ⟨⟨hf0, h2, hu5⟩, h⟩
      go_wp2
      go_ret
      exact ⟨by rw [HT.out]; rfl, HLS.out.bw⟩
    obtain ⟨s, HRW, HKK⟩ : ∃ s : Int, Hid (wr.heap[Nb]? = some (.cells (spV t s (min o x2)) 64 (0, 0))) ∧ Hid (x1 ≤ s ∧ s < x2 ∧ RT t s o ∧ ∀ c, x1 ≤ c → c < s → InP t x3 x4 c) := by
      rcases HLS.out.st with ⟨_, s, g1, g2⟩ | ⟨h, _⟩
      · exact ⟨s, g1, g2⟩
      · cases h
    obtain ⟨y3, HY3⟩ : ∃ y, Hid (whoV t (s % t.maj) = y) := ⟨_, rfl⟩
    obtain ⟨y4, HY4⟩ : ∃ y, Hid (phaseV t (s % t.maj) = y) := ⟨_, rfl⟩
    obtain ⟨y2, HY2⟩ : ∃ y, Hid (min o x2 = y) := ⟨_, rfl⟩
    have HRWB : Hid (wr.heap[Nb]? = some (.cells #[.int .i64 s, .int .i64 y2, .int .i64 y3, .int .i64 y4] 64 (0, 0))) := by
      have := HRW.out
      simp only [spV] at this
      rw [HY2.out, HY3.out, HY4.out] at this
      exact this
    have k2 : wr.cell? ⟨Nb, 2, none⟩ = some (.int .i64 y3) := row_cell HRWB.out 2 _ rfl
    have k3 : wr.cell? ⟨Nb, 3, none⟩ = some (.int .i64 y4) := row_cell HRWB.out 3 _ rfl
    have m2 : wr.cell? ⟨w.heap.size + 1, 2, none⟩ = some (.int .i64 x3) := row_cell HLS.out.bs 2 _ rfl
    have m3 : wr.cell? ⟨w.heap.size + 1, 3, none⟩ = some (.int .i64 x4) := row_cell HLS.out.bs 3 _ rfl
    by_cases hp : y3 = x3
    rotate_left
    · have HT : Hid (g = false) := by
        show _ = _
        rw [← HG.out]
        exact decide_eq_false (fun h => hp (by rw [← HY3.out]; exact (h.2 s HKK.out.1 HKK.out.2.1).2))
      have hpb : (y3 != x3) = true := by simpa using hp
      clear HRW HRWB hp
      go_wp2
      go_ret
      exact ⟨by rw [HT.out]; rfl, HLS.out.bw⟩
    by_cases hq : y4 = x4
    rotate_left
    · have HT : Hid (g = false) := by
        show _ = _
        rw [← HG.out]
        exact decide_eq_false (fun h => hq (by rw [← HY4.out]; exact (h.2 s HKK.out.1 HKK.out.2.1).1))
      have hpb : (y3 != x3) = false := by simp [hp]
      have hqb : (y4 != x4) = true := by simpa using hq
      clear HRW HRWB hp hq
      go_wp2
      go_ret
      exact ⟨by rw [HT.out]; rfl, HLS.out.bw⟩
    have HIP : Hid (InP t x3 x4 s) := ⟨by rw [HY4.out]; exact hq, by rw [HY3.out]; exact hp⟩
    have hpb : (y3 != x3) = false := by simp [hp]
    have hqb : (y4 != x4) = false := by simp [hq]
    have HMS : Hid (cint wr B0 = o) := cint_eq (row_cell HLS.out.it.op 0 _ rfl)
    have hsz := row_lt HLS.out.bs
    clear HRW hp hq
    go_wp2_with (first | (refine wpList_load_row rfl 64 (.tmp 6) rfl Nb rfl 64 (#[.int .i64 s, .int .i64 y2, .int .i64 y3, .int .i64 y4]) (0, 0) _ (HRWB.out) Tryz.underlying64 rfl (by kernel_rfl) ?_) | fail)
    have hbX : Below wr.heap.size wr (wr.alloc (.cells #[.int .i64 s, .int .i64 y2, .int .i64 y3, .int .i64 y4] 64)) := (Below.refl _ _).alloc (Nat.le_refl _) _
    refine Calls.mono (HNS'.out o r B0 B1 B2 _ (HLS.out.it.below hbX) (HLS.out.bw.trans (hbX.mono HLS.out.bw.size)) (by have := HBB2.out; omega)) ?_
    have HXQ : Hid ((wr.alloc (.cells #[.int .i64 s, .int .i64 y2, .int .i64 y3, .int .i64 y4] 64)).heap[wr.heap.size]? = some (.cells #[.int .i64 s, .int .i64 y2, .int .i64 y3, .int .i64 y4] 64 (0, 0))) := new_row wr _ _ _ rfl
    clear hbX HRWB k2 k3 m2 m3
    rintro e w' (⟨hc, rfl, hb⟩ | ⟨hc, r', rfl, hT, hI⟩)
    · have HNX : Hid (AS w (w'.setRow wr.heap.size #[.int .i64 0, .int .i64 0, .int .i64 0, .int .i64 0]) t a x1 x2 x3 x4 B0 B1 B2 wr.heap.size false o r) := as_end HLS.out HKK.out HIP.out hc hsz rfl hb
      have HXW : Hid (w'.heap[wr.heap.size]? = some (.cells #[.int .i64 s, .int .i64 y2, .int .i64 y3, .int .i64 y4] 64 (0, 0))) := row_below HXQ.out hb
      have HMN : Hid (cint (w'.setRow wr.heap.size #[.int .i64 0, .int .i64 0, .int .i64 0, .int .i64 0]) B0 = o) := cint_eq (row_cell HNX.out.it.op 0 _ rfl)
      clear hb HXQ HLS HKK
      go_wp2_with (first | (refine wpList_store_row rfl 64 (.tmp 6) (.tmp 33) rfl wr.heap.size (#[.int .i64 0, .int .i64 0, .int .i64 0, .int .i64 0]) rfl rfl 64 (#[.int .i64 s, .int .i64 y2, .int .i64 y3, .int .i64 y4]) HXW.out (by kernel_rfl) rfl (by simp [Value.oneCell']) ?_) | fail)
      go_roundw
      case rel => exact ⟨wr.heap.size, false, o, r, rfl, rfl, HNX.out⟩
      case measure => rw [HMS.out, HMN.out]; simp only [bone]; omega
    · have hXT : (wr.alloc (.cells #[.int .i64 s, .int .i64 y2, .int .i64 y3, .int .i64 y4] 64)).heap.size = wr.heap.size + 1 := by simp
      have hne : wr.heap.size ≠ B0 := by have := row_lt HLS.out.it.op; omega
      have hro : w'.heap[wr.heap.size]? = some (.cells #[.int .i64 s, .int .i64 y2, .int .i64 y3, .int .i64 y4] 64 (0, 0)) := (hT.block _ (by omega) hne).trans HXQ.out
      have HXW : Hid (w'.heap[wr.heap.size]? = some (.cells #[.int .i64 s, .int .i64 y2, .int .i64 y3, .int .i64 y4] 64 (0, 0))) := hro
      have HNX : Hid (AS w (w'.setRow wr.heap.size (spV t o (min r x2))) t a x1 x2 x3 x4 B0 B1 B2 wr.heap.size true r r') := as_more HLS.out HKK.out HIP.out hc hsz HBB2.out rfl hT hI hro
      have HMN : Hid (cint (w'.setRow wr.heap.size (spV t o (min r x2))) B0 = r) := cint_eq (row_cell HNX.out.it.op 0 _ rfl)
      have hor : o < r := HLS.out.it.rt.lt
      obtain ⟨q3, hq3⟩ : ∃ q, whoV t (o % t.maj) = q := ⟨_, rfl⟩
      obtain ⟨q4, hq4⟩ : ∃ q, phaseV t (o % t.maj) = q := ⟨_, rfl⟩
      have hsv : spV t o (min r x2) = #[.int .i64 o, .int .i64 (min r x2), .int .i64 q3, .int .i64 q4] := by unfold spV; rw [hq3, hq4]
      rw [hsv] at HNX HMN ⊢
      clear hT hI HXQ HLS HKK hro hsv hq3 hq4
      go_wp2_with (first | (refine wpList_store_row rfl 64 (.tmp 6) (.tmp 33) rfl wr.heap.size (#[.int .i64 o, .int .i64 (min r x2), .int .i64 q3, .int .i64 q4]) rfl rfl 64 (#[.int .i64 s, .int .i64 y2, .int .i64 y3, .int .i64 y4]) HXW.out (by kernel_rfl) rfl (by simp [Value.oneCell']) ?_) | fail)
      go_roundw
      case rel => exact ⟨wr.heap.size, true, r, r', rfl, rfl, HNX.out⟩
      case measure => rw [HMS.out, HMN.out]; simp only [bone]; omega
end Go.Proofs.YtphdijkpjjokaaaGreatDoor
