
/-
  The spans of the cycles between two: the program's walk. Conditions: the lists lie in memory; the program's table of extras holds what the program's text lays.
-/
import Derived.Test.YtphdijkpjjokaaaGreatDoorBas
import Derived.Test.YtphdijkpjjokaaaGreatDoorSpx
import Derived.Test.YtphdijkpjjokaaaGreatDoorSco
import Derived.Test.YtphdijkpjjokaaaGreatDoorTia
import Derived.Test.YtphdijkpjjokaaaGreatDoorOni
namespace Go.Proofs.YtphdijkpjjokaaaGreatDoor
open Go.ChangeShapes Go.WideShapes Go.ChangeAt Go.RowKit Go.Deep Go.Joins
set_option linter.unusedVariables false

set_option maxRecDepth 40000 in
set_option maxHeartbeats 4000000 in
theorem spans_of (t : Tb) (a : Ad) (f u : Int) (w : World) (hm : TM 0 w t a) (hw : TW t a) (hs : TS a) (hcs : a.sn ≤ a.sc) (ht : Tm t) (h0 : 0 ≤ f) (h1 : f ≤ 50000) :
    Calls Tryz.prog 37 #[tbV t a, .int .i64 f, .int .i64 u] w fun e w' => ∃ (r : Int) (B0 B1 B2 : Nat), e = .returned (.func (.func 64) #[] #[.pointer (some ⟨B0, 0, none⟩), .pointer (some ⟨B1, 0, none⟩), .pointer (some ⟨B2, 0, none⟩)]) ∧ Itr w' t a B0 B1 B2 f r u ∧ (w.heap.size ≤ B0 ∧ w.heap.size ≤ B1 ∧ w.heap.size ≤ B2) ∧ Below w.heap.size w w' := by
  have hb1 : Below w.heap.size w (w.alloc (.cells (tbA t a) 41)) := (Below.refl _ _).alloc (Nat.le_refl _) _
  have HB : Hid (Below w.heap.size w ((w.alloc (.cells (tbA t a) 41)).alloc (.cells #[.int .i64 u] 3))) := hb1.alloc (by simp) _
  have HX : Hid (TBx ((w.alloc (.cells (tbA t a) 41)).alloc (.cells #[.int .i64 u] 3)) w.heap.size t a) := (TBx.new w t a _ rfl).below ((Below.refl _ _).alloc (Nat.le_refl _) _)
  have H1 : Hid (((w.alloc (.cells (tbA t a) 41)).alloc (.cells #[.int .i64 u] 3)).heap[w.heap.size + 1]? = some (.cells #[.int .i64 u] 3 (0, 0))) := new_row _ _ _ _ (by simp)
  have HRF : Hid (Calls Tryz.prog 63 #[tbV t a, .int .i64 f] ((w.alloc (.cells (tbA t a) 41)).alloc (.cells #[.int .i64 u] 3)) fun e w' => ∃ r, e = .returned (.agg #[.int .i64 f, .int .i64 r, .int .i64 (whoV t (f % t.maj)), .int .i64 (phaseV t (f % t.maj))]) ∧ RT t f r ∧ Below ((w.alloc (.cells (tbA t a) 41)).alloc (.cells #[.int .i64 u] 3)).heap.size ((w.alloc (.cells (tbA t a) 41)).alloc (.cells #[.int .i64 u] 3)) w') := rest_from t a f ((w.alloc (.cells (tbA t a) 41)).alloc (.cells #[.int .i64 u] 3)) (hm.below HB.out) hw hs hcs ht h0 (by omega)
  have hH0 : 0 ≤ f := h0
  clear hm hw hs hcs ht hb1
  go_enter Tryz.func37, Tryz.ntmps37
  go_wp2_with (first | (refine wpList_load_row rfl 41 (.tmp 3) rfl w.heap.size rfl 41 (tbA t a) (0, 0) _ HX.out Tryz.underlying41 rfl (by kernel_rfl) ?_) | fail)
  refine Calls.mono HRF.out ?_
  rintro e w2 ⟨r, rfl, hr, hb2⟩
  have HB2 : Hid (Below w.heap.size w w2) := HB.out.trans (hb2.mono HB.out.size)
  have HX2 : Hid (TBx w2 w.heap.size t a) := HX.out.below hb2
  have H12 : Hid (w2.heap[w.heap.size + 1]? = some (.cells #[.int .i64 u] 3 (0, 0))) := row_below H1.out hb2
  clear hb2 HB HX H1 HRF
  have hb3 : Below w2.heap.size w2 (w2.alloc (.cells (spV t f r) 64)) := (Below.refl _ _).alloc (Nat.le_refl _) _
  have HLE : Hid (w.heap.size + 1 < w2.heap.size) := row_lt H12.out
  go_wp2
  go_ret
  have hle := HLE.out
  exact ⟨r, w2.heap.size, w.heap.size + 1, w.heap.size, rfl, ⟨new_row w2 _ _ _ rfl, row_below H12.out hb3, HX2.out.below hb3, by omega, by omega, hr, hH0⟩, ⟨by omega, by omega, by omega⟩, HB2.out.trans (hb3.mono HB2.out.size)⟩
theorem e_sp1 : ∀ args (v : World), (callFunc 64 args).run Tryz.prog v = .ok (.enter 64 args) v := enters_of Tryz.func64 (by kernel_rfl) rfl
theorem OwnS.gl {w : World} {base g cap m : Nat} {xs : List saT} (h : OwnS w base (.slice (some ⟨g, 0, none⟩) m cap) xs) : g < w.heap.size ∧ base ≤ g := by
  rcases h.2 with ⟨h0, h1⟩ | ⟨g', cap', cur, e, hb, hg, _⟩
  · cases h0
  · injection e with e1 e2 e3
    injection e1 with e1
    injection e1 with e1
    subst e1
    refine ⟨?_, hb⟩
    rcases Nat.lt_or_ge g w.heap.size with hlt | hge
    · exact hlt
    · rw [Array.getElem?_eq_none hge] at hg; cases hg
theorem ownsS_block {W X : World} {base g cap m : Nat} {xs : List saT} (h : OwnS W base (.slice (some ⟨g, 0, none⟩) m cap) xs) (hb : X.heap[g]? = W.heap[g]?) : OwnS X base (.slice (some ⟨g, 0, none⟩) m cap) xs := by
  refine ⟨h.1, ?_⟩
  rcases h.2 with ⟨h0, _⟩ | ⟨g', cap', cur, e, h1, hg, rest⟩
  · cases h0
  · have e' := e
    injection e with e1 e2 e3
    injection e1 with e1
    injection e1 with e1
    subst e1
    exact .inr ⟨g, cap', cur, e', h1, hb.trans hg, rest⟩
theorem sa_new (w : World) (x : saT) (B : Nat) (hB : B = w.heap.size) : ∀ j u, (saL x)[j]? = some u → (w.alloc (.cells #[.int .i64 x.1, .int .i64 x.2.1, .int .i64 x.2.2.1, .int .i64 x.2.2.2] 64)).cell? ((⟨B, 0, none⟩ : Addr).add j) = some u := fun j u h => by
  subst hB
  rw [add_plain]
  exact CellsAt.new w (saL x) 64 w.heap.size rfl j u h
theorem sa_one (y1 y2 y3 y4 : Int) : ∀ u ∈ [Value.int .i64 y1, .int .i64 y2, .int .i64 y3, .int .i64 y4], u.oneCell' = true := by
  intro u hu
  simp only [List.mem_cons, List.not_mem_nil, or_false] at hu
  obtain rfl | rfl | rfl | rfl := hu <;> rfl
/-- The answer: nothing, or the spans. -/
def SPok (t : Tb) (f u : Int) : Prop := Sd t ∧ IsC f ∧ IsC u ∧ 1 ≤ u - f ∧ u - f ≤ 5000
noncomputable instance (t : Tb) (f u : Int) : Decidable (SPok t f u) := Classical.propDecidable _
noncomputable def spAll (t : Tb) (f u : Int) : List saT := if SPok t f u then spL t f (u - f).toNat else []
theorem is_count (n most : Int) (w : World) : Calls Tryz.prog 36 #[.int .i64 n, .int .i64 most] w fun e w' => e = .returned (.bool (inr n 1 most)) ∧ w' = w := by
  by_cases h1 : 1 ≤ n
  · by_cases h2 : n ≤ most
    · rw [inr_yes ⟨h1, h2⟩]
      go_enter Tryz.func36, Tryz.ntmps36
      go_wp2
      go_ret
      exact ⟨rfl, rfl⟩
    · rw [inr_no (fun g => h2 g.2)]
      go_enter Tryz.func36, Tryz.ntmps36
      go_wp2
      go_ret
      exact ⟨rfl, rfl⟩
  · rw [inr_no (fun g => h1 g.1)]
    go_enter Tryz.func36, Tryz.ntmps36
    go_wp2
    go_ret
    exact ⟨rfl, rfl⟩
theorem scells_sing (x : saT) : scells [x] = saL x := by simp [scells]
def cint (W : World) (B : Nat) : Int := match W.cell? ⟨B, 0, none⟩ with
  | some (.int _ x) => x
  | _ => 0
theorem cint_eq {W : World} {B : Nat} {k : IntKind} {x : Int} (h : W.cell? ⟨B, 0, none⟩ = some (.int k x)) : cint W B = x := by unfold cint; rw [h]
def bone : Value → Nat
  | .bool true => 1
  | _ => 0
/-- The loop's state. -/
structure LS (w wr : World) (t : Tb) (a : Ad) (f u : Int) (B0 B1 B2 g m cap Nb : Nat) (b : Bool) (o r : Int) (L : List saT) : Prop where
  bw : Below w.heap.size w wr
  it : Itr wr t a B0 B1 B2 o r u
  ow : OwnS wr (w.heap.size + 1) (.slice (some ⟨g, 0, none⟩) m cap) L
  ln : L.length = m
  nb : w.heap.size < Nb ∧ Nb < wr.heap.size ∧ Nb ≠ B0 ∧ Nb ≠ B1 ∧ Nb ≠ B2
  ng : g ≠ B0 ∧ g ≠ B1 ∧ g ≠ B2 ∧ g ≠ Nb
  st : (b = true ∧ ∃ k : Nat, wr.heap[Nb]? = some (.cells (spV t (f + (k : Int)) (min o u)) 64 (0, 0)) ∧ f + (k : Int) < u ∧ RT t (f + (k : Int)) o ∧ ¬ (k ≠ 0 ∧ Same t (f + (k : Int))) ∧ L = spL t f k) ∨ (b = false ∧ L = spL t f (u - f).toNat)
theorem ls_app {w wr w9 : World} {t : Tb} {a : Ad} {f u o r : Int} {B0 B1 B2 g m cap Nb gg cap1 : Nat} {b : Bool} {L : List saT} {lit : Array Value} {x : saT} (h : LS w wr t a f u B0 B1 B2 g m cap Nb b o r L)
    (h1 : w9.ownsRow (w.heap.size + 1) 64 4 (.slice (some ⟨gg, 0, none⟩) (m + 1) cap1) (m + 1) (scells L ++ saL x)) (h2 : (wr.alloc (.cells lit 64)).grownBy w9 (Value.slice (some ⟨g, 0, none⟩) m cap).ownBlock)
    (h3 : (Value.slice (some ⟨g, 0, none⟩) m cap).ownBlock = some gg ∨ gg = (wr.alloc (.cells lit 64)).heap.size) :
    OwnS w9 (w.heap.size + 1) (.slice (some ⟨gg, 0, none⟩) (m + 1) cap1) (L ++ [x]) ∧ Below w.heap.size w w9 ∧ Itr w9 t a B0 B1 B2 o r u ∧ w9.heap[Nb]? = wr.heap[Nb]? ∧ (gg ≠ B0 ∧ gg ≠ B1 ∧ gg ≠ B2) ∧ (gg < w9.heap.size ∧ wr.heap.size ≤ w9.heap.size) := by
  have hal : Below wr.heap.size wr (wr.alloc (.cells lit 64)) := (Below.refl _ _).alloc (Nat.le_refl _) _
  have hgl := h.ow.gl
  have hln := h.ln
  have hblk : ∀ k, k < wr.heap.size → k ≠ g → w9.heap[k]? = wr.heap[k]? := fun k hk hn => (h2.block k (Nat.lt_of_lt_of_le hk hal.size) (by simp [Value.ownBlock]; exact hn)).trans (hal.block k hk)
  have hi0 := row_lt h.it.op
  have hi1 := row_lt h.it.to
  have hi2 : B2 < wr.heap.size := h.it.tb.lt
  have hsz : wr.heap.size < w9.heap.size := by have := h2.size; simp at this; omega
  have ho : OwnS w9 (w.heap.size + 1) (.slice (some ⟨gg, 0, none⟩) (m + 1) cap1) (L ++ [x]) := by
    subst hln
    unfold OwnS
    rw [scells_app, List.length_append, scells_sing]
    exact h1
  refine ⟨ho, ?_, h.it.grown (fun k hk => ?_), hblk Nb h.nb.2.1 (fun e => h.ng.2.2.2 e.symm), ?_, ho.gl.1, by omega⟩
  · exact ⟨h2.os.trans (hal.os.trans h.bw.os), h2.tape.trans (hal.tape.trans h.bw.tape), h2.output.trans (hal.output.trans h.bw.output), by have := h.bw.size; omega, fun k hk => (hblk k (Nat.lt_of_lt_of_le hk h.bw.size) (by omega)).trans (h.bw.block k hk)⟩
  · rcases hk with rfl | rfl | rfl
    · exact hblk _ hi0 (fun e => h.ng.1 e.symm)
    · exact hblk _ hi1 (fun e => h.ng.2.1 e.symm)
    · exact hblk _ hi2 (fun e => h.ng.2.2.1 e.symm)
  · rcases h3 with h3 | h3
    · have : gg = g := by simpa [Value.ownBlock, eq_comm] using h3
      rw [this]; exact ⟨h.ng.1, h.ng.2.1, h.ng.2.2.1⟩
    · simp at h3; exact ⟨by omega, by omega, by omega⟩
/-- A round's end: the open span is closed and nothing is behind it. -/
theorem ls_end {w wr w9 X w' : World} {t : Tb} {a : Ad} {f u o r : Int} {B0 B1 B2 g m cap Nb gg cap1 k : Nat} {L : List saT} {cs : Array Value} (h : LS w wr t a f u B0 B1 B2 g m cap Nb true o r L)
    (hk : f + (k : Int) < u ∧ RT t (f + (k : Int)) o ∧ ¬ (k ≠ 0 ∧ Same t (f + (k : Int))) ∧ L = spL t f k) (hc : u ≤ o)
    (h1 : OwnS w9 (w.heap.size + 1) (.slice (some ⟨gg, 0, none⟩) (m + 1) cap1) (L ++ [(f + (k : Int), min o u, whoV t ((f + (k : Int)) % t.maj), phaseV t ((f + (k : Int)) % t.maj))])) (h2 : Below w.heap.size w w9) (h3 : Itr w9 t a B0 B1 B2 o r u) (h4 : gg ≠ B0 ∧ gg ≠ B1 ∧ gg ≠ B2) (h5 : gg < w9.heap.size ∧ wr.heap.size ≤ w9.heap.size)
    (hX : X = w9.alloc (.cells cs 64)) (hb : Below X.heap.size X w') : LS w (w'.setRow w9.heap.size #[.int .i64 0, .int .i64 0, .int .i64 0, .int .i64 0]) t a f u B0 B1 B2 gg (m + 1) cap1 w9.heap.size false o r (spL t f (u - f).toNat) := by
  have hl := h.ln
  have hi0 := row_lt h3.op
  have hi1 := row_lt h3.to
  have hi2 : B2 < w9.heap.size := h3.tb.lt
  have hal : Below w9.heap.size w9 X := by rw [hX]; exact (Below.refl _ _).alloc (Nat.le_refl _) _
  have hXs : X.heap.size = w9.heap.size + 1 := by rw [hX]; simp
  have hb9 : Below w9.heap.size w9 w' := hal.trans (hb.mono hal.size)
  have hL : L ++ [(f + (k : Int), min o u, whoV t ((f + (k : Int)) % t.maj), phaseV t ((f + (k : Int)) % t.maj))] = spL t f (u - f).toNat := by
    have e : (u - f).toNat = k + (u - (f + (k : Int))).toNat := by omega
    rw [e, spL_run hk.2.1 hk.2.2.1 _ (by omega) (by omega), hk.2.2.2]
    congr 4
    omega
  have hblk : ∀ q, q < w9.heap.size → (w'.setRow w9.heap.size #[.int .i64 0, .int .i64 0, .int .i64 0, .int .i64 0]).heap[q]? = w9.heap[q]? := fun q hq => (setRow_other _ _ _ _ (by omega)).trans (hb9.block q hq)
  have hz : (w'.setRow w9.heap.size #[.int .i64 0, .int .i64 0, .int .i64 0, .int .i64 0]).heap.size = w'.heap.size := by simp [World.setRow]
  rw [← hL]
  refine ⟨⟨hb9.os.trans h2.os, hb9.tape.trans h2.tape, hb9.output.trans h2.output, by rw [hz]; have := h2.size; have := hb9.size; omega, fun q hq => (hblk q (Nat.lt_of_lt_of_le hq h2.size)).trans (h2.block q hq)⟩, h3.grown (fun q hq => hblk q (by rcases hq with rfl | rfl | rfl <;> assumption)), ownsS_block h1 (hblk gg h5.1), by simp [hl], ⟨?_, ?_, by omega, by omega, by omega⟩, ⟨h4.1, h4.2.1, h4.2.2, by omega⟩, .inr ⟨rfl, hL⟩⟩
  · have := h.nb; omega
  · rw [hz]; have := hb.size; omega
/-- A round's end: another span is open. -/
theorem ls_more {w wr w9 X w' : World} {t : Tb} {a : Ad} {f u o r r' : Int} {B0 B1 B2 g m cap Nb gg cap1 k : Nat} {L : List saT} {cs : Array Value} (h : LS w wr t a f u B0 B1 B2 g m cap Nb true o r L)
    (hk : f + (k : Int) < u ∧ RT t (f + (k : Int)) o ∧ ¬ (k ≠ 0 ∧ Same t (f + (k : Int))) ∧ L = spL t f k) (hc : o < u) (hBw : w.heap.size < B0)
    (h1 : OwnS w9 (w.heap.size + 1) (.slice (some ⟨gg, 0, none⟩) (m + 1) cap1) (L ++ [(f + (k : Int), min o u, whoV t ((f + (k : Int)) % t.maj), phaseV t ((f + (k : Int)) % t.maj))])) (h2 : Below w.heap.size w w9) (h3 : Itr w9 t a B0 B1 B2 o r u) (h4 : gg ≠ B0 ∧ gg ≠ B1 ∧ gg ≠ B2) (h5 : gg < w9.heap.size ∧ wr.heap.size ≤ w9.heap.size)
    (hX : X = w9.alloc (.cells cs 64)) (hb : Turn B0 X w') (hI : Itr w' t a B0 B1 B2 r r' u) (hrow : w'.heap[w9.heap.size]? = some (.cells cs 64 (0, 0))) : LS w (w'.setRow w9.heap.size (spV t o (min r u))) t a f u B0 B1 B2 gg (m + 1) cap1 w9.heap.size true r r' (spL t f (o - f).toNat) := by
  have hl := h.ln
  have hi0 := row_lt h3.op
  have hi1 := row_lt h3.to
  have hi2 : B2 < w9.heap.size := h3.tb.lt
  have hal : Below w9.heap.size w9 X := by rw [hX]; exact (Below.refl _ _).alloc (Nat.le_refl _) _
  have hXs : X.heap.size = w9.heap.size + 1 := by rw [hX]; simp
  have hmin : min o u = o := by omega
  have hro := hk.2.1.lt
  have e1 : (((o - f).toNat : Nat) : Int) = o - f := by omega
  have e2 : f + (((o - f).toNat : Nat) : Int) = o := by omega
  have hL : L ++ [(f + (k : Int), min o u, whoV t ((f + (k : Int)) % t.maj), phaseV t ((f + (k : Int)) % t.maj))] = spL t f (o - f).toNat := by
    have e : (o - f).toNat = k + (o - (f + (k : Int))).toNat := by omega
    rw [e, spL_run hk.2.1 hk.2.2.1 _ (by omega) (by omega), hk.2.2.2]
    congr 4
    omega
  have hb9 : ∀ q, q < w9.heap.size → q ≠ B0 → w'.heap[q]? = w9.heap[q]? := fun q hq hn => (hb.block q (by omega) hn).trans (hal.block q hq)
  have hz : (w'.setRow w9.heap.size (spV t o (min r u))).heap.size = w'.heap.size := by simp [World.setRow]
  have hbs := hb.size
  rw [← hL]
  refine ⟨⟨hb.os.trans (hal.os.trans h2.os), hb.tape.trans (hal.tape.trans h2.tape), hb.output.trans (hal.output.trans h2.output), by rw [hz]; have := h2.size; omega, fun q hq => (setRow_other _ _ _ _ (by have := h2.size; omega)).trans ((hb9 q (Nat.lt_of_lt_of_le hq h2.size) (by omega)).trans (h2.block q hq))⟩, hI.grown (fun q hq => setRow_other _ _ _ _ (by rcases hq with rfl | rfl | rfl <;> omega)), ownsS_block h1 ((setRow_other _ _ _ _ (by omega)).trans (hb9 gg h5.1 h4.1)), by simp [hl], ⟨?_, ?_, by omega, by omega, by omega⟩, ⟨h4.1, h4.2.1, h4.2.2, by omega⟩, .inl ⟨rfl, (o - f).toNat, ?_, ?_, ?_, ?_, hL⟩⟩
  · have := h.nb; omega
  · rw [hz]; omega
  · rw [e2]; exact setRow_heap _ _ _ _ _ _ hrow
  · omega
  · rw [e2]; exact hI.rt |> fun _ => h3.rt
  · rw [e2]; exact fun g => hk.2.1.en g.2
set_option maxRecDepth 40000 in
set_option maxHeartbeats 16000000 in
theorem impl_spans (t : Tb) (a : Ad) (f u : Int) (w : World) (hm : TM 0 w t a) (hw : TW t a) (hs : TS a) (he : TabE w) (hcp : a.pn ≤ a.pc) (hcs : a.sn ≤ a.sc) :
    Calls Tryz.prog 9 #[tbV t a, .int .i64 f, .int .i64 u] w fun e w' => ∃ v, e = .returned v ∧ OwnS w' (w.heap.size + 1) v (spAll t f u) ∧ Below w.heap.size w w' := by
  obtain ⟨q, hq⟩ := told ((Sd t ∧ IsC f) ∧ IsC u)
  have HB0 : Hid (Below w.heap.size w (w.alloc (.cells (tbA t a) 41))) := (Below.refl _ _).alloc (Nat.le_refl _) _
  have HX0 : Hid (TBx (w.alloc (.cells (tbA t a) 41)) w.heap.size t a) := TBx.new w t a _ rfl
  have hbE : Below (w.alloc (.cells (tbA t a) 41)).heap.size (w.alloc (.cells (tbA t a) 41)) ((w.alloc (.cells (tbA t a) 41)).alloc (.cells #[] 64)) := (Below.refl _ _).alloc (Nat.le_refl _) _
  have HBE : Hid (Below w.heap.size w ((w.alloc (.cells (tbA t a) 41)).alloc (.cells #[] 64))) := HB0.out.trans (hbE.mono HB0.out.size)
  have HXE : Hid (TBx ((w.alloc (.cells (tbA t a) 41)).alloc (.cells #[] 64)) w.heap.size t a) := HX0.out.below hbE
  have HOE : Hid (OwnS ((w.alloc (.cells (tbA t a) 41)).alloc (.cells #[] 64)) (w.heap.size + 1) (.slice (some ⟨w.heap.size + 1, 0, none⟩) 0 0) []) := OwnS.new (w.alloc (.cells (tbA t a) 41)) _ (by simp)
  have hbA : Below ((w.alloc (.cells (tbA t a) 41)).alloc (.cells #[] 64)).heap.size ((w.alloc (.cells (tbA t a) 41)).alloc (.cells #[] 64)) (((w.alloc (.cells (tbA t a) 41)).alloc (.cells #[] 64)).alloc (.cells #[.int .i64 f, .int .i64 u] 3)) := (Below.refl _ _).alloc (Nat.le_refl _) _
  have HBA : Hid (Below w.heap.size w (((w.alloc (.cells (tbA t a) 41)).alloc (.cells #[] 64)).alloc (.cells #[.int .i64 f, .int .i64 u] 3))) := HBE.out.trans (hbA.mono HBE.out.size)
  have HXA : Hid (TBx (((w.alloc (.cells (tbA t a) 41)).alloc (.cells #[] 64)).alloc (.cells #[.int .i64 f, .int .i64 u] 3)) w.heap.size t a) := HXE.out.below hbA
  have HOA : Hid (OwnS (((w.alloc (.cells (tbA t a) 41)).alloc (.cells #[] 64)).alloc (.cells #[.int .i64 f, .int .i64 u] 3)) (w.heap.size + 1) (.slice (some ⟨w.heap.size + 1, 0, none⟩) 0 0) []) := HOE.out.below hbA
  have KA : Hid (GSeg 1 (((w.alloc (.cells (tbA t a) 41)).alloc (.cells #[] 64)).alloc (.cells #[.int .i64 f, .int .i64 u] 3)) (some ⟨w.heap.size + 1 + 1, 0, none⟩) 2 (inX [f, u])) := fun _ => ⟨w.heap.size + 1 + 1, 0, rfl, by simp, fun i hi => by
    have g := CellsAt.new ((w.alloc (.cells (tbA t a) 41)).alloc (.cells #[] 64)) [.int .i64 f, .int .i64 u] 3 (w.heap.size + 1 + 1) (by simp)
    have : i = 0 ∨ i = 1 := by omega
    rcases this with rfl | rfl
    · intro j v hj
      cases j with
      | zero => exact g 0 v hj
      | succ j => simp [inX] at hj
    · intro j v hj
      cases j with
      | zero => exact g 1 v hj
      | succ j => simp [inX] at hj⟩
  have HK : Hid (Calls Tryz.prog 35 #[tbV t a, .slice (some ⟨w.heap.size + 1 + 1, 0, none⟩) 2 2] (((w.alloc (.cells (tbA t a) 41)).alloc (.cells #[] 64)).alloc (.cells #[.int .i64 f, .int .i64 u] 3)) fun e w' => e = .returned (.bool q) ∧ Below (((w.alloc (.cells (tbA t a) 41)).alloc (.cells #[] 64)).alloc (.cells #[.int .i64 f, .int .i64 u] 3)).heap.size (((w.alloc (.cells (tbA t a) 41)).alloc (.cells #[] 64)).alloc (.cells #[.int .i64 f, .int .i64 u] 3)) w') :=
    keeps t a [f, u] 2 2 _ q _ (hm.below HBA.out) hw hs (he.below HBA.out) hcp KA.out (by omega) (hq.trans ⟨fun h => ⟨fun i hi => by
      have : i = 0 ∨ i = 1 := by omega
      rcases this with rfl | rfl
      · exact h.1.2
      · exact h.2, h.1.1⟩, fun h => ⟨⟨h.2, h.1 0 (by omega)⟩, h.1 1 (by omega)⟩⟩)
  have HQ : Hid (q = true ↔ ((Sd t ∧ IsC f) ∧ IsC u)) := hq
  have HNS : Hid (Sd t → u ≤ 50000 → ∀ (o r : Int) (B0 B1 B2 : Nat) (X : World), Itr X t a B0 B1 B2 o r u → Below w.heap.size w X → w.heap.size ≤ B0 → Calls Tryz.prog 64 #[.pointer (some ⟨B0, 0, none⟩), .pointer (some ⟨B1, 0, none⟩), .pointer (some ⟨B2, 0, none⟩)] X fun e w' =>
      (u ≤ o ∧ e = .returned (.tuple #[.agg #[.int .i64 0, .int .i64 0, .int .i64 0, .int .i64 0], .bool false]) ∧ Below X.heap.size X w') ∨
      (o < u ∧ ∃ r', e = .returned (.tuple #[.agg (spV t o (min r u)), .bool true]) ∧ Turn B0 X w' ∧ Itr w' t a B0 B1 B2 r r' u)) := fun h hu o r B0 B1 B2 X hI hX hB => next_span t a o r u B0 B1 B2 w X hI hm hX hB hw hs hcs (sd_tm h) hu
  have HSO : Hid (Sd t → 0 ≤ f → f ≤ 50000 → ∀ X, Below w.heap.size w X → Calls Tryz.prog 37 #[tbV t a, .int .i64 f, .int .i64 u] X fun e w' => ∃ (r : Int) (B0 B1 B2 : Nat), e = .returned (.func (.func 64) #[] #[.pointer (some ⟨B0, 0, none⟩), .pointer (some ⟨B1, 0, none⟩), .pointer (some ⟨B2, 0, none⟩)]) ∧ Itr w' t a B0 B1 B2 f r u ∧ (X.heap.size ≤ B0 ∧ X.heap.size ≤ B1 ∧ X.heap.size ≤ B2) ∧ Below X.heap.size X w') := fun h h0 h1 X hX => spans_of t a f u X (hm.below hX) hw hs hcs (sd_tm h) h0 h1
  clear hm hw hs hq he hcp hcs KA hbA hbE HB0 HX0 HOE
  go_enter Tryz.func9, Tryz.ntmps9
  go_wp2_with (first | (refine wpList_load_row rfl 41 (.tmp 3) rfl w.heap.size rfl 41 (tbA t a) (0, 0) _ HXE.out Tryz.underlying41 rfl (by kernel_rfl) ?_) | fail)
  refine Calls.mono HK.out ?_
  rintro e w1 ⟨rfl, hb1⟩
  have HB1 : Hid (Below w.heap.size w w1) := HBA.out.trans (hb1.mono HBA.out.size)
  have HX1 : Hid (TBx w1 w.heap.size t a) := HXA.out.below hb1
  have HO1 : Hid (OwnS w1 (w.heap.size + 1) (.slice (some ⟨w.heap.size + 1, 0, none⟩) 0 0) []) := HOA.out.below hb1
  clear hb1 HBA HXA HK HOA HBE HXE
  cases q
  · have HT : Hid (spAll t f u = []) := by
      show _ = _
      unfold spAll
      rw [if_neg (fun h => by have := HQ.out.2 ⟨⟨h.1, h.2.1⟩, h.2.2.1⟩; cases this)]
    clear HQ HNS HSO HX1
    go_wp2
    go_ret
    rw [HT.out]
    exact ⟨_, rfl, HO1.out, HB1.out⟩
  have HT : Hid ((Sd t ∧ IsC f) ∧ IsC u) := HQ.out.1 rfl
  clear HQ
  have hy := HT.out.1.2
  have hz := HT.out.2
  unfold IsC at hy hz
  have hwd : IntKind.i64.wrap (u - f) = u - f := by rw [IntKind.wrap_i64]; omega
  have HIC : Hid (∀ X, Calls Tryz.prog 36 #[.int .i64 (u - f), .int .i64 5000] X fun e w' => e = .returned (.bool (inr (u - f) 1 5000)) ∧ w' = X) := fun X => is_count _ _ X
  by_cases hcnt : 1 ≤ u - f ∧ u - f ≤ 5000
  rotate_left
  · have HN : Hid (spAll t f u = []) := by
      show _ = _
      unfold spAll
      rw [if_neg (fun h => hcnt h.2.2.2)]
    rw [inr_no hcnt] at HIC
    clear HNS HSO HX1 hcnt hy hz
    go_wp2_with (first | (go_at_call 36; refine (HIC.out _).mono ?_; rintro u' w2 ⟨rfl, hww⟩; rw [hww]; clear hww) | fail)
    go_ret
    rw [HN.out]
    exact ⟨_, rfl, HO1.out, HB1.out⟩
  rw [inr_yes hcnt] at HIC
  have HAL : Hid (spAll t f u = spL t f (u - f).toNat) := by
    show _ = _
    unfold spAll
    rw [if_pos ⟨HT.out.1.1, HT.out.1.2, HT.out.2, hcnt.1, hcnt.2⟩]
  have HNS' : Hid _ := HNS.out HT.out.1.1 hz.2
  have HSO' : Hid _ := HSO.out HT.out.1.1 hy.1 hy.2
  clear HNS HSO
  go_wp2_with (first | (go_at_call 36; refine (HIC.out _).mono ?_; rintro u' w2 ⟨rfl, hww⟩; rw [hww]; clear hww) | (refine wpList_load_row rfl 41 (.tmp 3) rfl w.heap.size rfl 41 (tbA t a) (0, 0) _ HX1.out Tryz.underlying41 rfl (by kernel_rfl) ?_) | fail)
  refine Calls.mono (HSO'.out _ HB1.out) ?_
  rintro e w2 ⟨r0, B0, B1, B2, rfl, hi2, hbb, hb2⟩
  have hsz1 : w.heap.size + 1 < w1.heap.size := by have := (HO1.out.gl).1; exact this
  have HB2 : Hid (Below w.heap.size w w2) := HB1.out.trans (hb2.mono HB1.out.size)
  have HI2 : Hid (Itr w2 t a B0 B1 B2 f r0 u) := hi2
  have HBB : Hid (w1.heap.size ≤ B0 ∧ w1.heap.size ≤ B1 ∧ w1.heap.size ≤ B2) := hbb
  have HO2 : Hid (OwnS w2 (w.heap.size + 1) (.slice (some ⟨w.heap.size + 1, 0, none⟩) 0 0) []) := HO1.out.below hb2
  clear hb2 hi2 hbb HB1 HX1 HO1 HSO' HIC
  go_wp2_with fail
  refine Calls.mono (HNS'.out f r0 B0 B1 B2 _ HI2.out HB2.out (by have := HBB.out.1; omega)) ?_
  rintro e w3 (⟨h1, _, _⟩ | ⟨h1, r1, rfl, hT, hI⟩)
  · exfalso; omega
  have HLS : Hid (LS w (w3.alloc (.cells (spV t f (min r0 u)) 64)) t a f u B0 B1 B2 (w.heap.size + 1) 0 0 w3.heap.size true r0 r1 []) := by
    have hal : Below w3.heap.size w3 (w3.alloc (.cells (spV t f (min r0 u)) 64)) := (Below.refl _ _).alloc (Nat.le_refl _) _
    have hbw := HB2.out.trans (hT.below (by have := HBB.out.1; omega) HB2.out.size)
    have q0 := row_lt hI.op
    have q1 := row_lt hI.to
    have q2 : B2 < w3.heap.size := hI.tb.lt
    have hBB := HBB.out
    have e0 : f + ((0 : Nat) : Int) = f := by omega
    refine ⟨hbw.trans (hal.mono hbw.size), hI.below hal, ownsS_block HO2.out ((hal.block _ (by have := hbw.size; omega)).trans (hT.block _ (HO2.out.gl).1 (by omega))), rfl, ⟨by omega, by simp, by omega, by omega, by omega⟩, ⟨by omega, by omega, by omega, by omega⟩, .inl ⟨rfl, 0, ?_, ?_, ?_, fun g => g.1 rfl, rfl⟩⟩
    · rw [e0]; exact new_row w3 _ _ _ rfl
    · omega
    · rw [e0]; exact HI2.out.rt
  have HBB2 : Hid (w.heap.size < B0) := by have := HBB.out.1; show _ < _; omega
  clear hT hI HB2 HI2 HBB HO2
  obtain ⟨q3, hq3⟩ : ∃ q, whoV t (f % t.maj) = q := ⟨_, rfl⟩
  obtain ⟨q4, hq4⟩ : ∃ q, phaseV t (f % t.maj) = q := ⟨_, rfl⟩
  have hsv : spV t f (min r0 u) = #[.int .i64 f, .int .i64 (min r0 u), .int .i64 q3, .int .i64 q4] := by unfold spV; rw [hq3, hq4]
  rw [hsv] at HLS ⊢
  clear hsv hq3 hq4
  obtain ⟨ii, hii, hz0', hs0, hb0⟩ := sa_info'
  have HII : Hid (Tryz.prog.info? 64 = some ii ∧ ii.zero = some (.agg #[.int .i64 0, .int .i64 0, .int .i64 0, .int .i64 0]) ∧ ii.size = 4 ∧ ii.bytes = 32) := ⟨hii, hz0', hs0, hb0⟩
  clear hii hz0' hs0 hb0
  go_wp2
  go_loopw [7, 9, 10] (fun v p bb wr => ∃ (m g cap Nb : Nat) (b : Bool) (o r : Int) (L : List saT), v = .slice (some ⟨g, 0, none⟩) m cap ∧ p = .pointer (some ⟨Nb, 0, none⟩) ∧ bb = .bool b ∧ m ≤ 5000 ∧ Hid (LS w wr t a f u B0 B1 B2 g m cap Nb b o r L)) (fun _ _ bb wr => (u - cint wr B0).toNat + bone bb)
  case atStart => exact ⟨0, w.heap.size + 1, 0, w3.heap.size, true, r0, r1, [], rfl, rfl, rfl, by omega, HLS.out⟩
  case round =>
    clear HLS
    obtain ⟨m, g, cap, Nb, b, o, r, L, rfl, rfl, rfl, hm5, HLS⟩ := hrel
    cases b
    · have HLE : Hid (L = spL t f (u - f).toNat) := by
        rcases HLS.out.st with ⟨h, _⟩ | ⟨_, h⟩
        · cases h
        · exact h
      go_wp2
      go_ret
      rw [HAL.out, ← HLE.out]
      exact ⟨_, rfl, HLS.out.ow, HLS.out.bw⟩
    obtain ⟨k, HRW, hku, HKK⟩ : ∃ k : Nat, Hid (wr.heap[Nb]? = some (.cells (spV t (f + (k : Int)) (min o u)) 64 (0, 0))) ∧ f + (k : Int) < u ∧ Hid (f + (k : Int) < u ∧ RT t (f + (k : Int)) o ∧ ¬ (k ≠ 0 ∧ Same t (f + (k : Int))) ∧ L = spL t f k) := by
      rcases HLS.out.st with ⟨_, k, g1, g2⟩ | ⟨h, _⟩
      · exact ⟨k, g1, g2.1, g2⟩
      · cases h
    have hmk : m < 5000 := by
      have h1 := HLS.out.ln
      have h2 := (spL_len t f k).1
      rw [← HKK.out.2.2.2] at h2
      omega
    obtain ⟨y1, HY1⟩ : ∃ y, Hid (f + (k : Int) = y) := ⟨_, rfl⟩
    obtain ⟨y2, HY2⟩ : ∃ y, Hid (min o u = y) := ⟨_, rfl⟩
    obtain ⟨y3, HY3⟩ : ∃ y, Hid (whoV t ((f + (k : Int)) % t.maj) = y) := ⟨_, rfl⟩
    obtain ⟨y4, HY4⟩ : ∃ y, Hid (phaseV t ((f + (k : Int)) % t.maj) = y) := ⟨_, rfl⟩
    have HRW2 : Hid (wr.heap[Nb]? = some (.cells #[.int .i64 y1, .int .i64 y2, .int .i64 y3, .int .i64 y4] 64 (0, 0))) := by
      have := HRW.out
      simp only [spV] at this
      rw [HY2.out, HY3.out, HY4.out, HY1.out] at this
      exact this
    have hln := HLS.out.ln
    have hown : (wr.alloc (.cells #[.int .i64 y1, .int .i64 y2, .int .i64 y3, .int .i64 y4] 64)).ownsRow (w.heap.size + 1) 64 4 (.slice (some ⟨g, 0, none⟩) m cap) m (scells L) := by
      have := HLS.out.ow.below ((Below.refl wr.heap.size wr).alloc (Nat.le_refl _) (.cells #[.int .i64 y1, .int .i64 y2, .int .i64 y3, .int .i64 y4] 64))
      unfold OwnS at this
      rw [hln] at this
      exact this
    have HZk : Hid (∀ (gg cap1 : Nat) (w9 : World), w9.ownsRow (w.heap.size + 1) 64 4 (.slice (some ⟨gg, 0, none⟩) (m + 1) cap1) (m + 1) (scells L ++ [.int .i64 y1, .int .i64 y2, .int .i64 y3, .int .i64 y4]) → (wr.alloc (.cells #[.int .i64 y1, .int .i64 y2, .int .i64 y3, .int .i64 y4] 64)).grownBy w9 (Value.slice (some ⟨g, 0, none⟩) m cap).ownBlock → ((Value.slice (some ⟨g, 0, none⟩) m cap).ownBlock = some gg ∨ gg = (wr.alloc (.cells #[.int .i64 y1, .int .i64 y2, .int .i64 y3, .int .i64 y4] 64)).heap.size) → (OwnS w9 (w.heap.size + 1) (.slice (some ⟨gg, 0, none⟩) (m + 1) cap1) (L ++ [(f + (k : Int), min o u, whoV t ((f + (k : Int)) % t.maj), phaseV t ((f + (k : Int)) % t.maj))]) ∧ Below w.heap.size w w9 ∧ Itr w9 t a B0 B1 B2 o r u ∧ w9.heap[Nb]? = wr.heap[Nb]? ∧ (gg ≠ B0 ∧ gg ≠ B1 ∧ gg ≠ B2) ∧ (gg < w9.heap.size ∧ wr.heap.size ≤ w9.heap.size)) ∧ w9.heap[Nb]? = some (.cells #[.int .i64 y1, .int .i64 y2, .int .i64 y3, .int .i64 y4] 64 (0, 0))) := fun gg cap1 w9 h1 h2 h3 => by
      have := ls_app (x := (y1, y2, y3, y4)) HLS.out h1 h2 h3
      rw [HY2.out, HY3.out, HY4.out, HY1.out]
      exact ⟨this, this.2.2.2.1.trans HRW2.out⟩
    have HMS : Hid (cint wr B0 = o) := cint_eq (row_cell HLS.out.it.op 0 _ rfl)
    have hlow : w.heap.size + 1 ≤ wr.heap.size := by have := HLS.out.ow.gl; omega
    clear HRW hln
    go_wp2_with (first | (refine wpList_load_row rfl 64 (.tmp 9) rfl Nb rfl 64 (#[.int .i64 y1, .int .i64 y2, .int .i64 y3, .int .i64 y4]) (0, 0) _ (HRW2.out) Tryz.underlying64 rfl (by kernel_rfl) ?_) | (at_builtin; (refine wpList_append_lies _ rfl (.tmp 41) (.tmp 43) 33 rfl (w.heap.size + 1) 64 ii (.agg #[.int .i64 0, .int .i64 0, .int .i64 0, .int .i64 0]) 4 32 Tryz.underlying33 HII.out.1 HII.out.2.1 HII.out.2.2.1 HII.out.2.2.2 rfl (by omega) _ _ _ rfl hown _ 1 1 [.int .i64 y1, .int .i64 y2, .int .i64 y3, .int .i64 y4] rfl rfl (sa_new _ (y1, y2, y3, y4) _ (by simp)) (sa_one _ _ _ _) (by omega) (by unfold maxLen; omega) (by omega) (by simp; omega) _ rfl ?_; intro gg cap1 w9 hown1 hgrow hat hlt1; have HY : Hid _ := HZk.out gg cap1 w9 hown1 hgrow hat; clear hown1 hgrow hat hlt1)) | (refine wpList_load_row rfl 64 (.tmp 9) rfl Nb rfl 64 (#[.int .i64 y1, .int .i64 y2, .int .i64 y3, .int .i64 y4]) (0, 0) _ (HY.out.2) Tryz.underlying64 rfl (by kernel_rfl) ?_) | fail)
    have hbX : Below w9.heap.size w9 (w9.alloc (.cells #[.int .i64 y1, .int .i64 y2, .int .i64 y3, .int .i64 y4] 64)) := (Below.refl _ _).alloc (Nat.le_refl _) _
    refine Calls.mono (HNS'.out o r B0 B1 B2 _ (HY.out.1.2.2.1.below hbX) (HY.out.1.2.1.trans (hbX.mono HY.out.1.2.1.size)) (by have := HBB2.out; omega)) ?_
    have HXR : Hid ((w9.alloc (.cells #[.int .i64 y1, .int .i64 y2, .int .i64 y3, .int .i64 y4] 64)).heap[w9.heap.size]? = some (.cells #[.int .i64 y1, .int .i64 y2, .int .i64 y3, .int .i64 y4] 64 (0, 0))) := new_row w9 _ _ _ rfl
    clear hbX hown HZk HRW2
    rintro e w' (⟨h1, rfl, hb⟩ | ⟨h1, r', rfl, hT, hI⟩)
    · have HNX : Hid (LS w (w'.setRow w9.heap.size #[.int .i64 0, .int .i64 0, .int .i64 0, .int .i64 0]) t a f u B0 B1 B2 gg (m + 1) cap1 w9.heap.size false o r (spL t f (u - f).toNat)) := ls_end HLS.out HKK.out h1 HY.out.1.1 HY.out.1.2.1 HY.out.1.2.2.1 HY.out.1.2.2.2.2.1 HY.out.1.2.2.2.2.2 rfl hb
      have HXW : Hid (w'.heap[w9.heap.size]? = some (.cells #[.int .i64 y1, .int .i64 y2, .int .i64 y3, .int .i64 y4] 64 (0, 0))) := row_below HXR.out hb
      have HMN : Hid (cint (w'.setRow w9.heap.size #[.int .i64 0, .int .i64 0, .int .i64 0, .int .i64 0]) B0 = o) := cint_eq (row_cell HNX.out.it.op 0 _ rfl)
      clear hb HXR HY HLS HKK
      go_wp2_with (first | (refine wpList_store_row rfl 64 (.tmp 9) (.tmp 39) rfl w9.heap.size (#[.int .i64 0, .int .i64 0, .int .i64 0, .int .i64 0]) rfl rfl 64 (#[.int .i64 y1, .int .i64 y2, .int .i64 y3, .int .i64 y4]) HXW.out (by kernel_rfl) rfl (by simp [Value.oneCell']) ?_) | fail)
      go_roundw
      case rel => exact ⟨m + 1, gg, cap1, w9.heap.size, false, o, r, _, rfl, rfl, rfl, by omega, HNX.out⟩
      case measure => rw [HMS.out, HMN.out]; simp only [bone]; omega
    · have hXT : (w9.alloc (.cells #[.int .i64 y1, .int .i64 y2, .int .i64 y3, .int .i64 y4] 64)).heap.size = w9.heap.size + 1 := by simp
      have hne : w9.heap.size ≠ B0 := by have := row_lt HY.out.1.2.2.1.op; omega
      have hro : w'.heap[w9.heap.size]? = some (.cells #[.int .i64 y1, .int .i64 y2, .int .i64 y3, .int .i64 y4] 64 (0, 0)) := (hT.block _ (by omega) hne).trans HXR.out
      have HXW : Hid (w'.heap[w9.heap.size]? = some (.cells #[.int .i64 y1, .int .i64 y2, .int .i64 y3, .int .i64 y4] 64 (0, 0))) := hro
      have HNX : Hid (LS w (w'.setRow w9.heap.size (spV t o (min r u))) t a f u B0 B1 B2 gg (m + 1) cap1 w9.heap.size true r r' (spL t f (o - f).toNat)) := ls_more HLS.out HKK.out h1 HBB2.out HY.out.1.1 HY.out.1.2.1 HY.out.1.2.2.1 HY.out.1.2.2.2.2.1 HY.out.1.2.2.2.2.2 rfl hT hI hro
      have HMN : Hid (cint (w'.setRow w9.heap.size (spV t o (min r u))) B0 = r) := cint_eq (row_cell HNX.out.it.op 0 _ rfl)
      have hor : o < r := HLS.out.it.rt.lt
      obtain ⟨q3, hq3⟩ : ∃ q, whoV t (o % t.maj) = q := ⟨_, rfl⟩
      obtain ⟨q4, hq4⟩ : ∃ q, phaseV t (o % t.maj) = q := ⟨_, rfl⟩
      have hsv : spV t o (min r u) = #[.int .i64 o, .int .i64 (min r u), .int .i64 q3, .int .i64 q4] := by unfold spV; rw [hq3, hq4]
      rw [hsv] at HNX HMN ⊢
      clear hT hI HXR HY HLS HKK hro hsv hq3 hq4
      go_wp2_with (first | (refine wpList_store_row rfl 64 (.tmp 9) (.tmp 39) rfl w9.heap.size (#[.int .i64 o, .int .i64 (min r u), .int .i64 q3, .int .i64 q4]) rfl rfl 64 (#[.int .i64 y1, .int .i64 y2, .int .i64 y3, .int .i64 y4]) HXW.out (by kernel_rfl) rfl (by simp [Value.oneCell']) ?_) | fail)
      go_roundw
      case rel => exact ⟨m + 1, gg, cap1, w9.heap.size, true, r, r', _, rfl, rfl, rfl, by omega, HNX.out⟩
      case measure => rw [HMS.out, HMN.out]; simp only [bone]; omega
end Go.Proofs.YtphdijkpjjokaaaGreatDoor
