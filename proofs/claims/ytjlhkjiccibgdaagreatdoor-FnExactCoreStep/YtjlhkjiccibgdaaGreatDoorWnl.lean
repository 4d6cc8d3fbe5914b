/-
  A region that draws its order, whose operations only read and whose callees only make new memory: one walk, in the order of the text, serves every order. No function of the program in sight; no conditions but those that each fact names.
  Lists of windows (three numbers each) in memory, and what the laws' helpers on them do: a copy, the measure, whether two are alike, the marks; how a list that came in is read. Conditions: a list that is marked is the call's own; lengths are at most 1048576.
  Whether a list of windows is right: the specification's own function. Conditions: the lists are at most 1048576 long.
-/
import Derived.Test.YtjlhkjiccibgdaaGreatDoorWnd
import Derived.BigQuiet
import Derived.Test.YtjlhkjiccibgdaaGreatDoorProg
import Derived.Deep.RegionHeld3
import Derived.Deep.QuietTactic
import Derived.Deep.SlicePairs
import Derived.Deep.AppendLies
import Derived.OwnWalk
import Derived.Lib.SmallJoins
namespace Go.Proofs.YtjlhkjiccibgdaaGreatDoor
open Go.ChangeShapes Go.WideShapes Go.ChangeAt Go.RowKit Go.Deep
set_option linter.unusedVariables false

/-- A world in which all that lay in 'W0' lies as it lay. -/
structure Gr (W0 : World) where
  w : World
  h : Below W0.heap.size W0 w
theorem gr_some (W0 : World) : Nonempty (Gr W0) := ⟨⟨W0, Below.refl _ _⟩⟩
theorem region_alike {P : Program} {id : Nat} {Q : Exit → Act → World → Prop} {a : Act} {W0 : World} {l : List Oper} (hm : P.follows .mixedOrders = true) (hB : Region.lexB .any l.toArray = true)
    (h : wpQuiet P l.toArray (fun w' => ∃ x : Gr W0, w' = x.w) (fun a' => ∀ w', (∃ x : Gr W0, w' = x.w) → Q .normal a' w') l a) : (Code.region id l.toArray true).wp P Q a W0 :=
  wp_region_quiet (C := fun w' => ∃ x : Gr W0, w' = x.w) hm hB ⟨⟨_, (Below.refl _ _).drew⟩, rfl⟩ (by simpa using h)
theorem gr_call {P : Program} {f : FuncId} {args : Array Value} {W0 : World} {x : Gr W0} {v : Value} (h : Calls P f args x.w fun e w' => e = .returned v ∧ Below x.w.heap.size x.w w') :
    Calls P f args x.w fun e w'' => e = .returned v ∧ ∃ y : Gr W0, w'' = y.w :=
  h.mono fun e w' ⟨he, hb⟩ => ⟨he, ⟨w', x.h.trans (hb.mono x.h.size)⟩, rfl⟩
theorem gr_same {P : Program} {f : FuncId} {args : Array Value} {W0 : World} {x : Gr W0} {v : Value} (h : Calls P f args x.w fun e w' => e = .returned v ∧ w' = x.w) :
    Calls P f args x.w fun e w'' => e = .returned v ∧ ∃ y : Gr W0, w'' = y.w :=
  h.mono fun e w' ⟨he, hb⟩ => ⟨he, x, hb⟩
theorem gr_cell {W0 : World} {p : Addr} {v : Value} (h : W0.cell? p = some v) (x : Gr W0) : x.w.cell? p = some v :=
  (x.h.cell (World.block_lt_of_cell? W0 _ h)).trans h
end Go.Proofs.YtjlhkjiccibgdaaGreatDoor
namespace Go.Proofs.YtjlhkjiccibgdaaGreatDoor
open Go.ChangeShapes Go.WideShapes Go.ChangeAt Go.RowKit Go.Deep Go.Joins
set_option linter.unusedVariables false

theorem ownsRow_below {w w' : World} {base : Nat} {e : TypeId} {size : Nat} {v : Value} {n : Nat} {xs : List Value} (h : w.ownsRow base e size v n xs) (hb : Below w.heap.size w w') : w'.ownsRow base e size v n xs :=
  World.ownsRow.kept (row := none) h ⟨hb.os, hb.tape, hb.output, hb.size, fun k hk _ => hb.block k hk⟩ (by cases hv : v.ownBlock <;> simp)
def A3 (w : World) (b o : Nat) (x : Wn) : Prop := w.cell? ⟨b, o, none⟩ = some (.int .i64 x.1) ∧ w.cell? ⟨b, o + 1, none⟩ = some (.int .i64 x.2.1) ∧ w.cell? ⟨b, o + 2, none⟩ = some (.int .i64 x.2.2)
def ASeg (w : World) (a : Option Addr) (xs : List Wn) : Prop :=
  0 < xs.length → ∃ b off, a = some ⟨b, off, none⟩ ∧ b < w.heap.size ∧ ∀ i, i < xs.length → A3 w b (off + i * 3) (xs.getD i wn0)
theorem ASeg.at {w : World} {a : Option Addr} {xs : List Wn} (h : ASeg w a xs) (i : Nat) (hi : i < xs.length) : ∃ b off, a = some ⟨b, off, none⟩ ∧ b < w.heap.size ∧ A3 w b (off + i * 3) (xs.getD i wn0) := by
  obtain ⟨b, off, e, hlt, hc⟩ := h (by omega)
  exact ⟨b, off, e, hlt, hc i hi⟩
/-- A list that lies in a block from 'lo' on and below 'hi' that may be written. -/
def AI (w : World) (lo hi : Nat) (a : Option Addr) (xs : List Wn) : Prop :=
  0 < xs.length → ∃ B off, a = some ⟨B, off, none⟩ ∧ lo ≤ B ∧ B < hi ∧ B < w.heap.size ∧ (∀ i, i < xs.length → A3 w B (off + i * 3) (xs.getD i wn0)) ∧ ∀ j, w.frozen? ⟨B, j, none⟩ = false
theorem A3.of {w w' : World} {b o : Nat} {x : Wn} (h : A3 w b o x) (hc : ∀ i, w'.cell? ⟨b, i, none⟩ = w.cell? ⟨b, i, none⟩) : A3 w' b o x := ⟨(hc _).trans h.1, (hc _).trans h.2.1, (hc _).trans h.2.2⟩
theorem AI.seg {w : World} {lo hi : Nat} {a : Option Addr} {xs : List Wn} (h : AI w lo hi a xs) : ASeg w a xs := fun h0 => by
  obtain ⟨B, off, e, _, _, hlt, hc, _⟩ := h h0
  exact ⟨B, off, e, hlt, hc⟩
theorem AI.betw {w w' : World} {lo hi l' h' : Nat} {a : Option Addr} {xs : List Wn} (h : AI w lo hi a xs) (hb : Betw l' h' w w') (ho : hi ≤ l' ∨ h' ≤ lo) : AI w' lo hi a xs := fun h0 => by
  obtain ⟨B, off, e, h1, h2, hlt, hc, hf⟩ := h h0
  exact ⟨B, off, e, h1, h2, Nat.lt_of_lt_of_le hlt hb.size, fun i hi => (hc i hi).of (fun j => hb.cell (p := ⟨B, j, none⟩) hlt (by simp; omega)), fun j => (hb.frozen (p := ⟨B, j, none⟩) hlt (by simp; omega)).trans (hf j)⟩
theorem AI.below {w w' : World} {lo hi : Nat} {a : Option Addr} {xs : List Wn} (h : AI w lo hi a xs) (hb : Below w.heap.size w w') : AI w' lo hi a xs :=
  AI.betw (l' := 0) (h' := 0) h (Below.betw hb) (.inr (Nat.zero_le _))
def acV (x : Wn) : Value := .agg #[.int .i64 x.1, .int .i64 x.2.1, .int .i64 x.2.2]
theorem eq_acc (x : Wn) (w : World) : Calls Tryz.prog 30 #[.agg #[.int .i64 x.1, .int .i64 x.2.1, .int .i64 x.2.2], .agg #[.int .i64 x.1, .int .i64 x.2.1, .int .i64 x.2.2]] w fun e w' => e = .returned (.bool true) ∧ Below w.heap.size w w' := by
  obtain ⟨x1, x2, x3⟩ := x
  simp only
  go_enter Tryz.func30, Tryz.ntmps30
  go_wp2
  go_ret
  exact ⟨rfl, ((Below.refl _ _).alloc (Nat.le_refl _) _).alloc (by simp) _⟩
set_option maxHeartbeats 2000000 in
theorem eq_accs (a b : Option Addr) (ca cb n : Nat) (xs : List Wn) (w : World) (ha : ASeg w a xs) (hb : ASeg w b xs) (hl : xs.length = n) (hn : n ≤ 1048576) :
    Calls Tryz.prog 11 #[.slice a n ca, .slice b n cb] w fun e w' => e = .returned (.bool true) ∧ Below w.heap.size w w' := by
  have HL : Hid _ := hl
  have HA : Hid (ASeg w a xs ∧ ASeg w b xs) := And.intro ha hb
  clear ha hb hl
  go_enter Tryz.func11, Tryz.ntmps11
  go_wp2
  go_loopw [5] (fun i wr => ∃ k : Nat, k ≤ n ∧ i = .int .i64 k ∧ Hid (Below w.heap.size w wr)) (fun i _ => n - (intOf i).toNat)
  case atStart => exact ⟨0, by omega, rfl, Below.refl _ _⟩
  case round =>
    obtain ⟨k, hk, rfl, HB⟩ := hrel
    by_cases hlt : k < n
    · have hlt' : (k : Int) < (n : Int) := by omega
      have hl : k < xs.length := by rw [HL.out]; exact hlt
      obtain ⟨b1, o1, rfl, hbl1, p1⟩ := HA.out.1.at k hl
      obtain ⟨b2, o2, rfl, hbl2, p2⟩ := HA.out.2.at k hl
      have hb := HB.out
      replace p1 := p1.of (w' := wr) (fun i => hb.cell (p := ⟨b1, i, none⟩) hbl1)
      replace p2 := p2.of (w' := wr) (fun i => hb.cell (p := ⟨b2, i, none⟩) hbl2)
      generalize xs.getD k wn0 = x at p1 p2
      obtain ⟨c0, c1, c2⟩ := p1
      obtain ⟨d0, d1, d2⟩ := p2
      have HE : Hid _ := fun X => eq_acc x X
      obtain ⟨x1, x2, x3⟩ := x
      simp only at c0 c1 c2 d0 d1 d2
      clear hl hbl1 hbl2 HB
      go_wp2
      go_region_held3 (fun w' => w'.cell? ⟨b1, o1 + k * 3, none⟩ = some (.int .i64 x1) ∧ w'.cell? ⟨b1, o1 + k * 3 + 1, none⟩ = some (.int .i64 x2) ∧ w'.cell? ⟨b1, o1 + k * 3 + 2, none⟩ = some (.int .i64 x3) ∧ w'.cell? ⟨b2, o2 + k * 3, none⟩ = some (.int .i64 x1) ∧ w'.cell? ⟨b2, o2 + k * 3 + 1, none⟩ = some (.int .i64 x2) ∧ w'.cell? ⟨b2, o2 + k * 3 + 2, none⟩ = some (.int .i64 x3)) (first | exact ⟨c0, c1, c2, d0, d1, d2⟩) (first | (go_at_call 30; refine Calls.mono (HE.out _) ?_; rintro u w9 ⟨rfl, hbb⟩; (first | replace hb := hb.trans (hbb.mono hb.size) | replace hb := hb.drew.trans (hbb.mono hb.drew.size)); replace c0 := kept_cell hbb c0; replace c1 := kept_cell hbb c1; replace c2 := kept_cell hbb c2; replace d0 := kept_cell hbb d0; replace d1 := kept_cell hbb d1; replace d2 := kept_cell hbb d2; clear hbb))
      go_wp2
      go_roundw
      case rel => exact ⟨k + 1, by omega, by go_num, hb⟩
      case measure => simp [intOf]; omega
    · go_wp2
      go_ret
      exact ⟨rfl, HB.out⟩
def mk3 (k : Nat) : Wn := ((k : Int), (k : Int) + 1, (k : Int) + 2)
def marksA (k n : Nat) : List Wn := (List.range n).map fun i => mk3 (k + 3 * i)
theorem marksA_len (k n : Nat) : (marksA k n).length = n := by simp [marksA]
theorem marksA_at (k n i : Nat) (hi : i < n) : (marksA k n).getD i wn0 = mk3 (k + 3 * i) := by simp [marksA, hi, List.getD]
/-- A block of triples, m of which have been laid. -/
structure TriBlk (w : World) (B off n m : Nat) (xs : List Wn) : Prop where
  lt : B < w.heap.size
  free : ∀ j, w.frozen? ⟨B, j, none⟩ = false
  room : ∀ i, i < n → ∀ j, j < 3 → ∃ u, w.cell? ⟨B, off + i * 3 + j, none⟩ = some u
  done : ∀ i, i < m → A3 w B (off + i * 3) (xs.getD i wn0)
theorem TriBlk.put {w : World} {B off n m : Nat} {xs : List Wn} (h : TriBlk w B off n m xs) (hm : m < n) (x1 x2 x3 : Int) (he : xs.getD m wn0 = (x1, x2, x3)) :
    TriBlk (((w.setCell ⟨B, off + m * 3, none⟩ (.int .i64 x1)).setCell ⟨B, off + m * 3 + 1, none⟩ (.int .i64 x2)).setCell ⟨B, off + m * 3 + 2, none⟩ (.int .i64 x3)) B off n (m + 1) xs := by
  obtain ⟨u0, h0⟩ := h.room m hm 0 (by omega)
  obtain ⟨u1, h1⟩ := h.room m hm 1 (by omega)
  obtain ⟨u2, h2⟩ := h.room m hm 2 (by omega)
  rw [Nat.add_zero] at h0
  have hoth : ∀ q, q ≠ off + m * 3 → q ≠ off + m * 3 + 1 → q ≠ off + m * 3 + 2 → (((w.setCell ⟨B, off + m * 3, none⟩ (.int .i64 x1)).setCell ⟨B, off + m * 3 + 1, none⟩ (.int .i64 x2)).setCell ⟨B, off + m * 3 + 2, none⟩ (.int .i64 x3)).cell? ⟨B, q, none⟩ = w.cell? ⟨B, q, none⟩ := fun q e1 e2 e3 => by
    rw [World.cell?_setCell_other _ _ _ _ (by intro c; injection c with c1 c2 c3; omega), World.cell?_setCell_other _ _ _ _ (by intro c; injection c with c1 c2 c3; omega), World.cell?_setCell_other _ _ _ _ (by intro c; injection c with c1 c2 c3; omega)]
  have k0 : (((w.setCell ⟨B, off + m * 3, none⟩ (.int .i64 x1)).setCell ⟨B, off + m * 3 + 1, none⟩ (.int .i64 x2)).setCell ⟨B, off + m * 3 + 2, none⟩ (.int .i64 x3)).cell? ⟨B, off + m * 3, none⟩ = some (.int .i64 x1) := by
    rw [World.cell?_setCell_other _ _ _ _ (by simp), World.cell?_setCell_other _ _ _ _ (by simp)]
    exact World.cell?_setCell_same _ _ _ h0
  have k1 : (((w.setCell ⟨B, off + m * 3, none⟩ (.int .i64 x1)).setCell ⟨B, off + m * 3 + 1, none⟩ (.int .i64 x2)).setCell ⟨B, off + m * 3 + 2, none⟩ (.int .i64 x3)).cell? ⟨B, off + m * 3 + 1, none⟩ = some (.int .i64 x2) := by
    have e1 : (w.setCell ⟨B, off + m * 3, none⟩ (.int .i64 x1)).cell? ⟨B, off + m * 3 + 1, none⟩ = some u1 := by rw [World.cell?_setCell_other _ _ _ _ (by simp)]; exact h1
    rw [World.cell?_setCell_other _ _ _ _ (by simp)]
    exact World.cell?_setCell_same _ _ _ e1
  have k2 : (((w.setCell ⟨B, off + m * 3, none⟩ (.int .i64 x1)).setCell ⟨B, off + m * 3 + 1, none⟩ (.int .i64 x2)).setCell ⟨B, off + m * 3 + 2, none⟩ (.int .i64 x3)).cell? ⟨B, off + m * 3 + 2, none⟩ = some (.int .i64 x3) := by
    have e2 : ((w.setCell ⟨B, off + m * 3, none⟩ (.int .i64 x1)).setCell ⟨B, off + m * 3 + 1, none⟩ (.int .i64 x2)).cell? ⟨B, off + m * 3 + 2, none⟩ = some u2 := by rw [World.cell?_setCell_other _ _ _ _ (by simp), World.cell?_setCell_other _ _ _ _ (by simp)]; exact h2
    exact World.cell?_setCell_same _ _ _ e2
  refine ⟨by simpa using h.lt, fun j => by simpa using h.free j, fun i hi j hj => ?_, fun i hi => ?_⟩
  · by_cases e0 : off + i * 3 + j = off + m * 3
    · rw [e0]; exact ⟨_, k0⟩
    · by_cases e1 : off + i * 3 + j = off + m * 3 + 1
      · rw [e1]; exact ⟨_, k1⟩
      · by_cases e2 : off + i * 3 + j = off + m * 3 + 2
        · rw [e2]; exact ⟨_, k2⟩
        · rw [hoth _ e0 e1 e2]; exact h.room i hi j hj
  · by_cases e : i = m
    · subst e
      rw [he]
      exact ⟨k0, k1, k2⟩
    · have hd := h.done i (by omega)
      exact ⟨(hoth _ (by omega) (by omega) (by omega)).trans hd.1, (hoth _ (by omega) (by omega) (by omega)).trans hd.2.1, (hoth _ (by omega) (by omega) (by omega)).trans hd.2.2⟩
set_option maxHeartbeats 2000000 in
theorem mark_accs (lo hi cap n k : Nat) (a : Option Addr) (xs : List Wn) (w : World) (ho : AI w lo hi a xs) (hl : xs.length = n) (hn : n ≤ 1048576) (hk1 : k ≤ 1000) :
    Calls Tryz.prog 13 #[.slice a n cap, .int .i64 (k : Int)] w fun e w' => e = .returned (.int .i64 ((k + 3 * n : Nat) : Int)) ∧ Betw lo hi w w' ∧ AI w' lo hi a (marksA k n) := by
  by_cases h0 : n = 0
  · subst h0
    go_enter Tryz.func13, Tryz.ntmps13
    go_wp2
    refine wp_loop_rounds 1 ?_
    rw [rounds_succ]
    go_wp2
    go_ret
    exact ⟨ret_int (by simp), Betw.refl _ _ _, fun h => absurd h (by simp [marksA])⟩
  · obtain ⟨B, off, rfl, hB1, hB2, hlt, hc, hf⟩ := ho (by omega)
    have HB : Hid (TriBlk w B off n 0 (marksA k n)) := ⟨hlt, hf, fun i hi j hj => by
      have := hc i (by omega)
      match j, hj with
      | 0, _ => exact ⟨_, this.1⟩
      | 1, _ => exact ⟨_, this.2.1⟩
      | 2, _ => exact ⟨_, this.2.2⟩, fun i hi => absurd hi (by omega)⟩
    clear hc ho hf hl
    go_enter Tryz.func13, Tryz.ntmps13
    go_wp2
    go_loopw [1, 5] (fun t i wr => ∃ m K : Nat, m ≤ n ∧ K ≤ 4000000 ∧ i = .int .i64 m ∧ t = .int .i64 (K : Int) ∧ Hid (K = k + 3 * m ∧ Betw lo hi w wr ∧ TriBlk wr B off n m (marksA k n))) (fun _ i _ => n - (intOf i).toNat)
    case atStart => exact ⟨0, k, by omega, by omega, rfl, rfl, rfl, Betw.refl _ _ _, HB.out⟩
    case round =>
      obtain ⟨m, K, hm, hK, rfl, rfl, HR⟩ := hrel
      by_cases hlt : m < n
      · obtain ⟨hKe, hb, ht⟩ := HR.out
        obtain ⟨u0, c0⟩ := ht.room m hlt 0 (by omega)
        obtain ⟨u1, c1⟩ := ht.room m hlt 1 (by omega)
        obtain ⟨u2, c2⟩ := ht.room m hlt 2 (by omega)
        rw [Nat.add_zero] at c0
        have hf := ht.free
        have hlt' : (m : Int) < (n : Int) := by omega
        have he : (marksA k n).getD m wn0 = ((K : Int), (K : Int) + 1, (K : Int) + 2) := by rw [marksA_at k n m hlt, ← hKe]; rfl
        have ht2 := ht.put hlt _ _ _ he
        have HR2 : Hid (K + 3 = k + 3 * (m + 1) ∧ Betw lo hi w (((wr.setCell ⟨B, off + m * 3, none⟩ (.int .i64 (K : Int))).setCell ⟨B, off + m * 3 + 1, none⟩ (.int .i64 ((K : Int) + 1))).setCell ⟨B, off + m * 3 + 2, none⟩ (.int .i64 ((K : Int) + 2))) ∧ TriBlk (((wr.setCell ⟨B, off + m * 3, none⟩ (.int .i64 (K : Int))).setCell ⟨B, off + m * 3 + 1, none⟩ (.int .i64 ((K : Int) + 1))).setCell ⟨B, off + m * 3 + 2, none⟩ (.int .i64 ((K : Int) + 2))) B off n (m + 1) (marksA k n)) :=
          ⟨by omega, ((hb.setCell (p := ⟨B, off + m * 3, none⟩) hB1 hB2 _).setCell (p := ⟨B, off + m * 3 + 1, none⟩) hB1 hB2 _).setCell (p := ⟨B, off + m * 3 + 2, none⟩) hB1 hB2 _, ht2⟩
        have e1 : (wr.setCell ⟨B, off + m * 3, none⟩ (.int .i64 (K : Int))).cell? ⟨B, off + m * 3 + 1, none⟩ = some u1 := by rw [World.cell?_setCell_other _ _ _ _ (by simp)]; exact c1
        have e2 : ((wr.setCell ⟨B, off + m * 3, none⟩ (.int .i64 (K : Int))).setCell ⟨B, off + m * 3 + 1, none⟩ (.int .i64 ((K : Int) + 1))).cell? ⟨B, off + m * 3 + 2, none⟩ = some u2 := by rw [World.cell?_setCell_other _ _ _ _ (by simp), World.cell?_setCell_other _ _ _ _ (by simp)]; exact c2
        have hK2 : K + 3 ≤ 4000000 := by omega
        clear hb ht ht2 HR hKe he c1 c2
        go_wp2
        go_roundw
        case rel => exact ⟨m + 1, K + 3, by omega, hK2, by go_num, by go_num, HR2⟩
        case measure => simp [intOf]; omega
      · obtain rfl : m = n := by omega
        go_wp2
        go_ret
        obtain ⟨hKe, hb, ht⟩ := HR.out
        exact ⟨ret_int (by rw [hKe]), hb, fun _ => ⟨B, off, rfl, hB1, hB2, ht.lt, fun i hi => ht.done i (by rw [marksA_len] at hi; exact hi), ht.free⟩⟩
theorem infoA : (Tryz.prog.info? 49).map (fun i => (i.zero, i.size, i.bytes)) = some (some (.agg #[.int .i64 0, .int .i64 0, .int .i64 0]), 3, 24) := by kernel_rfl
theorem infoA' : ∃ i, Tryz.prog.info? 49 = some i ∧ i.zero = some (.agg #[.int .i64 0, .int .i64 0, .int .i64 0]) ∧ i.size = 3 ∧ i.bytes = 24 := by
  obtain ⟨i, hi, h⟩ := Option.map_eq_some_iff.1 infoA
  simp only [Prod.mk.injEq] at h
  exact ⟨i, hi, h.1, h.2.1, h.2.2⟩
def acCells (xs : List Wn) : List Value := xs.flatMap fun x => [.int .i64 x.1, .int .i64 x.2.1, .int .i64 x.2.2]
theorem acCells_len (xs : List Wn) : (acCells xs).length = xs.length * 3 := by
  induction xs with
  | nil => rfl
  | cons x xs ih => simp only [acCells, List.flatMap_cons, List.length_append, List.length_cons, List.length_nil] at ih ⊢; omega
theorem acCells_snoc (xs : List Wn) (x : Wn) : acCells (xs ++ [x]) = acCells xs ++ [.int .i64 x.1, .int .i64 x.2.1, .int .i64 x.2.2] := by simp [acCells]
theorem acCells_at (xs : List Wn) (i : Nat) (hi : i < xs.length) : (acCells xs)[i * 3]? = some (.int .i64 (xs.getD i wn0).1) ∧ (acCells xs)[i * 3 + 1]? = some (.int .i64 (xs.getD i wn0).2.1) ∧ (acCells xs)[i * 3 + 2]? = some (.int .i64 (xs.getD i wn0).2.2) := by
  induction xs generalizing i with
  | nil => simp at hi
  | cons x xs ih =>
    cases i with
    | zero => simp [acCells]
    | succ i =>
      have := ih i (by simpa using hi)
      have e : acCells (x :: xs) = .int .i64 x.1 :: .int .i64 x.2.1 :: .int .i64 x.2.2 :: acCells xs := by simp [acCells]
      rw [e, show (i + 1) * 3 = i * 3 + 1 + 1 + 1 by omega]
      simpa using this
/-- A list of accesses that the call owns, from block 'base' on. -/
def OwnA (w : World) (base : Nat) (v : Value) (xs : List Wn) : Prop := w.ownsRow base 49 3 v xs.length (acCells xs)
theorem OwnA.new (w : World) (B : Nat) (hB : B = w.heap.size) : OwnA (w.alloc (.cells #[] 49)) B (.slice (some ⟨B, 0, none⟩) 0 0) [] := by
  subst hB
  exact ⟨rfl, .inr ⟨w.heap.size, 0, #[], rfl, Nat.le_refl _, by show (w.heap.push _)[w.heap.size]? = _; simp, Nat.le_refl _, by simp, rfl, rfl⟩⟩
theorem OwnA.below {w w' : World} {base : Nat} {v : Value} {xs : List Wn} (h : OwnA w base v xs) (hb : Below w.heap.size w w') : OwnA w' base v xs := ownsRow_below h hb
theorem OwnA.low {w : World} {base b' : Nat} {v : Value} {xs : List Wn} (h : OwnA w base v xs) (hle : b' ≤ base) : OwnA w b' v xs := by
  refine ⟨h.1, ?_⟩
  rcases h.2 with hn | ⟨g, cap, cur, e, hb, rest⟩
  · exact .inl hn
  · exact .inr ⟨g, cap, cur, e, by omega, rest⟩
theorem OwnA.snoc {w : World} {base g cap : Nat} {xs : List Wn} {x : Wn} (h : w.ownsRow base 49 3 (.slice (some ⟨g, 0, none⟩) (xs.length + 1) cap) (xs.length + 1) (acCells xs ++ [.int .i64 x.1, .int .i64 x.2.1, .int .i64 x.2.2])) :
    OwnA w base (.slice (some ⟨g, 0, none⟩) (xs.length + 1) cap) (xs ++ [x]) := by
  unfold OwnA
  rw [acCells_snoc]
  simpa using h
theorem OwnA.ai {w : World} {base : Nat} {v : Value} {xs : List Wn} (h : OwnA w base v xs) : ∃ a cap, v = .slice a xs.length cap ∧ AI w base w.heap.size a xs := by
  rcases h.2 with ⟨h0, h1⟩ | ⟨g, cap, cur, rfl, hb, hg, h1, h2, h3, h4⟩
  · exact ⟨none, 0, by rw [h0, h1], fun h => absurd h (by omega)⟩
  · have hlt : g < w.heap.size := by
      rcases Nat.lt_or_ge g w.heap.size with hlt | hge
      · exact hlt
      · rw [Array.getElem?_eq_none hge] at hg; cases hg
    refine ⟨_, _, rfl, fun h0 => ⟨g, 0, rfl, hb, hlt, hlt, fun i hi => ?_, fun j => by simp [World.frozen?, hg]⟩⟩
    have hc : ∀ j v, (acCells xs)[j]? = some v → cur[j]? = some v := fun j v e => by
      have hj : j < (acCells xs).length := by
        rcases Nat.lt_or_ge j (acCells xs).length with g | g
        · exact g
        · rw [List.getElem?_eq_none g] at e; cases e
      rw [acCells_len] at hj
      rw [← h4, List.getElem?_take, if_pos hj] at e
      simpa using e
    obtain ⟨g1, g2, g3⟩ := acCells_at xs i hi
    rw [Nat.zero_add]
    refine ⟨?_, ?_, ?_⟩
    · simp [World.cell?, hg, hc _ _ g1]
    · simp [World.cell?, hg, hc _ _ g2]
    · simp [World.cell?, hg, hc _ _ g3]
theorem news_acc (w : World) (x : Wn) (B : Nat) (hB : B = w.heap.size) : ∀ j u, [Value.int .i64 x.1, .int .i64 x.2.1, .int .i64 x.2.2][j]? = some u → (w.alloc (.cells #[.int .i64 x.1, .int .i64 x.2.1, .int .i64 x.2.2] 49)).cell? ((⟨B, 0, none⟩ : Addr).add j) = some u := by
  subst hB
  exact World.news_of_block (cs := #[.int .i64 x.1, .int .i64 x.2.1, .int .i64 x.2.2]) (t := 49) (fr := (0, 0)) (by show (w.heap.push _)[w.heap.size]? = _; simp)
theorem one_acc (x : Wn) : ∀ u ∈ [Value.int .i64 x.1, .int .i64 x.2.1, .int .i64 x.2.2], u.oneCell' = true := by
  intro u hu
  simp only [List.mem_cons, List.not_mem_nil, or_false] at hu
  rcases hu with rfl | rfl | rfl <;> rfl
theorem ASeg.below {w w' : World} {a : Option Addr} {xs : List Wn} (h : ASeg w a xs) (hb : Below w.heap.size w w') : ASeg w' a xs := fun h0 => by
  obtain ⟨b, off, e, hlt, hc⟩ := h h0
  exact ⟨b, off, e, Nat.lt_of_lt_of_le hlt hb.size, fun i hi => (hc i hi).of (fun j => hb.cell (p := ⟨b, j, none⟩) hlt)⟩
theorem ASeg.nil (w : World) (a : Option Addr) : ASeg w a [] := fun h => absurd h (by simp)
theorem made_tri (n i j : Nat) (hi : i < n) (hj : j < 3) : (madeCells #[Value.int .i64 0, .int .i64 0, .int .i64 0] (n * 3))[i * 3 + j]? = some (.int .i64 0) := by
  have h1 : i * 3 + j < n * 3 := by omega
  have h2 : (i * 3 + j) % 3 = j := by omega
  simp only [madeCells]
  simp [h1, h2]
  match j, hj with
  | 0, _ => rfl
  | 1, _ => rfl
  | 2, _ => rfl
theorem TriBlk.made (w : World) (n : Nat) (T : TypeId) (xs : List Wn) : TriBlk (w.alloc (.cells (madeCells #[.int .i64 0, .int .i64 0, .int .i64 0] (n * 3)) T)) w.heap.size 0 n 0 xs := by
  refine ⟨by simp, fun j => by simp, fun i hi j hj => ?_, fun i hi => absurd hi (by omega)⟩
  rw [Nat.zero_add]
  exact ⟨_, new_cell w _ T _ _ (made_tri n i j hi hj)⟩
theorem TriBlk.below {w w' : World} {B off n m : Nat} {xs : List Wn} (h : TriBlk w B off n m xs) (hb : Below w.heap.size w w') : TriBlk w' B off n m xs :=
  ⟨Nat.lt_of_lt_of_le h.lt hb.size, fun j => (hb.frozen (p := ⟨B, j, none⟩) h.lt).trans (h.free j), fun i hi j hj => by
    obtain ⟨u, hu⟩ := h.room i hi j hj
    exact ⟨u, (hb.cell (p := ⟨B, _, none⟩) h.lt).trans hu⟩, fun i hi => (h.done i hi).of (fun j => hb.cell (p := ⟨B, j, none⟩) h.lt)⟩
theorem TriBlk.ai {w : World} {B off n : Nat} {xs : List Wn} (h : TriBlk w B off n n xs) (hl : xs.length = n) (lo hi : Nat) (h1 : lo ≤ B) (h2 : B < hi) : AI w lo hi (some ⟨B, off, none⟩) xs :=
  fun _ => ⟨B, off, rfl, h1, h2, h.lt, fun i hi => h.done i (by omega), h.free⟩
theorem run_make_wins (n : Nat) (hn : n ≤ 1048576) (w : World) : (Instr.makeSlice 34 (.int .i64 (n : Int)) (.int .i64 (n : Int))).run Tryz.prog w = .ok (.slice (some ⟨w.heap.size, 0, none⟩) n n) (w.alloc (.cells (madeCells #[.int .i64 0, .int .i64 0, .int .i64 0] (n * 3)) 49)) := by
  obtain ⟨i, hi, hzz⟩ := Option.map_eq_some_iff.1 infoA
  simp only [Prod.mk.injEq] at hzz
  obtain ⟨hz, hs, hb⟩ := hzz
  have := run_make (P := Tryz.prog) w 34 49 i _ Tryz.underlying34 hi hz .i64 .i64 n n (by omega) (Int.le_refl _) (by rw [hb]; omega) (by omega)
  rw [hs, Int.toNat_natCast] at this
  exact this
set_option maxHeartbeats 1000000 in
theorem to_wins (a : Option Addr) (cap n : Nat) (xs : List Wn) (w : World) (hs : ASeg w a xs) (hl : xs.length = n) (hn : n ≤ 1048576) :
    Calls Tryz.prog 7 #[.slice a n cap] w fun e w' => e = .returned (.slice (some ⟨w.heap.size, 0, none⟩) n n) ∧ Below w.heap.size w w' ∧ TriBlk w' w.heap.size 0 n n xs := by
  have hmk := run_make_wins n hn
  have HS : Hid (ASeg w a xs ∧ xs.length = n) := And.intro hs hl
  clear hs hl
  go_enter Tryz.func7, Tryz.ntmps7
  go_wp2
  go_loopw [4] (fun i wr => ∃ k : Nat, k ≤ n ∧ i = .int .i64 k ∧ Hid (Below w.heap.size w wr ∧ TriBlk wr w.heap.size 0 n k xs)) (fun i _ => n - (intOf i).toNat)
  case atStart => exact ⟨0, by omega, rfl, (Below.refl _ _).alloc (Nat.le_refl _) _, TriBlk.made w n 49 xs⟩
  case round =>
    obtain ⟨k, hk, rfl, HB⟩ := hrel
    by_cases hlt : k < n
    · have hlt' : (k : Int) < (n : Int) := by omega
      obtain ⟨b1, o1, rfl, hbl1, p1⟩ := ASeg.at (w := w) HS.out.1 k (by have := HS.out.2; omega)
      have hb := HB.out.1
      replace p1 := p1.of (w' := wr) (fun i => hb.cell (p := ⟨b1, i, none⟩) hbl1)
      obtain ⟨p, HP⟩ : ∃ p, Hid (xs.getD k wn0 = p) := ⟨_, rfl⟩
      rw [HP.out] at p1
      obtain ⟨c0, c1, c2⟩ := p1
      obtain ⟨x1, x2, x3⟩ := p
      simp only at c0 c1 c2
      clear hbl1
      go_wp2_with fail
      refine (to_win x1 x2 x3 _).mono ?_
      rintro u w2 ⟨rfl, hbb⟩
      have hp2 := HB.out.2.below hbb
      have hb2 := hb.trans (hbb.mono hb.size)
      obtain ⟨u1, hu1⟩ := hp2.room k hlt 0 (by omega)
      obtain ⟨u2, hu2⟩ := hp2.room k hlt 1 (by omega)
      obtain ⟨u3, hu3⟩ := hp2.room k hlt 2 (by omega)
      have hf := hp2.free
      have HP3 := hp2.put hlt x1 x2 x3 HP.out
      have HB3 : Hid (Below w.heap.size w (((w2.setCell ⟨w.heap.size, 0 + k * 3, none⟩ (.int .i64 x1)).setCell ⟨w.heap.size, 0 + k * 3 + 1, none⟩ (.int .i64 x2)).setCell ⟨w.heap.size, 0 + k * 3 + 2, none⟩ (.int .i64 x3)) ∧ TriBlk (((w2.setCell ⟨w.heap.size, 0 + k * 3, none⟩ (.int .i64 x1)).setCell ⟨w.heap.size, 0 + k * 3 + 1, none⟩ (.int .i64 x2)).setCell ⟨w.heap.size, 0 + k * 3 + 2, none⟩ (.int .i64 x3)) w.heap.size 0 n (k + 1) xs) :=
        ⟨((hb2.setCell (p := ⟨w.heap.size, 0 + k * 3, none⟩) (Nat.le_refl _) _).setCell (p := ⟨w.heap.size, 0 + k * 3 + 1, none⟩) (Nat.le_refl _) _).setCell (p := ⟨w.heap.size, 0 + k * 3 + 2, none⟩) (Nat.le_refl _) _, HP3⟩
      rw [Nat.zero_add] at hu1 hu2 hu3 HB3
      rw [Nat.add_zero] at hu1
      have hv2 : (w2.setCell ⟨w.heap.size, k * 3, none⟩ (.int .i64 x1)).cell? ⟨w.heap.size, k * 3 + 1, none⟩ = some u2 := by rw [World.cell?_setCell_other _ _ _ _ (by simp)]; exact hu2
      have hv3 : ((w2.setCell ⟨w.heap.size, k * 3, none⟩ (.int .i64 x1)).setCell ⟨w.heap.size, k * 3 + 1, none⟩ (.int .i64 x2)).cell? ⟨w.heap.size, k * 3 + 2, none⟩ = some u3 := by rw [World.cell?_setCell_other _ _ _ _ (by simp), World.cell?_setCell_other _ _ _ _ (by simp)]; exact hu3
      clear hbb hp2 hb2 HP3 HB hb c0 c1 c2
      go_wp2
      go_roundw
      case rel => exact ⟨k + 1, by omega, by go_num, HB3⟩
      case measure => simp [intOf]; omega
    · obtain rfl : k = n := by omega
      go_wp2
      go_ret
      exact ⟨rfl, HB.out.1, HB.out.2⟩
theorem sz_wins (a : Option Addr) (cap n L : Nat) (w : World) (hn : n ≤ 9223372036854775807) (hL : L ≤ 1048576) :
    Calls Tryz.prog 4 #[.slice a n cap, .int .i64 (L : Int)] w fun e w' => (∃ r : Int, e = .returned (.int .i64 r) ∧ (r < 0 ∨ (r = ((L - n : Nat) : Int) ∧ n ≤ L))) ∧ w' = w := by
  by_cases h : n ≤ L
  · obtain ⟨d, rfl⟩ : ∃ d, L = n + d := ⟨L - n, by omega⟩
    have hw : IntKind.i64.wrap (((n + d : Nat) : Int) - (n : Int)) = (d : Int) := by rw [show ((n + d : Nat) : Int) - (n : Int) = (d : Int) by omega, IntKind.wrap_i64]; omega
    have h0 : ¬ ((d : Int) < 0) := by omega
    go_enter Tryz.func4, Tryz.ntmps4
    go_wp2
    go_ret
    exact ⟨⟨_, rfl, by omega⟩, rfl⟩
  · have hw : IntKind.i64.wrap ((L : Int) - (n : Int)) = (L : Int) - (n : Int) := by rw [IntKind.wrap_i64]; omega
    have h0 : (L : Int) - (n : Int) < 0 := by omega
    go_enter Tryz.func4, Tryz.ntmps4
    go_wp2
    go_ret
    exact ⟨⟨_, rfl, .inl (by omega)⟩, rfl⟩
theorem addr_of {w : World} {a : Addr} {i : Nat} {v : Value} (h : w.cell? (a.add i) = some v) (hi : i = 0) : ∃ b off, a = ⟨b, off, none⟩ ∧ b < w.heap.size := by
  subst hi
  obtain ⟨b, off, spot⟩ := a
  have hspot : spot = none := by simpa [Addr.add] using World.cell?_spot h
  subst hspot
  exact ⟨b, off, rfl, by simpa [Addr.add] using World.block_lt_of_cell? w _ h⟩
theorem array3 {α : Type} {cs : Array α} (h : cs.size = 3) : ∃ c0 c1 c2, cs = #[c0, c1, c2] := by
  obtain ⟨l⟩ := cs
  match l, h with
  | [c0, c1, c2], _ => exact ⟨c0, c1, c2, rfl⟩
theorem list3 {α : Type} {cs : List α} (h : cs.length = 3) : ∃ c0 c1 c2, cs = [c0, c1, c2] := by
  match cs, h with
  | [c0, c1, c2], _ => exact ⟨c0, c1, c2, rfl⟩
theorem laidOut : laidOutB Tryz.prog = true := by kernel_rfl
theorem cells3 : Tryz.prog.cellsOf 3 = 1 := by kernel_rfl
theorem cellsLW : Tryz.prog.cellsOf 51 = 3 := by kernel_rfl
theorem fit64 {x : Int} (h : (Lit.int .i64 x).wf = true) : x ≤ 9223372036854775807 := by
  have := bounds_i64 h
  omega
set_option maxRecDepth 100000 in
theorem win_open {H : Type} {enc : TypeId × Value → H} {W : World} {r : Reach} {b0 base : Nat} {spare : Nat → Bool} {held : Bool} {v : Value} {d : DataW H} {p : List MemPlace}
    (hv : Value.okWide Tryz.prog W r b0 51 v) (h : DataW.Trod enc Tryz.prog W base spare held 51 v d p) :
    ∃ x : Wn, v = win x.1 x.2.1 x.2.2 ∧ x.2.1 ≤ 9223372036854775807 := by
  obtain ⟨cs, rfl, hsz⟩ := okWide_struct Tryz.underlying51 hv
  obtain ⟨v0, v1, v2, rfl⟩ := array3 (hsz.trans cellsLW)
  obtain ⟨fuel, hf⟩ := h
  obtain ⟨xs, n, _, hx, _, hl, hfs⟩ := DataW.trod_struct Tryz.underlying51 hf
  obtain ⟨y0, y1, y2, rfl⟩ := list3 hl
  have g0 := hfs 0 _ rfl
  have g1 := hfs 1 _ rfl
  have g2 := hfs 2 _ rfl
  simp only [Value.cells] at g0 g1 g2
  obtain ⟨b, e0, rfl, w0⟩ := DataW.trod_int Tryz.underlying3 g0
  obtain ⟨m, e1, rfl, w1⟩ := DataW.trod_int Tryz.underlying3 g1
  obtain ⟨e, e2, rfl, w2⟩ := DataW.trod_int Tryz.underlying3 g2
  simp [cells3] at e0 e1 e2
  subst e0 e1 e2
  exact ⟨(b, m, e), rfl, fit64 w1⟩
def Fit (xs : List Wn) : Prop := ∀ i, i < xs.length → (xs.getD i wn0).2.1 ≤ 9223372036854775807
set_option maxRecDepth 100000 in
theorem wins_open {H : Type} {enc : TypeId × Value → H} {W : World} {base : Nat} {spare : Nat → Bool} {held : Bool} {fuel : Nat} {cs : List Value} {x : DataW H × List MemPlace}
    (h : DataW.trod enc Tryz.prog W base spare held fuel 22 cs = some x) : ∃ a xs c, cs = [.slice a (List.length xs) c] ∧ ASeg W a xs ∧ xs.length ≤ 9223372036854775807 ∧ Fit xs := by
  rcases open_slice (P := Tryz.prog) Tryz.underlying22 h with ⟨rfl, _⟩ | ⟨a, len, cap, m, n, D, Pl, rfl, hb, hl, hm, hmm, rfl, hx⟩
  · exact ⟨none, [], 0, rfl, ASeg.nil _ _, by simp, fun i hi => absurd hi (by simp)⟩
  · have hlm : len ≤ m := by rw [hmm]; split <;> omega
    obtain ⟨Z, hZ⟩ := choose_lt (α := Wn) (n := len) (p := fun i z => (W.cell? (a.add (i * 3)) = some (.int .i64 z.1) ∧ W.cell? (a.add (i * 3 + 1)) = some (.int .i64 z.2.1) ∧ W.cell? (a.add (i * 3 + 2)) = some (.int .i64 z.2.2)) ∧ z.2.1 ≤ 9223372036854775807) (fun i hi => by
      obtain ⟨cs', h1, h2⟩ := hx i (by omega)
      rw [cellsLW] at h1
      obtain ⟨_, hlen, hcell⟩ := World.cells?_some h1
      obtain ⟨xs, k, hk, hxy, _, hxl, hfs⟩ := DataW.trod_struct Tryz.underlying51 h2
      obtain ⟨y0, y1, y2, rfl⟩ := list3 hxl
      obtain ⟨v0, v1, v2, rfl⟩ := list3 hlen
      have g0 := hfs 0 _ rfl
      have g1 := hfs 1 _ rfl
      have g2 := hfs 2 _ rfl
      simp [cells3] at g0 g1 g2
      obtain ⟨b, e0, rfl, w0⟩ := DataW.trod_int Tryz.underlying3 g0
      obtain ⟨z, e1, rfl, w1⟩ := DataW.trod_int Tryz.underlying3 g1
      obtain ⟨e, e2, rfl, w2⟩ := DataW.trod_int Tryz.underlying3 g2
      injection e0 with e0
      injection e1 with e1
      injection e2 with e2
      have c0 := hcell 0 (by omega)
      have c1 := hcell 1 (by omega)
      have c2 := hcell 2 (by omega)
      rw [add_add] at c0 c1 c2
      refine ⟨(b, z, e), ⟨?_, ?_, ?_⟩, fit64 w1⟩
      · simpa [e0] using c0
      · simpa [e1] using c1
      · simpa [e2] using c2)
    have hg : ∀ i, i < len → ((List.range len).map Z).getD i wn0 = Z i := fun i hi => by simp [List.getD, hi]
    refine ⟨some a, (List.range len).map Z, cap, by simp, fun h0 => ?_, by simp only [List.length_map, List.length_range]; have : maxLen = 9223372036854775807 := rfl; omega, fun i hi => ?_⟩
    · simp only [List.length_map, List.length_range] at h0
      obtain ⟨b, off, rfl, hlt⟩ := addr_of (hZ 0 h0).1.1 (by omega)
      refine ⟨b, off, rfl, hlt, fun i hi => ?_⟩
      simp only [List.length_map, List.length_range] at hi
      rw [hg i hi]
      have := (hZ i hi).1
      rw [add_plain, add_plain, add_plain, ← Nat.add_assoc, ← Nat.add_assoc] at this
      exact this
    · simp only [List.length_map, List.length_range] at hi
      rw [hg i hi]
      exact (hZ i hi).2
set_option maxRecDepth 100000 in
theorem wins_arg {H : Type} {enc : TypeId × Value → H} {W : World} {r : Reach} {b0 base : Nat} {spare : Nat → Bool} {held : Bool} {v : Value} {d : DataW H} {p : List MemPlace}
    (hv : Value.okWide Tryz.prog W r b0 22 v) (h : DataW.Trod enc Tryz.prog W base spare held 22 v d p) :
    ∃ a xs c, v = .slice a (List.length xs) c ∧ ASeg W a xs ∧ xs.length ≤ 9223372036854775807 ∧ Fit xs := by
  obtain ⟨a, len, cap, rfl⟩ := okWide_slice Tryz.underlying22 hv
  obtain ⟨fuel, hf⟩ := h
  obtain ⟨a', xs, c, e, hs, h1, h2⟩ := wins_open hf
  simp [Value.cells] at e
  obtain ⟨rfl, rfl, rfl⟩ := e
  exact ⟨_, xs, _, rfl, hs, h1, h2⟩
end Go.Proofs.YtjlhkjiccibgdaaGreatDoor
namespace Go.Proofs.YtjlhkjiccibgdaaGreatDoor
open Go.ChangeShapes Go.WideShapes Go.ChangeAt Go.RowKit Go.Deep
set_option linter.unusedVariables false

/-- The windows up to the m-th are right and lie apart. -/
def WsTo (xs : List Wn) (m : Nat) : Prop := ∀ i, i < m → WOk (xs.getD i wn0) ∧ ∀ k, k < i → ApartP (xs.getD k wn0) (xs.getD i wn0)
def WsOk (xs : List Wn) : Prop := xs.length ≤ 4 ∧ WsTo xs xs.length
set_option maxHeartbeats 4000000 in
theorem spec_wsok (a : Option Addr) (cap n : Nat) (xs : List Wn) (q : Bool) (w : World) (hs : ASeg w a xs) (hl : xs.length = n) (hn : n ≤ 9223372036854775807) (hq : q = true ↔ WsOk xs) :
    Calls Tryz.prog 37 #[.slice a n cap] w fun e w' => e = .returned (.bool q) ∧ Below w.heap.size w w' := by
  have HQ : Hid _ := hq
  have HS : Hid (ASeg w a xs) := hs
  have HL : Hid _ := hl
  clear hq hs hl
  by_cases h4 : n ≤ 4
  rotate_left
  · have h4' : (4 : Int) < (n : Int) := by omega
    have HT : Hid (q = false) := not_true HQ.out (fun h => h4 (by rw [← HL.out]; exact h.1))
    go_enter Tryz.func37, Tryz.ntmps37
    go_wp2
    go_ret
    exact ⟨ret_bool HT.out.symm, Below.refl _ _⟩
  have h4' : ¬ (4 : Int) < (n : Int) := by omega
  go_enter Tryz.func37, Tryz.ntmps37
  go_wp2
  go_loopw [3] (fun i wr => ∃ m : Nat, m ≤ n ∧ i = .int .i64 m ∧ Hid (Below w.heap.size w wr ∧ WsTo xs m)) (fun i _ => n - (intOf i).toNat)
  case atStart => exact ⟨0, by omega, rfl, Below.refl _ _, fun i hi => absurd hi (by omega)⟩
  case round =>
    obtain ⟨m, hm, rfl, HR⟩ := hrel
    by_cases hmn : m < n
    rotate_left
    · obtain rfl : m = n := by omega
      have HT : Hid (q = true) := HQ.out.2 ⟨by rw [HL.out]; exact h4, by rw [HL.out]; exact HR.out.2⟩
      go_wp2
      go_ret
      exact ⟨ret_bool HT.out.symm, HR.out.1⟩
    have hmn' : (m : Int) < (n : Int) := by omega
    obtain ⟨b1, o1, rfl, hbl1, p1⟩ := ASeg.at HS.out m (by rw [HL.out]; exact hmn)
    have hbl : b1 < wr.heap.size := Nat.lt_of_lt_of_le hbl1 HR.out.1.size
    have HP : Hid (∀ X, Below w.heap.size w X → ∀ i, i < n → A3 X b1 (o1 + i * 3) (xs.getD i wn0)) := fun X hX i hi => by
      obtain ⟨b2, o2, e, hbl2, p2⟩ := ASeg.at HS.out i (by rw [HL.out]; exact hi)
      cases e
      exact p2.of (fun j => hX.cell (p := ⟨b1, j, none⟩) hbl1)
    obtain ⟨c0, c1, c2⟩ := HP.out _ HR.out.1 m hmn
    obtain ⟨qo, hqo⟩ := told (WOk (xs.getD m wn0))
    have HQO : Hid _ := hqo
    obtain ⟨y, HY⟩ : ∃ y, Hid (xs.getD m wn0 = y) := ⟨_, rfl⟩
    rw [HY.out] at c0 c1 c2
    have HW : Hid (∀ X, Calls Tryz.prog 61 #[win y.1 y.2.1 y.2.2] X fun e w' => e = .returned (.bool qo) ∧ Below X.heap.size X w') := fun X => by
      rw [← HY.out]; exact spec_wok _ _ _ qo X HQO.out
    have HA : Hid (∀ (x : Wn) (r : Bool) X, (r = true ↔ ApartP x y) → Calls Tryz.prog 62 #[win x.1 x.2.1 x.2.2, win y.1 y.2.1 y.2.2] X fun e w' => e = .returned (.bool r) ∧ Below X.heap.size X w') := fun x r X h => spec_apart x y r X h
    have HYC : Hid (∀ X, Below w.heap.size w X → A3 X b1 (o1 + m * 3) y) := fun X hX => by rw [← HY.out]; exact HP.out X hX m hmn
    clear hqo p1 hbl1
    obtain ⟨y1, y2, y3⟩ := y
    simp only at c0 c1 c2 HW HA HYC
    go_wp2_with fail
    refine (HW.out _).mono ?_
    rintro u w1 ⟨rfl, hb1⟩
    have HB1 : Hid (Below w.heap.size w w1) := HR.out.1.trans (hb1.mono HR.out.1.size)
    clear hb1 c0 c1 c2 hbl
    cases qo
    · have HT : Hid (q = false) := not_true HQ.out (fun h => by
        have := HQO.out.2 (h.2 m (by rw [HL.out]; exact hmn)).1
        cases this)
      go_wp2
      go_ret
      exact ⟨ret_bool HT.out.symm, HB1.out⟩
    have HO : Hid (WOk (xs.getD m wn0)) := HQO.out.1 (by trivial)
    clear HQO
    go_wp2
    go_loopw [4] (fun i wr => ∃ k : Nat, k ≤ m ∧ i = .int .i64 k ∧ Hid (Below w.heap.size w wr ∧ ∀ j, j < k → ApartP (xs.getD j wn0) (xs.getD m wn0))) (fun i _ => m - (intOf i).toNat)
    case atStart => exact ⟨0, by omega, rfl, HB1.out, fun i hi => absurd hi (by omega)⟩
    case round =>
      obtain ⟨k, hk, rfl, HR2⟩ := hrel
      by_cases hkm : k < m
      rotate_left
      · obtain rfl : k = m := by omega
        have HR3 : Hid (WsTo xs (k + 1)) := fun i hi => by
          by_cases e : i = k
          · subst e; exact ⟨HO.out, HR2.out.2⟩
          · exact HR.out.2 i (by omega)
        go_wp2
        go_roundw
        case rel => exact ⟨k + 1, by omega, by go_num, HR2.out.1, HR3.out⟩
        case measure => simp [intOf]; omega
      have hkm' : (k : Int) < (m : Int) := by omega
      have hkn' : (k : Int) < (n : Int) := by omega
      obtain ⟨x, HX⟩ : ∃ x, Hid (xs.getD k wn0 = x) := ⟨_, rfl⟩
      obtain ⟨r, hr⟩ := told (ApartP x (y1, y2, y3))
      have HRR : Hid _ := hr
      have HAX : Hid _ := fun X => HA.out x r X hr
      clear hr
      have P1 := HP.out _ HR2.out.1 k (by omega)
      rw [HX.out] at P1
      have P2 := HYC.out _ HR2.out.1
      obtain ⟨x1, x2, x3⟩ := x
      simp only [A3] at P1 P2 HAX
      have c0 := fun X => gr_cell P1.1 X
      have c1 := fun X => gr_cell P1.2.1 X
      have c2 := fun X => gr_cell P1.2.2 X
      have d0 := fun X => gr_cell P2.1 X
      have d1 := fun X => gr_cell P2.2.1 X
      have d2 := fun X => gr_cell P2.2.2 X
      clear P1 P2
      go_wp2
      have hgr := gr_some wr
      refine region_alike (by kernel_rfl) (by kernel_rfl) ?_
      repeat (go_big_quiet_step (first | (go_at_call 62; exact gr_call (HAX.out _))))
      refine wpQuiet_nil ?_
      intro _ hw'
      obtain ⟨X1, rfl⟩ := hw'
      have hb2 := X1.h
      generalize X1.w = W1 at hb2 ⊢
      have HB2 : Hid (Below w.heap.size w W1) := HR2.out.1.trans (hb2.mono HR2.out.1.size)
      clear hb2 c0 c1 c2 d0 d1 d2
      cases r
      · have HT : Hid (q = false) := not_true HQ.out (fun h => by
          have h1 := (h.2 m (by rw [HL.out]; exact hmn)).2 k hkm
          rw [HX.out, HY.out] at h1
          have := HRR.out.2 h1
          cases this)
        go_wp2
        go_ret
        exact ⟨ret_bool HT.out.symm, HB2.out⟩
      · have HR3 : Hid (∀ j, j < k + 1 → ApartP (xs.getD j wn0) (xs.getD m wn0)) := fun j hj => by
          by_cases e : j = k
          · subst e
            rw [HX.out, HY.out]
            exact HRR.out.1 (by trivial)
          · exact HR2.out.2 j (by omega)
        go_wp2
        go_roundw
        case rel => exact ⟨k + 1, by omega, by go_num, HB2.out, HR3.out⟩
        case measure => simp [intOf]; omega
end Go.Proofs.YtjlhkjiccibgdaaGreatDoor
