
/-
  Lists of pairs, a number and a word each, in memory, and what the laws' helpers on them do: a copy, the measure, whether two are alike, the marks; how a list that came in is read. Conditions: a list that is marked is the call's own; lengths are at most 1048576.
-/
import Derived.Test.YtoofjlfbedjbnaaRows
import Derived.Test.YtoofjlfbedjbnaaChk
import Derived.Test.YtoofjlfbedjbnaaOnu
import Derived.Deep.RegionHeld3
import Derived.Deep.QuietTactic
import Derived.BigQuiet
import Derived.Deep.SlicePairs
import Derived.Deep.AppendLies
import Derived.OwnWalk
import Derived.Lib.SmallJoins
namespace Go.Proofs.Ytoofjlfbedjbnaa
open Go.ChangeShapes Go.WideShapes Go.ChangeAt Go.RowKit Go.Deep Go.Joins
set_option linter.unusedVariables false

abbrev Cp := Int × Int
def cp0 : Cp := (0, 0)
def A2 (w : World) (b o : Nat) (x : Cp) : Prop := w.cell? ⟨b, o, none⟩ = some (.int .i64 x.1) ∧ w.cell? ⟨b, o + 1, none⟩ = some (.int .u32 x.2)
def PSeg (w : World) (a : Option Addr) (xs : List Cp) : Prop :=
  0 < xs.length → ∃ b off, a = some ⟨b, off, none⟩ ∧ b < w.heap.size ∧ ∀ i, i < xs.length → A2 w b (off + i * 2) (xs.getD i cp0)
theorem PSeg.at {w : World} {a : Option Addr} {xs : List Cp} (h : PSeg w a xs) (i : Nat) (hi : i < xs.length) : ∃ b off, a = some ⟨b, off, none⟩ ∧ b < w.heap.size ∧ A2 w b (off + i * 2) (xs.getD i cp0) := by
  obtain ⟨b, off, e, hlt, hc⟩ := h (by omega)
  exact ⟨b, off, e, hlt, hc i hi⟩
/-- A list that lies in a block from 'lo' on and below 'hi' that may be written. -/
def PI (w : World) (lo hi : Nat) (a : Option Addr) (xs : List Cp) : Prop :=
  0 < xs.length → ∃ B off, a = some ⟨B, off, none⟩ ∧ lo ≤ B ∧ B < hi ∧ B < w.heap.size ∧ (∀ i, i < xs.length → A2 w B (off + i * 2) (xs.getD i cp0)) ∧ ∀ j, w.frozen? ⟨B, j, none⟩ = false
theorem A2.of {w w' : World} {b o : Nat} {x : Cp} (h : A2 w b o x) (hc : ∀ i, w'.cell? ⟨b, i, none⟩ = w.cell? ⟨b, i, none⟩) : A2 w' b o x := ⟨(hc _).trans h.1, (hc _).trans h.2⟩
theorem PI.seg {w : World} {lo hi : Nat} {a : Option Addr} {xs : List Cp} (h : PI w lo hi a xs) : PSeg w a xs := fun h0 => by
  obtain ⟨B, off, e, _, _, hlt, hc, _⟩ := h h0
  exact ⟨B, off, e, hlt, hc⟩
theorem PI.betw {w w' : World} {lo hi l' h' : Nat} {a : Option Addr} {xs : List Cp} (h : PI w lo hi a xs) (hb : Betw l' h' w w') (ho : hi ≤ l' ∨ h' ≤ lo) : PI w' lo hi a xs := fun h0 => by
  obtain ⟨B, off, e, h1, h2, hlt, hc, hf⟩ := h h0
  exact ⟨B, off, e, h1, h2, Nat.lt_of_lt_of_le hlt hb.size, fun i hi => (hc i hi).of (fun j => hb.cell (p := ⟨B, j, none⟩) hlt (by simp; omega)), fun j => (hb.frozen (p := ⟨B, j, none⟩) hlt (by simp; omega)).trans (hf j)⟩
theorem PI.below {w w' : World} {lo hi : Nat} {a : Option Addr} {xs : List Cp} (h : PI w lo hi a xs) (hb : Below w.heap.size w w') : PI w' lo hi a xs :=
  PI.betw (l' := 0) (h' := 0) h (Below.betw hb) (.inr (Nat.zero_le _))
theorem PI.wide {w : World} {lo hi l' h' : Nat} {a : Option Addr} {xs : List Cp} (h : PI w lo hi a xs) (g1 : l' ≤ lo) (g2 : hi ≤ h') : PI w l' h' a xs := fun h0 => by
  obtain ⟨B, off, e, h1, h2, r⟩ := h h0
  exact ⟨B, off, e, by omega, by omega, r⟩
theorem PSeg.below {w w' : World} {a : Option Addr} {xs : List Cp} (h : PSeg w a xs) (hb : Below w.heap.size w w') : PSeg w' a xs := fun h0 => by
  obtain ⟨b, off, e, hlt, hc⟩ := h h0
  exact ⟨b, off, e, Nat.lt_of_lt_of_le hlt hb.size, fun i hi => (hc i hi).of (fun j => hb.cell (p := ⟨b, j, none⟩) hlt)⟩
theorem PSeg.nil (w : World) (a : Option Addr) : PSeg w a [] := fun h => absurd h (by simp)
theorem ret_intc {q r : Int} (h : q = r) : Ending.returned (.int .i64 q) = .returned (.int .i64 r) := by rw [h]
abbrev cpv (x1 x2 : Int) : Value := .agg #[.int .i64 x1, .int .u32 x2]
def mk2 (k : Nat) : Cp := ((k : Int), (k : Int) + 1)
def marksP (k n : Nat) : List Cp := (List.range n).map fun i => mk2 (k + 2 * i)
theorem marksP_len (k n : Nat) : (marksP k n).length = n := by simp [marksP]
theorem marksP_at (k n i : Nat) (hi : i < n) : (marksP k n).getD i cp0 = mk2 (k + 2 * i) := by simp [marksP, hi, List.getD]
/-- A block of pairs, m of which have been laid. -/
structure DuBlk (w : World) (B off n m : Nat) (xs : List Cp) : Prop where
  lt : B < w.heap.size
  free : ∀ j, w.frozen? ⟨B, j, none⟩ = false
  room : ∀ i, i < n → ∀ j, j < 2 → ∃ u, w.cell? ⟨B, off + i * 2 + j, none⟩ = some u
  done : ∀ i, i < m → A2 w B (off + i * 2) (xs.getD i cp0)
theorem DuBlk.put {w : World} {B off n m : Nat} {xs : List Cp} (h : DuBlk w B off n m xs) (hm : m < n) (x1 x2 : Int) (he : xs.getD m cp0 = (x1, x2)) :
    DuBlk ((w.setCell ⟨B, off + m * 2, none⟩ (.int .i64 x1)).setCell ⟨B, off + m * 2 + 1, none⟩ (.int .u32 x2)) B off n (m + 1) xs := by
  obtain ⟨u0, h0⟩ := h.room m hm 0 (by omega)
  obtain ⟨u1, h1⟩ := h.room m hm 1 (by omega)
  rw [Nat.add_zero] at h0
  have hoth : ∀ q, q ≠ off + m * 2 → q ≠ off + m * 2 + 1 → ((w.setCell ⟨B, off + m * 2, none⟩ (.int .i64 x1)).setCell ⟨B, off + m * 2 + 1, none⟩ (.int .u32 x2)).cell? ⟨B, q, none⟩ = w.cell? ⟨B, q, none⟩ := fun q e1 e2 => by
    rw [World.cell?_setCell_other _ _ _ _ (by intro c; injection c with c1 c2 c3; omega), World.cell?_setCell_other _ _ _ _ (by intro c; injection c with c1 c2 c3; omega)]
  have k0 : ((w.setCell ⟨B, off + m * 2, none⟩ (.int .i64 x1)).setCell ⟨B, off + m * 2 + 1, none⟩ (.int .u32 x2)).cell? ⟨B, off + m * 2, none⟩ = some (.int .i64 x1) := by
    rw [World.cell?_setCell_other _ _ _ _ (by simp)]
    exact World.cell?_setCell_same _ _ _ h0
  have k1 : ((w.setCell ⟨B, off + m * 2, none⟩ (.int .i64 x1)).setCell ⟨B, off + m * 2 + 1, none⟩ (.int .u32 x2)).cell? ⟨B, off + m * 2 + 1, none⟩ = some (.int .u32 x2) := by
    have e1 : (w.setCell ⟨B, off + m * 2, none⟩ (.int .i64 x1)).cell? ⟨B, off + m * 2 + 1, none⟩ = some u1 := by rw [World.cell?_setCell_other _ _ _ _ (by simp)]; exact h1
    exact World.cell?_setCell_same _ _ _ e1
  refine ⟨by simpa using h.lt, fun j => by simpa using h.free j, fun i hi j hj => ?_, fun i hi => ?_⟩
  · by_cases e0 : off + i * 2 + j = off + m * 2
    · rw [e0]; exact ⟨_, k0⟩
    · by_cases e1 : off + i * 2 + j = off + m * 2 + 1
      · rw [e1]; exact ⟨_, k1⟩
      · rw [hoth _ e0 e1]; exact h.room i hi j hj
  · by_cases e : i = m
    · subst e
      rw [he]
      exact ⟨k0, k1⟩
    · have hd := h.done i (by omega)
      exact ⟨(hoth _ (by omega) (by omega)).trans hd.1, (hoth _ (by omega) (by omega)).trans hd.2⟩
theorem DuBlk.below {w w' : World} {B off n m : Nat} {xs : List Cp} (h : DuBlk w B off n m xs) (hb : Below w.heap.size w w') : DuBlk w' B off n m xs :=
  ⟨Nat.lt_of_lt_of_le h.lt hb.size, fun j => (hb.frozen (p := ⟨B, j, none⟩) h.lt).trans (h.free j), fun i hi j hj => by
    obtain ⟨u, hu⟩ := h.room i hi j hj
    exact ⟨u, (hb.cell (p := ⟨B, _, none⟩) h.lt).trans hu⟩, fun i hi => (h.done i hi).of (fun j => hb.cell (p := ⟨B, j, none⟩) h.lt)⟩
theorem DuBlk.pi {w : World} {B off n : Nat} {xs : List Cp} (h : DuBlk w B off n n xs) (hl : xs.length = n) (lo hi : Nat) (h1 : lo ≤ B) (h2 : B < hi) : PI w lo hi (some ⟨B, off, none⟩) xs :=
  fun _ => ⟨B, off, rfl, h1, h2, h.lt, fun i hi => h.done i (by omega), h.free⟩
theorem new_cell (w : World) (cs : Array Value) (t : TypeId) (i : Nat) (v : Value) (h : cs[i]? = some v) : (w.alloc (.cells cs t)).cell? ⟨w.heap.size, i, none⟩ = some v := by
  simp [h]
theorem made_du (n i j : Nat) (hi : i < n) (hj : j < 2) : ∃ u, (madeCells #[Value.int .i64 0, .int .u32 0] (n * 2))[i * 2 + j]? = some u := by
  have h1 : i * 2 + j < n * 2 := by omega
  simp only [madeCells]
  simp [h1]
theorem DuBlk.made (w : World) (n : Nat) (T : TypeId) (xs : List Cp) : DuBlk (w.alloc (.cells (madeCells #[.int .i64 0, .int .u32 0] (n * 2)) T)) w.heap.size 0 n 0 xs := by
  refine ⟨by simp, fun j => by simp, fun i hi j hj => ?_, fun i hi => absurd hi (by omega)⟩
  rw [Nat.zero_add]
  obtain ⟨u, hu⟩ := made_du n i j hi hj
  exact ⟨u, new_cell w _ T _ _ hu⟩
theorem eq_cop (x : Cp) (w : World) : Calls Try.prog 78 #[cpv x.1 x.2, cpv x.1 x.2] w fun e w' => e = .returned (.bool true) ∧ Below w.heap.size w w' := by
  obtain ⟨x1, x2⟩ := x
  simp only
  go_enter Try.func78, Try.ntmps78
  go_wp2
  go_ret
  exact ⟨rfl, ((Below.refl _ _).alloc (Nat.le_refl _) _).alloc (by simp) _⟩
set_option maxHeartbeats 2000000 in
theorem eq_cops (a b : Option Addr) (ca cb n : Nat) (xs : List Cp) (w : World) (ha : PSeg w a xs) (hb : PSeg w b xs) (hl : xs.length = n) (hn : n ≤ 1048576) :
    Calls Try.prog 49 #[.slice a n ca, .slice b n cb] w fun e w' => e = .returned (.bool true) ∧ Below w.heap.size w w' := by
  have HL : Hid _ := hl
  have HA : Hid (PSeg w a xs ∧ PSeg w b xs) := And.intro ha hb
  clear ha hb hl
  go_enter Try.func49, Try.ntmps49
  go_wp2
  go_loopw [5] (fun i wr => ∃ k : Nat, k ≤ n ∧ i = .int .i64 k ∧ Hid (Below w.heap.size w wr)) (fun i _ => n - (intOf i).toNat)
  case atStart => exact ⟨0, by omega, rfl, Below.refl _ _⟩
  case round =>
    obtain ⟨k, hk, rfl, HB⟩ := hrel
    by_cases hlt : k < n
    · have hlt' : (k : Int) < (n : Int) := by omega
      have hl : k < xs.length := by rw [HL.out]; exact hlt
      obtain ⟨b1, o1, rfl, hbl1, p1⟩ := HA.out.1.at k hl
      obtain ⟨b2, o2, rfl, hbl2, p2⟩ := HA.out.2.at k hl
      have hb := HB.out
      replace p1 := p1.of (w' := wr) (fun i => hb.cell (p := ⟨b1, i, none⟩) hbl1)
      replace p2 := p2.of (w' := wr) (fun i => hb.cell (p := ⟨b2, i, none⟩) hbl2)
      generalize xs.getD k cp0 = x at p1 p2
      obtain ⟨c0, c1⟩ := p1
      obtain ⟨d0, d1⟩ := p2
      have HE : Hid _ := fun X => eq_cop x X
      obtain ⟨x1, x2⟩ := x
      simp only at c0 c1 d0 d1
      clear hl hbl1 hbl2 HB
      go_wp2
      go_region_held3 (fun w' => w'.cell? ⟨b1, o1 + k * 2, none⟩ = some (.int .i64 x1) ∧ w'.cell? ⟨b1, o1 + k * 2 + 1, none⟩ = some (.int .u32 x2) ∧ w'.cell? ⟨b2, o2 + k * 2, none⟩ = some (.int .i64 x1) ∧ w'.cell? ⟨b2, o2 + k * 2 + 1, none⟩ = some (.int .u32 x2)) (first | exact ⟨c0, c1, d0, d1⟩) (first | (go_at_call 78; refine Calls.mono (HE.out _) ?_; rintro u w9 ⟨rfl, hbb⟩; (first | replace hb := hb.trans (hbb.mono hb.size) | replace hb := hb.drew.trans (hbb.mono hb.drew.size)); replace c0 := kept_c hbb c0; replace c1 := kept_c hbb c1; replace d0 := kept_c hbb d0; replace d1 := kept_c hbb d1))
      go_wp2
      go_roundw
      case rel => exact ⟨k + 1, by omega, by go_num, hb⟩
      case measure => simp [intOf]; omega
    · go_wp2
      go_ret
      exact ⟨rfl, HB.out⟩
set_option maxHeartbeats 2000000 in
theorem mark_cops (lo hi cap n k : Nat) (a : Option Addr) (xs : List Cp) (w : World) (ho : PI w lo hi a xs) (hl : xs.length = n) (hn : n ≤ 1048576) (hk1 : k ≤ 1000) :
    Calls Try.prog 50 #[.slice a n cap, .int .i64 (k : Int)] w fun e w' => e = .returned (.int .i64 ((k + 2 * n : Nat) : Int)) ∧ Betw lo hi w w' ∧ PI w' lo hi a (marksP k n) := by
  by_cases h0 : n = 0
  · subst h0
    go_enter Try.func50, Try.ntmps50
    go_wp2
    refine wp_loop_rounds 1 ?_
    rw [rounds_succ]
    go_wp2
    go_ret
    exact ⟨ret_intc (by simp), Betw.refl _ _ _, fun h => absurd h (by simp [marksP])⟩
  · obtain ⟨B, off, rfl, hB1, hB2, hlt, hc, hf⟩ := ho (by omega)
    have HB : Hid (DuBlk w B off n 0 (marksP k n)) := ⟨hlt, hf, fun i hi j hj => by
      have := hc i (by omega)
      match j, hj with
      | 0, _ => exact ⟨_, this.1⟩
      | 1, _ => exact ⟨_, this.2⟩, fun i hi => absurd hi (by omega)⟩
    clear hc ho hf hl
    go_enter Try.func50, Try.ntmps50
    go_wp2
    go_loopw [1, 5] (fun t i wr => ∃ m K : Nat, m ≤ n ∧ K ≤ 4000000 ∧ i = .int .i64 m ∧ t = .int .i64 (K : Int) ∧ Hid (K = k + 2 * m ∧ Betw lo hi w wr ∧ DuBlk wr B off n m (marksP k n))) (fun _ i _ => n - (intOf i).toNat)
    case atStart => exact ⟨0, k, by omega, by omega, rfl, rfl, rfl, Betw.refl _ _ _, HB.out⟩
    case round =>
      obtain ⟨m, K, hm, hK, rfl, rfl, HR⟩ := hrel
      by_cases hlt : m < n
      · obtain ⟨hKe, hb, ht⟩ := HR.out
        obtain ⟨u0, c0⟩ := ht.room m hlt 0 (by omega)
        obtain ⟨u1, c1⟩ := ht.room m hlt 1 (by omega)
        rw [Nat.add_zero] at c0
        have hf := ht.free
        have hlt' : (m : Int) < (n : Int) := by omega
        have he : (marksP k n).getD m cp0 = ((K : Int), (K : Int) + 1) := by rw [marksP_at k n m hlt, ← hKe]; rfl
        have ht2 := ht.put hlt _ _ he
        have HR2 : Hid (K + 2 = k + 2 * (m + 1) ∧ Betw lo hi w ((wr.setCell ⟨B, off + m * 2, none⟩ (.int .i64 (K : Int))).setCell ⟨B, off + m * 2 + 1, none⟩ (.int .u32 ((K : Int) + 1))) ∧ DuBlk ((wr.setCell ⟨B, off + m * 2, none⟩ (.int .i64 (K : Int))).setCell ⟨B, off + m * 2 + 1, none⟩ (.int .u32 ((K : Int) + 1))) B off n (m + 1) (marksP k n)) :=
          ⟨by omega, (hb.setCell (p := ⟨B, off + m * 2, none⟩) hB1 hB2 _).setCell (p := ⟨B, off + m * 2 + 1, none⟩) hB1 hB2 _, ht2⟩
        have e1 : (wr.setCell ⟨B, off + m * 2, none⟩ (.int .i64 (K : Int))).cell? ⟨B, off + m * 2 + 1, none⟩ = some u1 := by rw [World.cell?_setCell_other _ _ _ _ (by simp)]; exact c1
        have hK2 : K + 2 ≤ 4000000 := by omega
        have hwr : IntKind.u32.wrap ((K : Int) + 1) = (K : Int) + 1 := by rw [IntKind.wrap_u32]; omega
        clear hb ht ht2 HR hKe he c1
        go_wp2
        go_roundw
        case rel => exact ⟨m + 1, K + 2, by omega, hK2, by go_num, by go_num, HR2⟩
        case measure => simp [intOf]; omega
      · obtain rfl : m = n := by omega
        go_wp2
        go_ret
        obtain ⟨hKe, hb, ht⟩ := HR.out
        exact ⟨ret_intc (by rw [hKe]), hb, fun _ => ⟨B, off, rfl, hB1, hB2, ht.lt, fun i hi => ht.done i (by rw [marksP_len] at hi; exact hi), ht.free⟩⟩
theorem eq_csd (x : Cp) (w : World) : Calls Try.prog 77 #[cpv x.1 x.2, cpv x.1 x.2] w fun e w' => e = .returned (.bool true) ∧ Below w.heap.size w w' := by
  obtain ⟨x1, x2⟩ := x
  simp only
  go_enter Try.func77, Try.ntmps77
  go_wp2
  go_ret
  exact ⟨rfl, ((Below.refl _ _).alloc (Nat.le_refl _) _).alloc (by simp) _⟩
set_option maxHeartbeats 2000000 in
theorem eq_csds (a b : Option Addr) (ca cb n : Nat) (xs : List Cp) (w : World) (ha : PSeg w a xs) (hb : PSeg w b xs) (hl : xs.length = n) (hn : n ≤ 1048576) :
    Calls Try.prog 48 #[.slice a n ca, .slice b n cb] w fun e w' => e = .returned (.bool true) ∧ Below w.heap.size w w' := by
  have HL : Hid _ := hl
  have HA : Hid (PSeg w a xs ∧ PSeg w b xs) := And.intro ha hb
  clear ha hb hl
  go_enter Try.func48, Try.ntmps48
  go_wp2
  go_loopw [5] (fun i wr => ∃ k : Nat, k ≤ n ∧ i = .int .i64 k ∧ Hid (Below w.heap.size w wr)) (fun i _ => n - (intOf i).toNat)
  case atStart => exact ⟨0, by omega, rfl, Below.refl _ _⟩
  case round =>
    obtain ⟨k, hk, rfl, HB⟩ := hrel
    by_cases hlt : k < n
    · have hlt' : (k : Int) < (n : Int) := by omega
      have hl : k < xs.length := by rw [HL.out]; exact hlt
      obtain ⟨b1, o1, rfl, hbl1, p1⟩ := HA.out.1.at k hl
      obtain ⟨b2, o2, rfl, hbl2, p2⟩ := HA.out.2.at k hl
      have hb := HB.out
      replace p1 := p1.of (w' := wr) (fun i => hb.cell (p := ⟨b1, i, none⟩) hbl1)
      replace p2 := p2.of (w' := wr) (fun i => hb.cell (p := ⟨b2, i, none⟩) hbl2)
      generalize xs.getD k cp0 = x at p1 p2
      obtain ⟨c0, c1⟩ := p1
      obtain ⟨d0, d1⟩ := p2
      have HE : Hid _ := fun X => eq_csd x X
      obtain ⟨x1, x2⟩ := x
      simp only at c0 c1 d0 d1
      clear hl hbl1 hbl2 HB
      go_wp2
      go_region_held3 (fun w' => w'.cell? ⟨b1, o1 + k * 2, none⟩ = some (.int .i64 x1) ∧ w'.cell? ⟨b1, o1 + k * 2 + 1, none⟩ = some (.int .u32 x2) ∧ w'.cell? ⟨b2, o2 + k * 2, none⟩ = some (.int .i64 x1) ∧ w'.cell? ⟨b2, o2 + k * 2 + 1, none⟩ = some (.int .u32 x2)) (first | exact ⟨c0, c1, d0, d1⟩) (first | (go_at_call 77; refine Calls.mono (HE.out _) ?_; rintro u w9 ⟨rfl, hbb⟩; (first | replace hb := hb.trans (hbb.mono hb.size) | replace hb := hb.drew.trans (hbb.mono hb.drew.size)); replace c0 := kept_c hbb c0; replace c1 := kept_c hbb c1; replace d0 := kept_c hbb d0; replace d1 := kept_c hbb d1))
      go_wp2
      go_roundw
      case rel => exact ⟨k + 1, by omega, by go_num, hb⟩
      case measure => simp [intOf]; omega
    · go_wp2
      go_ret
      exact ⟨rfl, HB.out⟩
set_option maxHeartbeats 2000000 in
theorem mark_csds (lo hi cap n k : Nat) (a : Option Addr) (xs : List Cp) (w : World) (ho : PI w lo hi a xs) (hl : xs.length = n) (hn : n ≤ 1048576) (hk1 : k ≤ 1000) :
    Calls Try.prog 51 #[.slice a n cap, .int .i64 (k : Int)] w fun e w' => e = .returned (.int .i64 ((k + 2 * n : Nat) : Int)) ∧ Betw lo hi w w' ∧ PI w' lo hi a (marksP k n) := by
  by_cases h0 : n = 0
  · subst h0
    go_enter Try.func51, Try.ntmps51
    go_wp2
    refine wp_loop_rounds 1 ?_
    rw [rounds_succ]
    go_wp2
    go_ret
    exact ⟨ret_intc (by simp), Betw.refl _ _ _, fun h => absurd h (by simp [marksP])⟩
  · obtain ⟨B, off, rfl, hB1, hB2, hlt, hc, hf⟩ := ho (by omega)
    have HB : Hid (DuBlk w B off n 0 (marksP k n)) := ⟨hlt, hf, fun i hi j hj => by
      have := hc i (by omega)
      match j, hj with
      | 0, _ => exact ⟨_, this.1⟩
      | 1, _ => exact ⟨_, this.2⟩, fun i hi => absurd hi (by omega)⟩
    clear hc ho hf hl
    go_enter Try.func51, Try.ntmps51
    go_wp2
    go_loopw [1, 5] (fun t i wr => ∃ m K : Nat, m ≤ n ∧ K ≤ 4000000 ∧ i = .int .i64 m ∧ t = .int .i64 (K : Int) ∧ Hid (K = k + 2 * m ∧ Betw lo hi w wr ∧ DuBlk wr B off n m (marksP k n))) (fun _ i _ => n - (intOf i).toNat)
    case atStart => exact ⟨0, k, by omega, by omega, rfl, rfl, rfl, Betw.refl _ _ _, HB.out⟩
    case round =>
      obtain ⟨m, K, hm, hK, rfl, rfl, HR⟩ := hrel
      by_cases hlt : m < n
      · obtain ⟨hKe, hb, ht⟩ := HR.out
        obtain ⟨u0, c0⟩ := ht.room m hlt 0 (by omega)
        obtain ⟨u1, c1⟩ := ht.room m hlt 1 (by omega)
        rw [Nat.add_zero] at c0
        have hf := ht.free
        have hlt' : (m : Int) < (n : Int) := by omega
        have he : (marksP k n).getD m cp0 = ((K : Int), (K : Int) + 1) := by rw [marksP_at k n m hlt, ← hKe]; rfl
        have ht2 := ht.put hlt _ _ he
        have HR2 : Hid (K + 2 = k + 2 * (m + 1) ∧ Betw lo hi w ((wr.setCell ⟨B, off + m * 2, none⟩ (.int .i64 (K : Int))).setCell ⟨B, off + m * 2 + 1, none⟩ (.int .u32 ((K : Int) + 1))) ∧ DuBlk ((wr.setCell ⟨B, off + m * 2, none⟩ (.int .i64 (K : Int))).setCell ⟨B, off + m * 2 + 1, none⟩ (.int .u32 ((K : Int) + 1))) B off n (m + 1) (marksP k n)) :=
          ⟨by omega, (hb.setCell (p := ⟨B, off + m * 2, none⟩) hB1 hB2 _).setCell (p := ⟨B, off + m * 2 + 1, none⟩) hB1 hB2 _, ht2⟩
        have e1 : (wr.setCell ⟨B, off + m * 2, none⟩ (.int .i64 (K : Int))).cell? ⟨B, off + m * 2 + 1, none⟩ = some u1 := by rw [World.cell?_setCell_other _ _ _ _ (by simp)]; exact c1
        have hK2 : K + 2 ≤ 4000000 := by omega
        have hwr : IntKind.u32.wrap ((K : Int) + 1) = (K : Int) + 1 := by rw [IntKind.wrap_u32]; omega
        clear hb ht ht2 HR hKe he c1
        go_wp2
        go_roundw
        case rel => exact ⟨m + 1, K + 2, by omega, hK2, by go_num, by go_num, HR2⟩
        case measure => simp [intOf]; omega
      · obtain rfl : m = n := by omega
        go_wp2
        go_ret
        obtain ⟨hKe, hb, ht⟩ := HR.out
        exact ⟨ret_intc (by rw [hKe]), hb, fun _ => ⟨B, off, rfl, hB1, hB2, ht.lt, fun i hi => ht.done i (by rw [marksP_len] at hi; exact hi), ht.free⟩⟩
set_option maxHeartbeats 2000000 in
theorem held_csds (a : Option Addr) (cap n k : Nat) (w : World) (hs : PSeg w a (marksP k n)) (hn : n ≤ 1048576) (hk1 : k ≤ 1000) :
    Calls Try.prog 52 #[.slice a n cap, .int .i64 (k : Int)] w fun e w' => e = .returned (.int .i64 ((k + 2 * n : Nat) : Int)) ∧ w' = w := by
  have HS : Hid (PSeg w a (marksP k n)) := hs
  clear hs
  go_enter Try.func52, Try.ntmps52
  go_wp2
  go_loopw [1, 5] (fun t i wr => ∃ m K : Nat, m ≤ n ∧ K ≤ 4000000 ∧ i = .int .i64 m ∧ t = .int .i64 (K : Int) ∧ wr = w ∧ Hid (K = k + 2 * m)) (fun _ i _ => n - (intOf i).toNat)
  case atStart => exact ⟨0, k, by omega, by omega, rfl, rfl, rfl, rfl⟩
  case round =>
    obtain ⟨m, K, hm, hK, rfl, rfl, rfl, HK⟩ := hrel
    by_cases hlt : m < n
    · have hlt' : (m : Int) < (n : Int) := by omega
      obtain ⟨b1, o1, rfl, hbl1, p⟩ := PSeg.at HS.out m (by rw [marksP_len]; exact hlt)
      rw [marksP_at k n m hlt, ← HK.out] at p
      obtain ⟨c0, c1⟩ := p
      simp only [mk2] at c0 c1
      have HK2 : Hid (K + 2 = k + 2 * (m + 1)) := by have := HK.out; show _ = _; omega
      have hK2 : K + 2 ≤ 4000000 := by have := HK.out; omega
      have hwr : IntKind.u32.wrap ((K : Int) + 1) = (K : Int) + 1 := by rw [IntKind.wrap_u32]; omega
      clear hbl1
      go_wp2
      go_roundw
      case rel => exact ⟨m + 1, K + 2, by omega, hK2, by go_num, by go_num, trivial, HK2⟩
      case measure => simp [intOf]; omega
    · obtain rfl : m = n := by omega
      go_wp2
      go_ret
      exact ⟨ret_intc (by rw [HK.out]), rfl⟩
theorem infoOP : (Try.prog.info? 76).map (fun i => (i.zero, i.size, i.bytes)) = some (some (.agg #[.int .i64 0, .int .u32 0]), 2, 16) := by kernel_rfl
theorem run_make_ops (n : Nat) (hn : n ≤ 1048576) (w : World) : (Instr.makeSlice 64 (.int .i64 (n : Int)) (.int .i64 (n : Int))).run Try.prog w = .ok (.slice (some ⟨w.heap.size, 0, none⟩) n n) (w.alloc (.cells (madeCells #[.int .i64 0, .int .u32 0] (n * 2)) 76)) := by
  obtain ⟨i, hi, hzz⟩ := Option.map_eq_some_iff.1 infoOP
  simp only [Prod.mk.injEq] at hzz
  obtain ⟨hz, hs, hb⟩ := hzz
  have := run_make (P := Try.prog) w 64 76 i _ Try.underlying64 hi hz .i64 .i64 n n (by omega) (Int.le_refl _) (by rw [hb]; omega) (by omega)
  rw [hs, Int.toNat_natCast] at this
  exact this
set_option maxHeartbeats 400000 in
theorem to_cop (x1 x2 : Int) (w : World) : Calls Try.prog 73 #[cpv x1 x2] w fun x w' => x = .returned (cpv x1 x2) ∧ Below w.heap.size w w' := by
  go_enter Try.func73, Try.ntmps73
  go_wp2
  exact bodyPost_ret (v := cpv x1 x2) (by simp [results, Try.results73, go_sem]) rfl ⟨rfl, (((Below.refl _ _).alloc (Nat.le_refl _) _).alloc (by simp) _).alloc (by simp; omega) _⟩
set_option maxHeartbeats 1000000 in
theorem to_cops (a : Option Addr) (cap n : Nat) (xs : List Cp) (w : World) (hs : PSeg w a xs) (hl : xs.length = n) (hn : n ≤ 1048576) :
    Calls Try.prog 46 #[.slice a n cap] w fun e w' => e = .returned (.slice (some ⟨w.heap.size, 0, none⟩) n n) ∧ Below w.heap.size w w' ∧ DuBlk w' w.heap.size 0 n n xs := by
  have hmk := run_make_ops n hn
  have HS : Hid (PSeg w a xs ∧ xs.length = n) := And.intro hs hl
  clear hs hl
  go_enter Try.func46, Try.ntmps46
  go_wp2
  go_loopw [4] (fun i wr => ∃ k : Nat, k ≤ n ∧ i = .int .i64 k ∧ Hid (Below w.heap.size w wr ∧ DuBlk wr w.heap.size 0 n k xs)) (fun i _ => n - (intOf i).toNat)
  case atStart => exact ⟨0, by omega, rfl, (Below.refl _ _).alloc (Nat.le_refl _) _, DuBlk.made w n 76 xs⟩
  case round =>
    obtain ⟨k, hk, rfl, HB⟩ := hrel
    by_cases hlt : k < n
    · have hlt' : (k : Int) < (n : Int) := by omega
      obtain ⟨b1, o1, rfl, hbl1, p1⟩ := PSeg.at (w := w) HS.out.1 k (by have := HS.out.2; omega)
      have hb := HB.out.1
      replace p1 := p1.of (w' := wr) (fun i => hb.cell (p := ⟨b1, i, none⟩) hbl1)
      obtain ⟨p, HP⟩ : ∃ p, Hid (xs.getD k cp0 = p) := ⟨_, rfl⟩
      rw [HP.out] at p1
      obtain ⟨c0, c1⟩ := p1
      obtain ⟨x1, x2⟩ := p
      simp only at c0 c1
      clear hbl1
      go_wp2_with fail
      refine (to_cop x1 x2 _).mono ?_
      rintro u w2 ⟨rfl, hbb⟩
      have hp2 := HB.out.2.below hbb
      have hb2 := hb.trans (hbb.mono hb.size)
      obtain ⟨u1, hu1⟩ := hp2.room k hlt 0 (by omega)
      obtain ⟨u2, hu2⟩ := hp2.room k hlt 1 (by omega)
      have hf := hp2.free
      have HP3 := hp2.put hlt x1 x2 HP.out
      have HB3 : Hid (Below w.heap.size w ((w2.setCell ⟨w.heap.size, 0 + k * 2, none⟩ (.int .i64 x1)).setCell ⟨w.heap.size, 0 + k * 2 + 1, none⟩ (.int .u32 x2)) ∧ DuBlk ((w2.setCell ⟨w.heap.size, 0 + k * 2, none⟩ (.int .i64 x1)).setCell ⟨w.heap.size, 0 + k * 2 + 1, none⟩ (.int .u32 x2)) w.heap.size 0 n (k + 1) xs) :=
        ⟨(hb2.setCell (p := ⟨w.heap.size, 0 + k * 2, none⟩) (Nat.le_refl _) _).setCell (p := ⟨w.heap.size, 0 + k * 2 + 1, none⟩) (Nat.le_refl _) _, HP3⟩
      rw [Nat.zero_add] at hu1 hu2 HB3
      rw [Nat.add_zero] at hu1
      have hv2 : (w2.setCell ⟨w.heap.size, k * 2, none⟩ (.int .i64 x1)).cell? ⟨w.heap.size, k * 2 + 1, none⟩ = some u2 := by rw [World.cell?_setCell_other _ _ _ _ (by simp)]; exact hu2
      clear hbb hp2 hb2 HP3 HB hb c0 c1
      go_wp2
      go_roundw
      case rel => exact ⟨k + 1, by omega, by go_num, HB3⟩
      case measure => simp [intOf]; omega
    · obtain rfl : k = n := by omega
      go_wp2
      go_ret
      exact ⟨rfl, HB.out.1, HB.out.2⟩
theorem sz_cops (a : Option Addr) (cap n L : Nat) (w : World) (hn : n ≤ 9223372036854775807) (hL : L ≤ 1048576) :
    Calls Try.prog 44 #[.slice a n cap, .int .i64 (L : Int)] w fun e w' => (∃ r : Int, e = .returned (.int .i64 r) ∧ (r < 0 ∨ (r = ((L - n : Nat) : Int) ∧ n ≤ L))) ∧ w' = w := by
  by_cases h : n ≤ L
  · obtain ⟨d, rfl⟩ : ∃ d, L = n + d := ⟨L - n, by omega⟩
    have hw : IntKind.i64.wrap (((n + d : Nat) : Int) - (n : Int)) = (d : Int) := by rw [show ((n + d : Nat) : Int) - (n : Int) = (d : Int) by omega, IntKind.wrap_i64]; omega
    have h0 : ¬ ((d : Int) < 0) := by omega
    go_enter Try.func44, Try.ntmps44
    go_wp2
    go_ret
    exact ⟨⟨_, rfl, by omega⟩, rfl⟩
  · have hw : IntKind.i64.wrap ((L : Int) - (n : Int)) = (L : Int) - (n : Int) := by rw [IntKind.wrap_i64]; omega
    have h0 : (L : Int) - (n : Int) < 0 := by omega
    go_enter Try.func44, Try.ntmps44
    go_wp2
    go_ret
    exact ⟨⟨_, rfl, .inl (by omega)⟩, rfl⟩
theorem addr_of {w : World} {a : Addr} {i : Nat} {v : Value} (h : w.cell? (a.add i) = some v) (hi : i = 0) : ∃ b off, a = ⟨b, off, none⟩ ∧ b < w.heap.size := by
  subst hi
  obtain ⟨b, off, spot⟩ := a
  have hspot : spot = none := by simpa [Addr.add] using World.cell?_spot h
  subst hspot
  exact ⟨b, off, rfl, by simpa [Addr.add] using World.block_lt_of_cell? w _ h⟩
theorem cellsLOP : Try.prog.cellsOf 98 = 2 := by kernel_rfl
set_option maxRecDepth 100000 in
theorem cops_open {H : Type} {enc : TypeId × Value → H} {W : World} {base : Nat} {spare : Nat → Bool} {held : Bool} {fuel : Nat} {cs : List Value} {x : DataW H × List MemPlace}
    (h : DataW.trod enc Try.prog W base spare held fuel 60 cs = some x) : ∃ a xs c, cs = [.slice a (List.length xs) c] ∧ PSeg W a xs ∧ xs.length ≤ 9223372036854775807 := by
  rcases open_slice (P := Try.prog) Try.underlying60 h with ⟨rfl, _⟩ | ⟨a, len, cap, m, n, D, Pl, rfl, hb, hl, hm, hmm, rfl, hx⟩
  · exact ⟨none, [], 0, rfl, PSeg.nil _ _, by simp⟩
  · have hlm : len ≤ m := by rw [hmm]; split <;> omega
    obtain ⟨Z, hZ⟩ := choose_lt (α := Cp) (n := len) (p := fun i z => W.cell? (a.add (i * 2)) = some (.int .i64 z.1) ∧ W.cell? (a.add (i * 2 + 1)) = some (.int .u32 z.2)) (fun i hi => by
      obtain ⟨cs', h1, h2⟩ := hx i (by omega)
      rw [cellsLOP] at h1
      obtain ⟨_, hlen, hcell⟩ := World.cells?_some h1
      obtain ⟨xs, k, hk, hxy, _, hxl, hfs⟩ := DataW.trod_struct Try.underlying98 h2
      obtain ⟨y0, y1, rfl⟩ := list2 hxl
      obtain ⟨v0, v1, rfl⟩ := list2 hlen
      have g0 := hfs 0 _ rfl
      have g1 := hfs 1 _ rfl
      simp [cells3, cellsU3] at g0 g1
      obtain ⟨b, e0, rfl, w0⟩ := DataW.trod_int Try.underlying3 g0
      obtain ⟨z, e1, rfl, w1⟩ := DataW.trod_int Try.underlying48 g1
      injection e0 with e0
      injection e1 with e1
      have c0 := hcell 0 (by omega)
      have c1 := hcell 1 (by omega)
      rw [add_add] at c0 c1
      refine ⟨(b, z), ?_, ?_⟩
      · simpa [e0] using c0
      · simpa [e1] using c1)
    have hg : ∀ i, i < len → ((List.range len).map Z).getD i cp0 = Z i := fun i hi => by simp [List.getD, hi]
    refine ⟨some a, (List.range len).map Z, cap, by simp, fun h0 => ?_, by simp only [List.length_map, List.length_range]; have : maxLen = 9223372036854775807 := rfl; omega⟩
    simp only [List.length_map, List.length_range] at h0
    obtain ⟨b, off, rfl, hlt⟩ := addr_of (hZ 0 h0).1 (by omega)
    refine ⟨b, off, rfl, hlt, fun i hi => ?_⟩
    simp only [List.length_map, List.length_range] at hi
    rw [hg i hi]
    have := hZ i hi
    rw [add_plain, add_plain, ← Nat.add_assoc] at this
    exact this
set_option maxRecDepth 100000 in
theorem cops_arg {H : Type} {enc : TypeId × Value → H} {W : World} {r : Reach} {b0 base : Nat} {spare : Nat → Bool} {held : Bool} {v : Value} {d : DataW H} {p : List MemPlace}
    (hv : Value.okWide Try.prog W r b0 60 v) (h : DataW.Trod enc Try.prog W base spare held 60 v d p) :
    ∃ a xs c, v = .slice a (List.length xs) c ∧ PSeg W a xs ∧ xs.length ≤ 9223372036854775807 := by
  obtain ⟨a, len, cap, rfl⟩ := okWide_slice Try.underlying60 hv
  obtain ⟨fuel, hf⟩ := h
  obtain ⟨a', xs, c, e, hs, h1⟩ := cops_open hf
  simp [Value.cells] at e
  obtain ⟨rfl, rfl, rfl⟩ := e
  exact ⟨_, xs, _, rfl, hs, h1⟩
end Go.Proofs.Ytoofjlfbedjbnaa
