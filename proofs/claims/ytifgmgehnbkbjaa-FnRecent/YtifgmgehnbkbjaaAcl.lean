/-
  Lists of accesses (three truth values each) in memory, and what the laws' helpers on them do: whether two are alike, the marks. Conditions: a list that is marked is the call's own; lengths are at most 1048576.
-/
import Derived.Test.YtifgmgehnbkbjaaRows
import Derived.Test.YtifgmgehnbkbjaaWap
import Derived.Test.YtifgmgehnbkbjaaWmk
import Derived.Deep.RegionHeld3
import Derived.Deep.QuietTactic
import Derived.BigQuiet
namespace Go.Proofs.Ytifgmgehnbkbjaa
open Go.ChangeShapes Go.WideShapes Go.ChangeAt Go.RowKit Go.Deep
set_option linter.unusedVariables false

abbrev Ac := Bool × Bool × Bool
abbrev ad : Ac := (false, false, false)
def A3 (w : World) (b o : Nat) (x : Ac) : Prop := w.cell? ⟨b, o, none⟩ = some (.bool x.1) ∧ w.cell? ⟨b, o + 1, none⟩ = some (.bool x.2.1) ∧ w.cell? ⟨b, o + 2, none⟩ = some (.bool x.2.2)
def ASeg (w : World) (a : Option Addr) (xs : List Ac) : Prop :=
  0 < xs.length → ∃ b off, a = some ⟨b, off, none⟩ ∧ b < w.heap.size ∧ ∀ i, i < xs.length → A3 w b (off + i * 3) (xs.getD i ad)
theorem ASeg.at {w : World} {a : Option Addr} {xs : List Ac} (h : ASeg w a xs) (i : Nat) (hi : i < xs.length) : ∃ b off, a = some ⟨b, off, none⟩ ∧ b < w.heap.size ∧ A3 w b (off + i * 3) (xs.getD i ad) := by
  obtain ⟨b, off, e, hlt, hc⟩ := h (by omega)
  exact ⟨b, off, e, hlt, hc i hi⟩
/-- A list that lies in a block from 'lo' on and below 'hi' that may be written. -/
def AI (w : World) (lo hi : Nat) (a : Option Addr) (xs : List Ac) : Prop :=
  0 < xs.length → ∃ B off, a = some ⟨B, off, none⟩ ∧ lo ≤ B ∧ B < hi ∧ B < w.heap.size ∧ (∀ i, i < xs.length → A3 w B (off + i * 3) (xs.getD i ad)) ∧ ∀ j, w.frozen? ⟨B, j, none⟩ = false
theorem A3.of {w w' : World} {b o : Nat} {x : Ac} (h : A3 w b o x) (hc : ∀ i, w'.cell? ⟨b, i, none⟩ = w.cell? ⟨b, i, none⟩) : A3 w' b o x := ⟨(hc _).trans h.1, (hc _).trans h.2.1, (hc _).trans h.2.2⟩
theorem AI.seg {w : World} {lo hi : Nat} {a : Option Addr} {xs : List Ac} (h : AI w lo hi a xs) : ASeg w a xs := fun h0 => by
  obtain ⟨B, off, e, _, _, hlt, hc, _⟩ := h h0
  exact ⟨B, off, e, hlt, hc⟩
theorem AI.betw {w w' : World} {lo hi l' h' : Nat} {a : Option Addr} {xs : List Ac} (h : AI w lo hi a xs) (hb : Betw l' h' w w') (ho : hi ≤ l' ∨ h' ≤ lo) : AI w' lo hi a xs := fun h0 => by
  obtain ⟨B, off, e, h1, h2, hlt, hc, hf⟩ := h h0
  exact ⟨B, off, e, h1, h2, Nat.lt_of_lt_of_le hlt hb.size, fun i hi => (hc i hi).of (fun j => hb.cell (p := ⟨B, j, none⟩) hlt (by simp; omega)), fun j => (hb.frozen (p := ⟨B, j, none⟩) hlt (by simp; omega)).trans (hf j)⟩
theorem AI.below {w w' : World} {lo hi : Nat} {a : Option Addr} {xs : List Ac} (h : AI w lo hi a xs) (hb : Below w.heap.size w w') : AI w' lo hi a xs :=
  AI.betw (l' := 0) (h' := 0) h (Below.betw hb) (.inr (Nat.zero_le _))
def acV (x : Ac) : Value := .agg #[.bool x.1, .bool x.2.1, .bool x.2.2]
theorem eq_acc (x : Ac) (w : World) : Calls Try.prog 78 #[.agg #[.bool x.1, .bool x.2.1, .bool x.2.2], .agg #[.bool x.1, .bool x.2.1, .bool x.2.2]] w fun e w' => e = .returned (.bool true) ∧ Below w.heap.size w w' := by
  obtain ⟨x1, x2, x3⟩ := x
  simp only
  cases x1 <;> cases x2 <;> cases x3 <;>
  · go_enter Try.func78, Try.ntmps78
    go_wp2
    go_ret
    exact ⟨rfl, ((Below.refl _ _).alloc (Nat.le_refl _) _).alloc (by simp) _⟩
set_option maxHeartbeats 2000000 in
theorem eq_accs (a b : Option Addr) (ca cb n : Nat) (xs : List Ac) (w : World) (ha : ASeg w a xs) (hb : ASeg w b xs) (hl : xs.length = n) (hn : n ≤ 1048576) :
    Calls Try.prog 46 #[.slice a n ca, .slice b n cb] w fun e w' => e = .returned (.bool true) ∧ Below w.heap.size w w' := by
  have HL : Hid _ := hl
  have HA : Hid (ASeg w a xs ∧ ASeg w b xs) := And.intro ha hb
  clear ha hb hl
  go_enter Try.func46, Try.ntmps46
  go_wp2
  go_loopw [5] (fun i wr => ∃ k : Nat, k ≤ n ∧ i = .int .i64 k ∧ Hid (Below w.heap.size w wr)) (fun i _ => n - (intOf i).toNat)
  case atStart => exact ⟨0, by omega, rfl, Below.refl _ _⟩
  case round =>
    obtain ⟨k, hk, rfl, HB⟩ := hrel
    by_cases hlt : k < n
    · have hlt' : (k : Int) < (n : Int) := by omega
      have hl : k < xs.length := by rw [HL.out]; exact hlt
      obtain ⟨b1, o1, rfl, hbl1, p1⟩ := HA.out.1.at k hl
      obtain ⟨b2, o2, rfl, hbl2, p2⟩ := HA.out.2.at k hl
      have hb := HB.out
      replace p1 := p1.of (w' := wr) (fun i => hb.cell (p := ⟨b1, i, none⟩) hbl1)
      replace p2 := p2.of (w' := wr) (fun i => hb.cell (p := ⟨b2, i, none⟩) hbl2)
      generalize xs.getD k ad = x at p1 p2
      obtain ⟨c0, c1, c2⟩ := p1
      obtain ⟨d0, d1, d2⟩ := p2
      have HE : Hid _ := fun X => eq_acc x X
      obtain ⟨x1, x2, x3⟩ := x
      simp only at c0 c1 c2 d0 d1 d2
      clear hl hbl1 hbl2 HB
      go_wp2
      go_region_held3 (fun w' => w'.cell? ⟨b1, o1 + k * 3, none⟩ = some (.bool x1) ∧ w'.cell? ⟨b1, o1 + k * 3 + 1, none⟩ = some (.bool x2) ∧ w'.cell? ⟨b1, o1 + k * 3 + 2, none⟩ = some (.bool x3) ∧ w'.cell? ⟨b2, o2 + k * 3, none⟩ = some (.bool x1) ∧ w'.cell? ⟨b2, o2 + k * 3 + 1, none⟩ = some (.bool x2) ∧ w'.cell? ⟨b2, o2 + k * 3 + 2, none⟩ = some (.bool x3)) (first | exact ⟨c0, c1, c2, d0, d1, d2⟩) (first | (go_at_call 78; refine Calls.mono (HE.out _) ?_; rintro u w9 ⟨rfl, hbb⟩; (first | replace hb := hb.trans (hbb.mono hb.size) | replace hb := hb.drew.trans (hbb.mono hb.drew.size)); replace c0 := kept_cell hbb c0; replace c1 := kept_cell hbb c1; replace c2 := kept_cell hbb c2; replace d0 := kept_cell hbb d0; replace d1 := kept_cell hbb d1; replace d2 := kept_cell hbb d2; clear hbb))
      go_wp2
      go_roundw
      case rel => exact ⟨k + 1, by omega, by go_num, hb⟩
      case measure => simp [intOf]; omega
    · go_wp2
      go_ret
      exact ⟨rfl, HB.out⟩
def mk3 (k : Nat) : Ac := (decide (k % 3 = 0), decide ((k + 1) % 3 = 0), decide ((k + 2) % 3 = 0))
def marksA (k n : Nat) : List Ac := (List.range n).map fun i => mk3 (k + 3 * i)
theorem marksA_len (k n : Nat) : (marksA k n).length = n := by simp [marksA]
theorem marksA_at (k n i : Nat) (hi : i < n) : (marksA k n).getD i ad = mk3 (k + 3 * i) := by simp [marksA, hi, List.getD]
/-- A block of triples, m of which have been laid. -/
structure TriBlk (w : World) (B off n m : Nat) (xs : List Ac) : Prop where
  lt : B < w.heap.size
  free : ∀ j, w.frozen? ⟨B, j, none⟩ = false
  room : ∀ i, i < n → ∀ j, j < 3 → ∃ u, w.cell? ⟨B, off + i * 3 + j, none⟩ = some u
  done : ∀ i, i < m → A3 w B (off + i * 3) (xs.getD i ad)
theorem TriBlk.put {w : World} {B off n m : Nat} {xs : List Ac} (h : TriBlk w B off n m xs) (hm : m < n) (x1 x2 x3 : Bool) (he : xs.getD m ad = (x1, x2, x3)) :
    TriBlk (((w.setCell ⟨B, off + m * 3, none⟩ (.bool x1)).setCell ⟨B, off + m * 3 + 1, none⟩ (.bool x2)).setCell ⟨B, off + m * 3 + 2, none⟩ (.bool x3)) B off n (m + 1) xs := by
  obtain ⟨u0, h0⟩ := h.room m hm 0 (by omega)
  obtain ⟨u1, h1⟩ := h.room m hm 1 (by omega)
  obtain ⟨u2, h2⟩ := h.room m hm 2 (by omega)
  rw [Nat.add_zero] at h0
  have hoth : ∀ q, q ≠ off + m * 3 → q ≠ off + m * 3 + 1 → q ≠ off + m * 3 + 2 → (((w.setCell ⟨B, off + m * 3, none⟩ (.bool x1)).setCell ⟨B, off + m * 3 + 1, none⟩ (.bool x2)).setCell ⟨B, off + m * 3 + 2, none⟩ (.bool x3)).cell? ⟨B, q, none⟩ = w.cell? ⟨B, q, none⟩ := fun q e1 e2 e3 => by
    rw [World.cell?_setCell_other _ _ _ _ (by intro c; injection c with c1 c2 c3; omega), World.cell?_setCell_other _ _ _ _ (by intro c; injection c with c1 c2 c3; omega), World.cell?_setCell_other _ _ _ _ (by intro c; injection c with c1 c2 c3; omega)]
  have k0 : (((w.setCell ⟨B, off + m * 3, none⟩ (.bool x1)).setCell ⟨B, off + m * 3 + 1, none⟩ (.bool x2)).setCell ⟨B, off + m * 3 + 2, none⟩ (.bool x3)).cell? ⟨B, off + m * 3, none⟩ = some (.bool x1) := by
    rw [World.cell?_setCell_other _ _ _ _ (by simp), World.cell?_setCell_other _ _ _ _ (by simp)]
    exact World.cell?_setCell_same _ _ _ h0
  have k1 : (((w.setCell ⟨B, off + m * 3, none⟩ (.bool x1)).setCell ⟨B, off + m * 3 + 1, none⟩ (.bool x2)).setCell ⟨B, off + m * 3 + 2, none⟩ (.bool x3)).cell? ⟨B, off + m * 3 + 1, none⟩ = some (.bool x2) := by
    have e1 : (w.setCell ⟨B, off + m * 3, none⟩ (.bool x1)).cell? ⟨B, off + m * 3 + 1, none⟩ = some u1 := by rw [World.cell?_setCell_other _ _ _ _ (by simp)]; exact h1
    rw [World.cell?_setCell_other _ _ _ _ (by simp)]
    exact World.cell?_setCell_same _ _ _ e1
  have k2 : (((w.setCell ⟨B, off + m * 3, none⟩ (.bool x1)).setCell ⟨B, off + m * 3 + 1, none⟩ (.bool x2)).setCell ⟨B, off + m * 3 + 2, none⟩ (.bool x3)).cell? ⟨B, off + m * 3 + 2, none⟩ = some (.bool x3) := by
    have e2 : ((w.setCell ⟨B, off + m * 3, none⟩ (.bool x1)).setCell ⟨B, off + m * 3 + 1, none⟩ (.bool x2)).cell? ⟨B, off + m * 3 + 2, none⟩ = some u2 := by rw [World.cell?_setCell_other _ _ _ _ (by simp), World.cell?_setCell_other _ _ _ _ (by simp)]; exact h2
    exact World.cell?_setCell_same _ _ _ e2
  refine ⟨by simpa using h.lt, fun j => by simpa using h.free j, fun i hi j hj => ?_, fun i hi => ?_⟩
  · by_cases e0 : off + i * 3 + j = off + m * 3
    · rw [e0]; exact ⟨_, k0⟩
    · by_cases e1 : off + i * 3 + j = off + m * 3 + 1
      · rw [e1]; exact ⟨_, k1⟩
      · by_cases e2 : off + i * 3 + j = off + m * 3 + 2
        · rw [e2]; exact ⟨_, k2⟩
        · rw [hoth _ e0 e1 e2]; exact h.room i hi j hj
  · by_cases e : i = m
    · subst e
      rw [he]
      exact ⟨k0, k1, k2⟩
    · have hd := h.done i (by omega)
      exact ⟨(hoth _ (by omega) (by omega) (by omega)).trans hd.1, (hoth _ (by omega) (by omega) (by omega)).trans hd.2.1, (hoth _ (by omega) (by omega) (by omega)).trans hd.2.2⟩
set_option maxHeartbeats 2000000 in
theorem mark_accs (lo hi cap n k : Nat) (a : Option Addr) (xs : List Ac) (w : World) (ho : AI w lo hi a xs) (hl : xs.length = n) (hn : n ≤ 1048576) (hk1 : k ≤ 1000) :
    Calls Try.prog 49 #[.slice a n cap, .int .i64 (k : Int)] w fun e w' => e = .returned (.int .i64 ((k + 3 * n : Nat) : Int)) ∧ Betw lo hi w w' ∧ AI w' lo hi a (marksA k n) := by
  by_cases h0 : n = 0
  · subst h0
    go_enter Try.func49, Try.ntmps49
    go_wp2
    refine wp_loop_rounds 1 ?_
    rw [rounds_succ]
    go_wp2
    go_ret
    exact ⟨ret_int (by simp), Betw.refl _ _ _, fun h => absurd h (by simp [marksA])⟩
  · obtain ⟨B, off, rfl, hB1, hB2, hlt, hc, hf⟩ := ho (by omega)
    have HB : Hid (TriBlk w B off n 0 (marksA k n)) := ⟨hlt, hf, fun i hi j hj => by
      have := hc i (by omega)
      match j, hj with
      | 0, _ => exact ⟨_, this.1⟩
      | 1, _ => exact ⟨_, this.2.1⟩
      | 2, _ => exact ⟨_, this.2.2⟩, fun i hi => absurd hi (by omega)⟩
    clear hc ho hf hl
    go_enter Try.func49, Try.ntmps49
    go_wp2
    go_loopw [1, 5] (fun t i wr => ∃ m K : Nat, m ≤ n ∧ K ≤ 4000000 ∧ i = .int .i64 m ∧ t = .int .i64 (K : Int) ∧ Hid (K = k + 3 * m ∧ Betw lo hi w wr ∧ TriBlk wr B off n m (marksA k n))) (fun _ i _ => n - (intOf i).toNat)
    case atStart => exact ⟨0, k, by omega, by omega, rfl, rfl, rfl, Betw.refl _ _ _, HB.out⟩
    case round =>
      obtain ⟨m, K, hm, hK, rfl, rfl, HR⟩ := hrel
      by_cases hlt : m < n
      · obtain ⟨hKe, hb, ht⟩ := HR.out
        obtain ⟨u0, c0⟩ := ht.room m hlt 0 (by omega)
        obtain ⟨u1, c1⟩ := ht.room m hlt 1 (by omega)
        obtain ⟨u2, c2⟩ := ht.room m hlt 2 (by omega)
        rw [Nat.add_zero] at c0
        have hf := ht.free
        have hlt' : (m : Int) < (n : Int) := by omega
        have hr0 := rem3 K
        have hr1 := rem3 (K + 1)
        have hr2 := rem3 (K + 2)
        have he : (marksA k n).getD m ad = (decide (K % 3 = 0), decide ((K + 1) % 3 = 0), decide ((K + 2) % 3 = 0)) := by rw [marksA_at k n m hlt, ← hKe]; rfl
        have ht2 := ht.put hlt _ _ _ he
        generalize decide (K % 3 = 0) = d0 at hr0 ht2
        generalize decide ((K + 1) % 3 = 0) = d1 at hr1 ht2
        generalize decide ((K + 2) % 3 = 0) = d2 at hr2 ht2
        have hr1' : (((K : Int) + 1) % 3 == 0) = d1 := hr1
        have hr2' : (((K : Int) + 2) % 3 == 0) = d2 := hr2
        have hr2'' : (((K : Int) + 1 + 1) % 3 == 0) = d2 := hr2
        clear hr1 hr2
        have HR2 : Hid (K + 3 = k + 3 * (m + 1) ∧ Betw lo hi w (((wr.setCell ⟨B, off + m * 3, none⟩ (.bool d0)).setCell ⟨B, off + m * 3 + 1, none⟩ (.bool d1)).setCell ⟨B, off + m * 3 + 2, none⟩ (.bool d2)) ∧ TriBlk (((wr.setCell ⟨B, off + m * 3, none⟩ (.bool d0)).setCell ⟨B, off + m * 3 + 1, none⟩ (.bool d1)).setCell ⟨B, off + m * 3 + 2, none⟩ (.bool d2)) B off n (m + 1) (marksA k n)) :=
          ⟨by omega, ((hb.setCell (p := ⟨B, off + m * 3, none⟩) hB1 hB2 _).setCell (p := ⟨B, off + m * 3 + 1, none⟩) hB1 hB2 _).setCell (p := ⟨B, off + m * 3 + 2, none⟩) hB1 hB2 _, ht2⟩
        have e1 : (wr.setCell ⟨B, off + m * 3, none⟩ (.bool d0)).cell? ⟨B, off + m * 3 + 1, none⟩ = some u1 := by rw [World.cell?_setCell_other _ _ _ _ (by simp)]; exact c1
        have e2 : ((wr.setCell ⟨B, off + m * 3, none⟩ (.bool d0)).setCell ⟨B, off + m * 3 + 1, none⟩ (.bool d1)).cell? ⟨B, off + m * 3 + 2, none⟩ = some u2 := by rw [World.cell?_setCell_other _ _ _ _ (by simp), World.cell?_setCell_other _ _ _ _ (by simp)]; exact c2
        have hK2 : K + 3 ≤ 4000000 := by omega
        clear hb ht ht2 HR hKe he c1 c2
        go_wp2
        go_roundw
        case rel => exact ⟨m + 1, K + 3, by omega, hK2, by go_num, by go_num, HR2⟩
        case measure => simp [intOf]; omega
      · obtain rfl : m = n := by omega
        go_wp2
        go_ret
        obtain ⟨hKe, hb, ht⟩ := HR.out
        exact ⟨ret_int (by rw [hKe]), hb, fun _ => ⟨B, off, rfl, hB1, hB2, ht.lt, fun i hi => ht.done i (by rw [marksA_len] at hi; exact hi), ht.free⟩⟩
set_option maxHeartbeats 2000000 in
theorem held_accs (a : Option Addr) (cap n k : Nat) (w : World) (hs : ASeg w a (marksA k n)) (hn : n ≤ 1048576) (hk1 : k ≤ 1000) :
    Calls Try.prog 50 #[.slice a n cap, .int .i64 (k : Int)] w fun e w' => e = .returned (.int .i64 ((k + 3 * n : Nat) : Int)) ∧ w' = w := by
  have HS : Hid (ASeg w a (marksA k n)) := hs
  clear hs
  go_enter Try.func50, Try.ntmps50
  go_wp2
  go_loopw [1, 5] (fun t i wr => ∃ m K : Nat, m ≤ n ∧ K ≤ 4000000 ∧ i = .int .i64 m ∧ t = .int .i64 (K : Int) ∧ wr = w ∧ Hid (K = k + 3 * m)) (fun _ i _ => n - (intOf i).toNat)
  case atStart => exact ⟨0, k, by omega, by omega, rfl, rfl, rfl, rfl⟩
  case round =>
    obtain ⟨m, K, hm, hK, rfl, rfl, rfl, HK⟩ := hrel
    by_cases hlt : m < n
    · have hlt' : (m : Int) < (n : Int) := by omega
      obtain ⟨b1, o1, rfl, hbl1, p⟩ := ASeg.at HS.out m (by rw [marksA_len]; exact hlt)
      rw [marksA_at k n m hlt, ← HK.out] at p
      obtain ⟨c0, c1, c2⟩ := p
      simp only [mk3] at c0 c1 c2
      have hr0 := rem3 K
      have hr1 := rem3 (K + 1)
      have hr2 := rem3 (K + 2)
      have HK2 : Hid (K + 3 = k + 3 * (m + 1)) := by have := HK.out; show _ = _; omega
      have hK2 : K + 3 ≤ 4000000 := by have := HK.out; omega
      generalize decide (K % 3 = 0) = d0 at hr0 c0
      generalize decide ((K + 1) % 3 = 0) = d1 at hr1 c1
      generalize decide ((K + 2) % 3 = 0) = d2 at hr2 c2
      have hr1' : (((K : Int) + 1) % 3 == 0) = d1 := hr1
      have hr2' : (((K : Int) + 2) % 3 == 0) = d2 := hr2
      have hr2'' : (((K : Int) + 1 + 1) % 3 == 0) = d2 := hr2
      clear hr1 hr2
      have hd0 : (d0 != d0) = false := by simp
      have hd1 : (d1 != d1) = false := by simp
      have hd2 : (d2 != d2) = false := by simp
      clear hbl1
      go_wp2
      go_roundw
      case rel => exact ⟨m + 1, K + 3, by omega, hK2, by go_num, by go_num, trivial, HK2⟩
      case measure => simp [intOf]; omega
    · obtain rfl : m = n := by omega
      go_wp2
      go_ret
      exact ⟨ret_int (by rw [HK.out]), rfl⟩
theorem infoA : (Try.prog.info? 36).map (fun i => (i.zero, i.size, i.bytes)) = some (some (.agg #[.bool false, .bool false, .bool false]), 3, 3) := by kernel_rfl
theorem infoA' : ∃ i, Try.prog.info? 36 = some i ∧ i.zero = some (.agg #[.bool false, .bool false, .bool false]) ∧ i.size = 3 ∧ i.bytes = 3 := by
  obtain ⟨i, hi, h⟩ := Option.map_eq_some_iff.1 infoA
  simp only [Prod.mk.injEq] at h
  exact ⟨i, hi, h.1, h.2.1, h.2.2⟩
def acCells (xs : List Ac) : List Value := xs.flatMap fun x => [.bool x.1, .bool x.2.1, .bool x.2.2]
theorem acCells_len (xs : List Ac) : (acCells xs).length = xs.length * 3 := by
  induction xs with
  | nil => rfl
  | cons x xs ih => simp only [acCells, List.flatMap_cons, List.length_append, List.length_cons, List.length_nil] at ih ⊢; omega
theorem acCells_snoc (xs : List Ac) (x : Ac) : acCells (xs ++ [x]) = acCells xs ++ [.bool x.1, .bool x.2.1, .bool x.2.2] := by simp [acCells]
theorem acCells_at (xs : List Ac) (i : Nat) (hi : i < xs.length) : (acCells xs)[i * 3]? = some (.bool (xs.getD i ad).1) ∧ (acCells xs)[i * 3 + 1]? = some (.bool (xs.getD i ad).2.1) ∧ (acCells xs)[i * 3 + 2]? = some (.bool (xs.getD i ad).2.2) := by
  induction xs generalizing i with
  | nil => simp at hi
  | cons x xs ih =>
    cases i with
    | zero => simp [acCells]
    | succ i =>
      have := ih i (by simpa using hi)
      have e : acCells (x :: xs) = .bool x.1 :: .bool x.2.1 :: .bool x.2.2 :: acCells xs := by simp [acCells]
      rw [e, show (i + 1) * 3 = i * 3 + 1 + 1 + 1 by omega]
      simpa using this
/-- A list of accesses that the call owns, from block 'base' on. -/
def OwnA (w : World) (base : Nat) (v : Value) (xs : List Ac) : Prop := w.ownsRow base 36 3 v xs.length (acCells xs)
theorem OwnA.new (w : World) (B : Nat) (hB : B = w.heap.size) : OwnA (w.alloc (.cells #[] 36)) B (.slice (some ⟨B, 0, none⟩) 0 0) [] := by
  subst hB
  exact ⟨rfl, .inr ⟨w.heap.size, 0, #[], rfl, Nat.le_refl _, by show (w.heap.push _)[w.heap.size]? = _; simp, Nat.le_refl _, by simp, rfl, rfl⟩⟩
theorem OwnA.below {w w' : World} {base : Nat} {v : Value} {xs : List Ac} (h : OwnA w base v xs) (hb : Below w.heap.size w w') : OwnA w' base v xs := ownsRow_below h hb
theorem OwnA.low {w : World} {base b' : Nat} {v : Value} {xs : List Ac} (h : OwnA w base v xs) (hle : b' ≤ base) : OwnA w b' v xs := by
  refine ⟨h.1, ?_⟩
  rcases h.2 with hn | ⟨g, cap, cur, e, hb, rest⟩
  · exact .inl hn
  · exact .inr ⟨g, cap, cur, e, by omega, rest⟩
theorem OwnA.snoc {w : World} {base g cap : Nat} {xs : List Ac} {x : Ac} (h : w.ownsRow base 36 3 (.slice (some ⟨g, 0, none⟩) (xs.length + 1) cap) (xs.length + 1) (acCells xs ++ [.bool x.1, .bool x.2.1, .bool x.2.2])) :
    OwnA w base (.slice (some ⟨g, 0, none⟩) (xs.length + 1) cap) (xs ++ [x]) := by
  unfold OwnA
  rw [acCells_snoc]
  simpa using h
theorem OwnA.ai {w : World} {base : Nat} {v : Value} {xs : List Ac} (h : OwnA w base v xs) : ∃ a cap, v = .slice a xs.length cap ∧ AI w base w.heap.size a xs := by
  rcases h.2 with ⟨h0, h1⟩ | ⟨g, cap, cur, rfl, hb, hg, h1, h2, h3, h4⟩
  · exact ⟨none, 0, by rw [h0, h1], fun h => absurd h (by omega)⟩
  · have hlt : g < w.heap.size := by
      rcases Nat.lt_or_ge g w.heap.size with hlt | hge
      · exact hlt
      · rw [Array.getElem?_eq_none hge] at hg; cases hg
    refine ⟨_, _, rfl, fun h0 => ⟨g, 0, rfl, hb, hlt, hlt, fun i hi => ?_, fun j => by simp [World.frozen?, hg]⟩⟩
    have hc : ∀ j v, (acCells xs)[j]? = some v → cur[j]? = some v := fun j v e => by
      have hj : j < (acCells xs).length := by
        rcases Nat.lt_or_ge j (acCells xs).length with g | g
        · exact g
        · rw [List.getElem?_eq_none g] at e; cases e
      rw [acCells_len] at hj
      rw [← h4, List.getElem?_take, if_pos hj] at e
      simpa using e
    obtain ⟨g1, g2, g3⟩ := acCells_at xs i hi
    rw [Nat.zero_add]
    refine ⟨?_, ?_, ?_⟩
    · simp [World.cell?, hg, hc _ _ g1]
    · simp [World.cell?, hg, hc _ _ g2]
    · simp [World.cell?, hg, hc _ _ g3]
theorem news_acc (w : World) (x : Ac) (B : Nat) (hB : B = w.heap.size) : ∀ j u, [Value.bool x.1, .bool x.2.1, .bool x.2.2][j]? = some u → (w.alloc (.cells #[.bool x.1, .bool x.2.1, .bool x.2.2] 36)).cell? ((⟨B, 0, none⟩ : Addr).add j) = some u := by
  subst hB
  exact World.news_of_block (cs := #[.bool x.1, .bool x.2.1, .bool x.2.2]) (t := 36) (fr := (0, 0)) (by show (w.heap.push _)[w.heap.size]? = _; simp)
theorem one_acc (x : Ac) : ∀ u ∈ [Value.bool x.1, .bool x.2.1, .bool x.2.2], u.oneCell' = true := by
  intro u hu
  simp only [List.mem_cons, List.not_mem_nil, or_false] at hu
  rcases hu with rfl | rfl | rfl <;> rfl
end Go.Proofs.Ytifgmgehnbkbjaa
