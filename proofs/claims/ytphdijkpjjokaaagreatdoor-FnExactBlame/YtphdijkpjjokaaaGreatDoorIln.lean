
/-
  What the laws' helpers on lists of integers do: whether two lists read alike, the marks that are laid into a list and looked up. Conditions: the lists read as integers; a list that is marked is the call's own; lengths are at most 1048576.
-/
import Derived.Test.YtphdijkpjjokaaaGreatDoorBas
import Derived.Test.YtphdijkpjjokaaaGreatDoorProg
import Derived.Deep.QuietTactic
import Derived.BigQuiet
namespace Go.Proofs.YtphdijkpjjokaaaGreatDoor
open Go.ChangeShapes Go.WideShapes Go.ChangeAt Go.RowKit Go.Deep
set_option linter.unusedVariables false

/-- A list that lies in a block from 'lo' on and below 'hi' that may be written. -/
def OI (w : World) (lo hi : Nat) (a : Option Addr) (zs : List Int) : Prop :=
  0 < zs.length → ∃ B off, a = some ⟨B, off, none⟩ ∧ lo ≤ B ∧ B < hi ∧ B < w.heap.size ∧ (∀ i, i < zs.length → w.cell? ⟨B, off + i, none⟩ = some (.int .i64 (zs.getD i 0))) ∧ ∀ i, i < zs.length → w.frozen? ⟨B, off + i, none⟩ = false
theorem OI.seg {w : World} {lo hi : Nat} {a : Option Addr} {zs : List Int} (h : OI w lo hi a zs) : Seg .i64 w a zs := fun h0 => by
  obtain ⟨B, off, e, _, _, hlt, hc, _⟩ := h h0
  exact ⟨B, off, e, hlt, hc⟩
theorem OI.betw {w w' : World} {lo hi l' h' : Nat} {a : Option Addr} {zs : List Int} (h : OI w lo hi a zs) (hb : Betw l' h' w w') (ho : hi ≤ l' ∨ h' ≤ lo) : OI w' lo hi a zs := fun h0 => by
  obtain ⟨B, off, e, h1, h2, hlt, hc, hf⟩ := h h0
  exact ⟨B, off, e, h1, h2, Nat.lt_of_lt_of_le hlt hb.size, fun i hi => (hb.cell (p := ⟨B, off + i, none⟩) hlt (by simp; omega)).trans (hc i hi), fun i hi => (hb.frozen (p := ⟨B, off + i, none⟩) hlt (by simp; omega)).trans (hf i hi)⟩
theorem OI.below {w w' : World} {lo hi : Nat} {a : Option Addr} {zs : List Int} (h : OI w lo hi a zs) (hb : Below w.heap.size w w') : OI w' lo hi a zs :=
  OI.betw (l' := 0) (h' := 0) h (Below.betw hb) (.inr (Nat.zero_le _))
theorem OI.wide {w : World} {lo hi l' h' : Nat} {a : Option Addr} {zs : List Int} (h : OI w lo hi a zs) (g1 : l' ≤ lo) (g2 : hi ≤ h') : OI w l' h' a zs := fun h0 => by
  obtain ⟨B, off, e, h1, h2, r⟩ := h h0
  exact ⟨B, off, e, by omega, by omega, r⟩
def marks (k n : Nat) : List Int := (List.range n).map fun (i : Nat) => ((k + i : Nat) : Int)
theorem marks_len (k n : Nat) : (marks k n).length = n := by simp [marks]
theorem marks_at (k n i : Nat) (hi : i < n) : (marks k n).getD i 0 = ((k + i : Nat) : Int) := by simp [marks, hi, List.getD]
set_option maxHeartbeats 400000 in
theorem eq_ints (a b : Option Addr) (ca cb : Nat) (zs : List Int) (w : World) (ha : Seg .i64 w a zs) (hb : Seg .i64 w b zs) (hn : zs.length ≤ 1048576) :
    Calls Tryz.prog 42 #[.slice a zs.length ca, .slice b zs.length cb] w fun e w' => e = .returned (.bool true) ∧ Below w.heap.size w w' := by
  obtain ⟨n, Hn⟩ : ∃ n, Hid (n = zs.length) := ⟨_, rfl⟩
  have hn' : n ≤ 1048576 := by rw [Hn.out]; exact hn
  rw [← Hn.out]
  clear hn
  go_enter Tryz.func42, Tryz.ntmps42
  go_wp2
  go_loopw [5] (fun i wr => ∃ k m : Nat, k ≤ n ∧ i = .int .i64 k ∧ wr = w.drewN m) (fun i _ => n - (intOf i).toNat)
  case atStart => exact ⟨0, 0, by omega, rfl, rfl⟩
  case round =>
    obtain ⟨k, m, hk, rfl, rfl⟩ := hrel
    by_cases hlt : k < n
    · have hl : k < zs.length := by rw [← Hn.out]; exact hlt
      obtain ⟨b1, o1, rfl, hbl1, hc1⟩ := ha.at k hl
      obtain ⟨b2, o2, rfl, hbl2, hc2⟩ := hb.at k hl
      generalize zs.getD k 0 = z at hc1 hc2
      clear ha hb hl hbl1 hbl2
      go_wp2
      go_quiet (fail)
      go_wp2
      go_roundw
      case rel => exact ⟨k + 1, _, by omega, by go_num, rfl⟩
      case measure => simp [intOf]; omega
    · go_wp2
      go_ret
      exact ⟨rfl, below_drewN (Below.refl _ _) _⟩
set_option maxHeartbeats 400000 in
theorem mark_ints (lo hi cap n k : Nat) (a : Option Addr) (zs : List Int) (w : World) (ho : OI w lo hi a zs) (hl : zs.length = n) (hn : n ≤ 1048576) (hk1 : k ≤ 1000) :
    Calls Tryz.prog 46 #[.slice a n cap, .int .i64 (k : Int)] w fun e w' => e = .returned (.int .i64 ((k + n : Nat) : Int)) ∧ Betw lo hi w w' ∧ OI w' lo hi a (marks k n) := by
  by_cases h0 : n = 0
  · subst h0
    go_enter Tryz.func46, Tryz.ntmps46
    go_wp2
    refine wp_loop_rounds 1 ?_
    rw [rounds_succ]
    go_wp2
    go_ret
    exact ⟨ret_int (by simp), Betw.refl _ _ _, fun h => absurd h (by simp [marks])⟩
  · obtain ⟨B, off, rfl, hB1, hB2, hlt, hc, hf⟩ := ho (by omega)
    have HC : Hid (∀ i, i < n → ∃ u, w.cell? ⟨B, off + i, none⟩ = some u) := fun i hi => ⟨_, hc i (by omega)⟩
    have HF : Hid (∀ i, i < n → w.frozen? ⟨B, off + i, none⟩ = false) := fun i hi => hf i (by omega)
    clear hc ho hf hl
    go_enter Tryz.func46, Tryz.ntmps46
    go_wp2
    go_loopw [1, 5] (fun t i wr => ∃ m K : Nat, m ≤ n ∧ K ≤ 2000000 ∧ i = .int .i64 m ∧ t = .int .i64 (K : Int) ∧ Hid (K = k + m ∧ Betw lo hi w wr ∧ (∀ i, i < n → wr.frozen? ⟨B, off + i, none⟩ = false) ∧ (∀ i, i < n → ∃ u, wr.cell? ⟨B, off + i, none⟩ = some u) ∧ ∀ i, i < m → wr.cell? ⟨B, off + i, none⟩ = some (.int .i64 ((k + i : Nat) : Int)))) (fun _ i _ => n - (intOf i).toNat)
    case atStart => exact ⟨0, k, by omega, by omega, rfl, rfl, rfl, Betw.refl _ _ _, HF.out, HC.out, fun i hi => absurd hi (by omega)⟩
    case round =>
      obtain ⟨m, K, hm, hK, rfl, rfl, HR⟩ := hrel
      by_cases hlt : m < n
      · obtain ⟨hKe, hb, hff, hcc, hmm⟩ := HR.out
        obtain ⟨u, hu⟩ := hcc m hlt
        have hf := hff m hlt
        have hlt' : (m : Int) < (n : Int) := by omega
        have HR2 : Hid (K + 1 = k + (m + 1) ∧ Betw lo hi w (wr.setCell ⟨B, off + m, none⟩ (.int .i64 (K : Int))) ∧ (∀ i, i < n → (wr.setCell ⟨B, off + m, none⟩ (.int .i64 (K : Int))).frozen? ⟨B, off + i, none⟩ = false) ∧ (∀ i, i < n → ∃ u, (wr.setCell ⟨B, off + m, none⟩ (.int .i64 (K : Int))).cell? ⟨B, off + i, none⟩ = some u) ∧ ∀ i, i < m + 1 → (wr.setCell ⟨B, off + m, none⟩ (.int .i64 (K : Int))).cell? ⟨B, off + i, none⟩ = some (.int .i64 ((k + i : Nat) : Int))) := by
          refine ⟨by omega, hb.setCell (p := ⟨B, off + m, none⟩) hB1 hB2 _, fun i hi => by rw [World.frozen?_setCell]; exact hff i hi, fun i hi => ?_, fun i hi => ?_⟩
          · by_cases e : i = m
            · subst e; exact ⟨_, World.cell?_setCell_same _ _ _ hu⟩
            · rw [World.cell?_setCell_other _ _ _ _ (by intro c; injection c with c1 c2 c3; omega)]
              exact hcc i hi
          · by_cases e : i = m
            · subst e; rw [← hKe]; exact World.cell?_setCell_same _ _ _ hu
            · rw [World.cell?_setCell_other _ _ _ _ (by intro c; injection c with c1 c2 c3; omega)]
              exact hmm i (by omega)
        have hK2 : K + 1 ≤ 2000000 := by omega
        clear hb hff hcc hmm HR hKe
        go_wp2
        go_roundw
        case rel => exact ⟨m + 1, K + 1, by omega, hK2, by go_num, by go_num, HR2⟩
        case measure => simp [intOf]; omega
      · obtain rfl : m = n := by omega
        go_wp2
        go_ret
        obtain ⟨hKe, hb, hff, hcc, hmm⟩ := HR.out
        refine ⟨ret_int (by rw [hKe]), hb, fun _ => ⟨B, off, rfl, hB1, hB2, World.block_lt_of_cell? wr _ (hmm 0 (by omega)), fun i hi => ?_, fun i hi => hff i (by rw [marks_len] at hi; exact hi)⟩⟩
        rw [marks_len] at hi
        rw [marks_at k m i hi]
        exact hmm i hi
end Go.Proofs.YtphdijkpjjokaaaGreatDoor
