/-
  What the laws' helpers on lists of integers do: whether two lists read alike, the marks that are laid into a list and looked up. Conditions: the lists read as integers; a list that is marked is the call's own, and short.
-/
import Derived.Test.YtiekejplgoomfabDoorRows
import Derived.Test.YtiekejplgoomfabDoorSegs
import Derived.Below
import Derived.Deep.QuietTactic
import Derived.BigQuiet
namespace Go.Proofs.YtiekejplgoomfabDoor
open Go.ChangeShapes Go.WideShapes Go.ChangeAt Go.RowKit Go.Deep
set_option linter.unusedVariables false

/-- A slice whose elements lie in a block from 'base' on that may be written; it reads as 'zs'. -/
def OwnAt (w : World) (base : Nat) (a : Option Addr) (zs : List Int) : Prop :=
  0 < zs.length → ∃ B off, a = some ⟨B, off, none⟩ ∧ base ≤ B ∧ B < w.heap.size ∧ (∀ i, i < zs.length → w.cell? ⟨B, off + i, none⟩ = some (.int .i64 (zs.getD i 0))) ∧ ∀ i, i < zs.length → w.frozen? ⟨B, off + i, none⟩ = false
theorem OwnAt.seg {w : World} {base : Nat} {a : Option Addr} {zs : List Int} (h : OwnAt w base a zs) : Seg .i64 w a zs := fun h0 => by
  obtain ⟨B, off, e, _, hlt, hc, _⟩ := h h0
  exact ⟨B, off, e, hlt, hc⟩
theorem OwnAt.below {w w' : World} {base : Nat} {a : Option Addr} {zs : List Int} (h : OwnAt w base a zs) (hb : Below w.heap.size w w') : OwnAt w' base a zs := fun h0 => by
  obtain ⟨B, off, e, h1, hlt, hc, hf⟩ := h h0
  exact ⟨B, off, e, h1, Nat.lt_of_lt_of_le hlt hb.size, fun i hi => (hb.cell (p := ⟨B, off + i, none⟩) hlt).trans (hc i hi), fun i hi => (hb.frozen (p := ⟨B, off + i, none⟩) hlt).trans (hf i hi)⟩
theorem Seg.low {k : IntKind} {w w' : World} {a : Option Addr} {zs : List Int} {C : Nat} (h : Seg k w a zs) (hlow : ∀ b off, a = some ⟨b, off, none⟩ → b < C) (hb : Below C w w') : Seg k w' a zs := fun h0 => by
  obtain ⟨b, off, e, hlt, hc⟩ := h h0
  exact ⟨b, off, e, Nat.lt_of_lt_of_le hlt hb.size, fun i hi => (hb.cell (p := ⟨b, off + i, none⟩) (hlow b off e)).trans (hc i hi)⟩
def marks (k : Int) (n : Nat) : List Int := (List.range n).map fun (i : Nat) => k + (i : Int)
theorem marks_len (k : Int) (n : Nat) : (marks k n).length = n := by simp [marks]
theorem marks_at (k : Int) (n i : Nat) (hi : i < n) : (marks k n).getD i 0 = k + (i : Int) := by simp [marks, hi, List.getD]

set_option maxHeartbeats 400000 in
theorem eq_ints (a b : Option Addr) (ca cb : Nat) (zs : List Int) (w : World) (ha : Seg .i64 w a zs) (hb : Seg .i64 w b zs) (hn : zs.length ≤ 1048576) :
    Calls Tryd.prog 8 #[.slice a zs.length ca, .slice b zs.length cb] w fun e w' => e = .returned (.bool true) ∧ ∃ m, w' = w.drewN m := by
  obtain ⟨n, Hn⟩ : ∃ n, Hid (n = zs.length) := ⟨_, rfl⟩
  have hn' : n ≤ 1048576 := by rw [Hn.out]; exact hn
  rw [← Hn.out]
  clear hn
  go_enter Tryd.func8, Tryd.ntmps8
  go_wp2
  go_loopw [5] (fun i wr => ∃ k m : Nat, k ≤ n ∧ i = .int .i64 k ∧ wr = w.drewN m) (fun i _ => n - (intOf i).toNat)
  case atStart => exact ⟨0, 0, by omega, rfl, rfl⟩
  case round =>
    obtain ⟨k, m, hk, rfl, rfl⟩ := hrel
    by_cases hlt : k < n
    · have hl : k < zs.length := by rw [← Hn.out]; exact hlt
      obtain ⟨b1, o1, rfl, hbl1, hc1⟩ := ha.at k hl
      obtain ⟨b2, o2, rfl, hbl2, hc2⟩ := hb.at k hl
      generalize zs.getD k 0 = z at hc1 hc2
      clear ha hb hl hbl1 hbl2
      go_wp2
      go_quiet (fail)
      go_wp2
      go_roundw
      case rel => exact ⟨k + 1, _, by omega, by go_num, rfl⟩
      case measure => simp [intOf]; omega
    · go_wp2
      go_ret
      exact ⟨rfl, _, rfl⟩

set_option maxHeartbeats 400000 in
theorem mark_ints (base cap : Nat) (a : Option Addr) (k : Int) (zs : List Int) (w : World) (ho : OwnAt w base a zs) (hn : zs.length ≤ 1048576) (hk0 : 0 ≤ k) (hk1 : k ≤ 1000000000) :
    Calls Tryd.prog 9 #[.slice a zs.length cap, .int .i64 k] w fun e w' => e = .returned (.int .i64 (k + (zs.length : Int))) ∧ Below base w w' ∧ w'.heap.size = w.heap.size ∧ OwnAt w' base a (marks k zs.length) := by
  obtain ⟨n, Hn⟩ : ∃ n, Hid (n = zs.length) := ⟨_, rfl⟩
  have hn' : n ≤ 1048576 := by rw [Hn.out]; exact hn
  rw [← Hn.out]
  clear hn
  by_cases h0 : n = 0
  · subst h0
    go_enter Tryd.func9, Tryd.ntmps9
    go_wp2
    refine wp_loop_rounds 1 ?_
    rw [rounds_succ]
    go_wp2
    go_ret
    exact ⟨ret_int (by simp), Below.refl _ _, rfl, fun h => absurd h (by simp [marks])⟩
  · obtain ⟨B, off, rfl, hB, hlt, hc, hf⟩ := ho (by rw [← Hn.out]; omega)
    have HC : Hid (∀ i, i < n → ∃ u, w.cell? ⟨B, off + i, none⟩ = some u) := fun i hi => ⟨_, hc i (by rw [← Hn.out]; exact hi)⟩
    have HF : Hid (∀ i, i < n → w.frozen? ⟨B, off + i, none⟩ = false) := fun i hi => hf i (by rw [← Hn.out]; exact hi)
    clear hc ho hf
    go_enter Tryd.func9, Tryd.ntmps9
    go_wp2
    go_loopw [1, 5] (fun t i wr => ∃ m : Nat, m ≤ n ∧ i = .int .i64 m ∧ t = .int .i64 (k + (m : Int)) ∧ Hid (Below base w wr ∧ wr.heap.size = w.heap.size ∧ (∀ i, i < n → wr.frozen? ⟨B, off + i, none⟩ = false) ∧ (∀ i, i < n → ∃ u, wr.cell? ⟨B, off + i, none⟩ = some u) ∧ ∀ i, i < m → wr.cell? ⟨B, off + i, none⟩ = some (.int .i64 (k + (i : Int))))) (fun _ i _ => n - (intOf i).toNat)
    case atStart => exact ⟨0, by omega, rfl, by go_num, ⟨Below.refl _ _, rfl, HF.out, HC.out, fun i hi => absurd hi (by omega)⟩⟩
    case round =>
      obtain ⟨m, hm, rfl, rfl, HR⟩ := hrel
      by_cases hlt : m < n
      · obtain ⟨hb, hsz, hff, hcc, hmm⟩ := HR.out
        obtain ⟨u, hu⟩ := hcc m hlt
        have hf := hff m hlt
        have HR2 : Hid (Below base w (wr.setCell ⟨B, off + m, none⟩ (.int .i64 (k + (m : Int)))) ∧ (wr.setCell ⟨B, off + m, none⟩ (.int .i64 (k + (m : Int)))).heap.size = w.heap.size ∧ (∀ i, i < n → (wr.setCell ⟨B, off + m, none⟩ (.int .i64 (k + (m : Int)))).frozen? ⟨B, off + i, none⟩ = false) ∧ (∀ i, i < n → ∃ u, (wr.setCell ⟨B, off + m, none⟩ (.int .i64 (k + (m : Int)))).cell? ⟨B, off + i, none⟩ = some u) ∧ ∀ i, i < m + 1 → (wr.setCell ⟨B, off + m, none⟩ (.int .i64 (k + (m : Int)))).cell? ⟨B, off + i, none⟩ = some (.int .i64 (k + (i : Int)))) := by
          refine ⟨hb.setCell (p := ⟨B, off + m, none⟩) hB _, by simpa using hsz, fun i hi => by simpa using hff i hi, fun i hi => ?_, fun i hi => ?_⟩
          · by_cases e : i = m
            · subst e; exact ⟨_, World.cell?_setCell_same _ _ _ hu⟩
            · rw [World.cell?_setCell_other _ _ _ _ (by intro c; injection c with c1 c2 c3; omega)]
              exact hcc i hi
          · by_cases e : i = m
            · subst e; exact World.cell?_setCell_same _ _ _ hu
            · rw [World.cell?_setCell_other _ _ _ _ (by intro c; injection c with c1 c2 c3; omega)]
              exact hmm i (by omega)
        clear hb hsz hff hcc hmm HR
        go_wp2
        go_roundw
        case rel => exact ⟨m + 1, by omega, by go_num, by go_num, HR2⟩
        case measure => simp [intOf]; omega
      · go_wp2
        go_ret
        obtain rfl : m = n := by omega
        obtain ⟨hb, hsz, hff, hcc, hmm⟩ := HR.out
        refine ⟨rfl, hb, hsz, fun _ => ⟨B, off, rfl, hB, ?_, fun i hi => ?_, fun i hi => hff i (by rw [marks_len] at hi; exact hi)⟩⟩
        · have := World.block_lt_of_cell? wr _ (hmm 0 (by omega)); exact this
        · rw [marks_len] at hi
          rw [marks_at k m i hi]
          exact hmm i hi
set_option maxHeartbeats 400000 in
theorem held_ints (a : Option Addr) (cap n : Nat) (k : Int) (w : World) (hs : Seg .i64 w a (marks k n)) (hn : n ≤ 1048576) (hk0 : 0 ≤ k) (hk1 : k ≤ 1000000000) :
    Calls Tryd.prog 10 #[.slice a n cap, .int .i64 k] w fun e w' => e = .returned (.int .i64 (k + (n : Int))) ∧ w' = w := by
  go_enter Tryd.func10, Tryd.ntmps10
  go_wp2
  go_loop [1, 5] (fun t i => ∃ m : Nat, m ≤ n ∧ i = .int .i64 m ∧ t = .int .i64 (k + (m : Int))) (fun _ i => n - (intOf i).toNat)
  case atStart => exact ⟨0, by omega, rfl, by go_num⟩
  case round =>
    obtain ⟨m, hm, rfl, rfl⟩ := hrel
    by_cases hlt : m < n
    · obtain ⟨b1, o1, rfl, hbl1, hcl⟩ := hs.at m (by rw [marks_len]; exact hlt)
      rw [marks_at k n m hlt] at hcl
      clear hs hbl1
      go_wp2
      go_round
      case rel => exact ⟨m + 1, by omega, by go_num, by go_num⟩
      case measure => simp [intOf]; omega
    · go_wp2
      go_ret
      obtain rfl : m = n := by omega
      exact ⟨rfl, rfl⟩
end Go.Proofs.YtiekejplgoomfabDoor
