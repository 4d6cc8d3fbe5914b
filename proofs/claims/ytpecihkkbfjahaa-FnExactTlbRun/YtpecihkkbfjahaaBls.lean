/-
  Lists of truth values in memory, and what the laws' helpers on them do: whether two read alike, the marks that are laid into one and looked up. Conditions: a list that is marked is the call's own; lengths are at most 1048576.
-/
import Derived.Test.YtpecihkkbfjahaaRows
import Derived.Test.YtpecihkkbfjahaaOnl
import Derived.Deep.QuietTactic
import Derived.BigQuiet
namespace Go.Proofs.Ytpecihkkbfjahaa
open Go.ChangeShapes Go.WideShapes Go.ChangeAt Go.RowKit Go.Deep
set_option linter.unusedVariables false

def BSeg (w : World) (a : Option Addr) (bs : List Bool) : Prop :=
  0 < bs.length → ∃ b off, a = some ⟨b, off, none⟩ ∧ b < w.heap.size ∧ ∀ i, i < bs.length → w.cell? ⟨b, off + i, none⟩ = some (.bool (bs.getD i false))
theorem BSeg.at {w : World} {a : Option Addr} {bs : List Bool} (h : BSeg w a bs) (i : Nat) (hi : i < bs.length) :
    ∃ b off, a = some ⟨b, off, none⟩ ∧ b < w.heap.size ∧ w.cell? ⟨b, off + i, none⟩ = some (.bool (bs.getD i false)) := by
  obtain ⟨b, off, e, hlt, hc⟩ := h (by omega)
  exact ⟨b, off, e, hlt, hc i hi⟩
/-- A list that lies in a block from 'lo' on and below 'hi' that may be written. -/
def BI (w : World) (lo hi : Nat) (a : Option Addr) (bs : List Bool) : Prop :=
  0 < bs.length → ∃ B off, a = some ⟨B, off, none⟩ ∧ lo ≤ B ∧ B < hi ∧ B < w.heap.size ∧ (∀ i, i < bs.length → w.cell? ⟨B, off + i, none⟩ = some (.bool (bs.getD i false))) ∧ ∀ i, i < bs.length → w.frozen? ⟨B, off + i, none⟩ = false
theorem BI.seg {w : World} {lo hi : Nat} {a : Option Addr} {bs : List Bool} (h : BI w lo hi a bs) : BSeg w a bs := fun h0 => by
  obtain ⟨B, off, e, _, _, hlt, hc, _⟩ := h h0
  exact ⟨B, off, e, hlt, hc⟩
theorem BI.betw {w w' : World} {lo hi l' h' : Nat} {a : Option Addr} {bs : List Bool} (h : BI w lo hi a bs) (hb : Betw l' h' w w') (ho : hi ≤ l' ∨ h' ≤ lo) : BI w' lo hi a bs := fun h0 => by
  obtain ⟨B, off, e, h1, h2, hlt, hc, hf⟩ := h h0
  exact ⟨B, off, e, h1, h2, Nat.lt_of_lt_of_le hlt hb.size, fun i hi => (hb.cell (p := ⟨B, off + i, none⟩) hlt (by simp; omega)).trans (hc i hi), fun i hi => (hb.frozen (p := ⟨B, off + i, none⟩) hlt (by simp; omega)).trans (hf i hi)⟩
theorem BI.below {w w' : World} {lo hi : Nat} {a : Option Addr} {bs : List Bool} (h : BI w lo hi a bs) (hb : Below w.heap.size w w') : BI w' lo hi a bs :=
  BI.betw (l' := 0) (h' := 0) h (Below.betw hb) (.inr (Nat.zero_le _))
theorem BI.wide {w : World} {lo hi l' h' : Nat} {a : Option Addr} {bs : List Bool} (h : BI w lo hi a bs) (g1 : l' ≤ lo) (g2 : hi ≤ h') : BI w l' h' a bs := fun h0 => by
  obtain ⟨B, off, e, h1, h2, r⟩ := h h0
  exact ⟨B, off, e, by omega, by omega, r⟩
def marksB (k n : Nat) : List Bool := (List.range n).map fun (i : Nat) => decide ((k + i) % 3 = 0)
theorem marksB_len (k n : Nat) : (marksB k n).length = n := by simp [marksB]
theorem marksB_at (k n i : Nat) (hi : i < n) : (marksB k n).getD i false = decide ((k + i) % 3 = 0) := by simp [marksB, hi, List.getD]
theorem rem3 (K : Nat) : (((K : Nat) : Int) % 3 == 0) = decide (K % 3 = 0) := by
  by_cases h : K % 3 = 0
  · rw [decide_eq_true h]; simp; omega
  · rw [decide_eq_false h]; simp; omega
set_option maxHeartbeats 400000 in
theorem eq_bools (a b : Option Addr) (ca cb n : Nat) (bs : List Bool) (w : World) (ha : BSeg w a bs) (hb : BSeg w b bs) (hl : bs.length = n) (hn : n ≤ 1048576) :
    Calls Try.prog 24 #[.slice a n ca, .slice b n cb] w fun e w' => e = .returned (.bool true) ∧ Below w.heap.size w w' := by
  have HL : Hid _ := hl
  have HA : Hid _ := And.intro ha hb
  clear ha hb hl
  go_enter Try.func24, Try.ntmps24
  go_wp2
  go_loopw [5] (fun i wr => ∃ k m : Nat, k ≤ n ∧ i = .int .i64 k ∧ wr = w.drewN m) (fun i _ => n - (intOf i).toNat)
  case atStart => exact ⟨0, 0, by omega, rfl, rfl⟩
  case round =>
    obtain ⟨k, m, hk, rfl, rfl⟩ := hrel
    by_cases hlt : k < n
    · have hl : k < bs.length := by rw [HL.out]; exact hlt
      have hlt' : (k : Int) < (n : Int) := by omega
      obtain ⟨b1, o1, rfl, hbl1, hc1⟩ := HA.out.1.at k hl
      obtain ⟨b2, o2, rfl, hbl2, hc2⟩ := HA.out.2.at k hl
      generalize bs.getD k false = z at hc1 hc2
      have hzz : (z != z) = false := by simp
      clear hl hbl1 hbl2
      go_wp2
      go_quiet (fail)
      go_wp2
      go_roundw
      case rel => exact ⟨k + 1, _, by omega, by go_num, rfl⟩
      case measure => simp [intOf]; omega
    · go_wp2
      go_ret
      exact ⟨rfl, below_drewN (Below.refl _ _) _⟩
set_option maxHeartbeats 400000 in
theorem mark_bools (lo hi cap n k : Nat) (a : Option Addr) (bs : List Bool) (w : World) (ho : BI w lo hi a bs) (hl : bs.length = n) (hn : n ≤ 1048576) (hk1 : k ≤ 1000) :
    Calls Try.prog 27 #[.slice a n cap, .int .i64 (k : Int)] w fun e w' => e = .returned (.int .i64 ((k + n : Nat) : Int)) ∧ Betw lo hi w w' ∧ BI w' lo hi a (marksB k n) := by
  by_cases h0 : n = 0
  · subst h0
    go_enter Try.func27, Try.ntmps27
    go_wp2
    refine wp_loop_rounds 1 ?_
    rw [rounds_succ]
    go_wp2
    go_ret
    exact ⟨ret_int (by simp), Betw.refl _ _ _, fun h => absurd h (by simp [marksB])⟩
  · obtain ⟨B, off, rfl, hB1, hB2, hlt, hc, hf⟩ := ho (by omega)
    have HC : Hid (∀ i, i < n → ∃ u, w.cell? ⟨B, off + i, none⟩ = some u) := fun i hi => ⟨_, hc i (by omega)⟩
    have HF : Hid (∀ i, i < n → w.frozen? ⟨B, off + i, none⟩ = false) := fun i hi => hf i (by omega)
    clear hc ho hf hl
    go_enter Try.func27, Try.ntmps27
    go_wp2
    go_loopw [1, 5] (fun t i wr => ∃ m K : Nat, m ≤ n ∧ K ≤ 2000000 ∧ i = .int .i64 m ∧ t = .int .i64 (K : Int) ∧ Hid (K = k + m ∧ Betw lo hi w wr ∧ (∀ i, i < n → wr.frozen? ⟨B, off + i, none⟩ = false) ∧ (∀ i, i < n → ∃ u, wr.cell? ⟨B, off + i, none⟩ = some u) ∧ ∀ i, i < m → wr.cell? ⟨B, off + i, none⟩ = some (.bool (decide ((k + i) % 3 = 0))))) (fun _ i _ => n - (intOf i).toNat)
    case atStart => exact ⟨0, k, by omega, by omega, rfl, rfl, rfl, Betw.refl _ _ _, HF.out, HC.out, fun i hi => absurd hi (by omega)⟩
    case round =>
      obtain ⟨m, K, hm, hK, rfl, rfl, HR⟩ := hrel
      by_cases hlt : m < n
      · obtain ⟨hKe, hb, hff, hcc, hmm⟩ := HR.out
        obtain ⟨u, hu⟩ := hcc m hlt
        have hf := hff m hlt
        have hlt' : (m : Int) < (n : Int) := by omega
        have hrem := rem3 K
        have HR2 : Hid (K + 1 = k + (m + 1) ∧ Betw lo hi w (wr.setCell ⟨B, off + m, none⟩ (.bool (decide (K % 3 = 0)))) ∧ (∀ i, i < n → (wr.setCell ⟨B, off + m, none⟩ (.bool (decide (K % 3 = 0)))).frozen? ⟨B, off + i, none⟩ = false) ∧ (∀ i, i < n → ∃ u, (wr.setCell ⟨B, off + m, none⟩ (.bool (decide (K % 3 = 0)))).cell? ⟨B, off + i, none⟩ = some u) ∧ ∀ i, i < m + 1 → (wr.setCell ⟨B, off + m, none⟩ (.bool (decide (K % 3 = 0)))).cell? ⟨B, off + i, none⟩ = some (.bool (decide ((k + i) % 3 = 0)))) := by
          refine ⟨by omega, hb.setCell (p := ⟨B, off + m, none⟩) hB1 hB2 _, fun i hi => by rw [World.frozen?_setCell]; exact hff i hi, fun i hi => ?_, fun i hi => ?_⟩
          · by_cases e : i = m
            · subst e; exact ⟨_, World.cell?_setCell_same _ _ _ hu⟩
            · rw [World.cell?_setCell_other _ _ _ _ (by intro c; injection c with c1 c2 c3; omega)]
              exact hcc i hi
          · by_cases e : i = m
            · subst e; rw [← hKe]; exact World.cell?_setCell_same _ _ _ hu
            · rw [World.cell?_setCell_other _ _ _ _ (by intro c; injection c with c1 c2 c3; omega)]
              exact hmm i (by omega)
        have hK2 : K + 1 ≤ 2000000 := by omega
        generalize decide (K % 3 = 0) = dm at HR2 hrem
        clear hb hff hcc hmm HR hKe
        go_wp2
        go_roundw
        case rel => exact ⟨m + 1, K + 1, by omega, hK2, by go_num, by go_num, HR2⟩
        case measure => simp [intOf]; omega
      · obtain rfl : m = n := by omega
        go_wp2
        go_ret
        obtain ⟨hKe, hb, hff, hcc, hmm⟩ := HR.out
        refine ⟨ret_int (by rw [hKe]), hb, fun _ => ⟨B, off, rfl, hB1, hB2, World.block_lt_of_cell? wr _ (hmm 0 (by omega)), fun i hi => ?_, fun i hi => hff i (by rw [marksB_len] at hi; exact hi)⟩⟩
        rw [marksB_len] at hi
        rw [marksB_at k m i hi]
        exact hmm i hi
set_option maxHeartbeats 400000 in
theorem held_bools (a : Option Addr) (cap n k : Nat) (w : World) (hs : BSeg w a (marksB k n)) (hn : n ≤ 1048576) (hk1 : k ≤ 1000) :
    Calls Try.prog 28 #[.slice a n cap, .int .i64 (k : Int)] w fun e w' => e = .returned (.int .i64 ((k + n : Nat) : Int)) ∧ w' = w := by
  have HS : Hid (BSeg w a (marksB k n)) := hs
  clear hs
  go_enter Try.func28, Try.ntmps28
  go_wp2
  go_loopw [1, 5] (fun t i wr => ∃ m K : Nat, m ≤ n ∧ K ≤ 2000000 ∧ i = .int .i64 m ∧ t = .int .i64 (K : Int) ∧ wr = w ∧ Hid (K = k + m)) (fun _ i _ => n - (intOf i).toNat)
  case atStart => exact ⟨0, k, by omega, by omega, rfl, rfl, rfl, rfl⟩
  case round =>
    obtain ⟨m, K, hm, hK, rfl, rfl, rfl, HK⟩ := hrel
    by_cases hlt : m < n
    · have hlt' : (m : Int) < (n : Int) := by omega
      obtain ⟨b1, o1, rfl, hbl1, hcl⟩ := BSeg.at HS.out m (by rw [marksB_len]; exact hlt)
      rw [marksB_at k n m hlt, ← HK.out] at hcl
      have hrem := rem3 K
      have HK2 : Hid (K + 1 = k + (m + 1)) := by have := HK.out; show _ = _; omega
      have hK2 : K + 1 ≤ 2000000 := by have := HK.out; omega
      generalize decide (K % 3 = 0) = dm at hcl hrem
      have hdd : (dm != dm) = false := by simp
      clear hbl1
      go_wp2
      go_roundw
      case rel => exact ⟨m + 1, K + 1, by omega, hK2, by go_num, by go_num, trivial, HK2⟩
      case measure => simp [intOf]; omega
    · obtain rfl : m = n := by omega
      go_wp2
      go_ret
      exact ⟨ret_int (by rw [HK.out]), rfl⟩
theorem info4 : (Try.prog.info? 4).map (fun i => (i.zero, i.size, i.bytes)) = some (some (.bool false), 1, 1) := by kernel_rfl
theorem info4' : ∃ i, Try.prog.info? 4 = some i ∧ i.zero = some (.bool false) ∧ i.size = 1 ∧ i.bytes = 1 := by
  obtain ⟨i, hi, h⟩ := Option.map_eq_some_iff.1 info4
  simp only [Prod.mk.injEq] at h
  exact ⟨i, hi, h.1, h.2.1, h.2.2⟩
/-- A list that the call owns, from block 'base' on. -/
def OwnB (w : World) (base : Nat) (v : Value) (bs : List Bool) : Prop := w.ownsRow base 4 1 v bs.length (bs.map Value.bool)
theorem OwnB.new (w : World) (B : Nat) (hB : B = w.heap.size) : OwnB (w.alloc (.cells #[] 4)) B (.slice (some ⟨B, 0, none⟩) 0 0) [] := by
  subst hB
  exact ⟨rfl, .inr ⟨w.heap.size, 0, #[], rfl, Nat.le_refl _, by show (w.heap.push _)[w.heap.size]? = _; simp, Nat.le_refl _, by simp, rfl, rfl⟩⟩
theorem OwnB.below {w w' : World} {base : Nat} {v : Value} {bs : List Bool} (h : OwnB w base v bs) (hb : Below w.heap.size w w') : OwnB w' base v bs := ownsRow_below h hb
theorem OwnB.low {w : World} {base b' : Nat} {v : Value} {bs : List Bool} (h : OwnB w base v bs) (hle : b' ≤ base) : OwnB w b' v bs := by
  refine ⟨h.1, ?_⟩
  rcases h.2 with hn | ⟨g, cap, cur, e, hb, rest⟩
  · exact .inl hn
  · exact .inr ⟨g, cap, cur, e, by omega, rest⟩
theorem OwnB.snoc {w : World} {base g cap : Nat} {bs : List Bool} {r : Bool} (h : w.ownsRow base 4 1 (.slice (some ⟨g, 0, none⟩) (bs.length + 1) cap) (bs.length + 1) (bs.map Value.bool ++ [.bool r])) :
    OwnB w base (.slice (some ⟨g, 0, none⟩) (bs.length + 1) cap) (bs ++ [r]) := by
  unfold OwnB
  simpa using h
theorem OwnB.bi {w : World} {base : Nat} {v : Value} {bs : List Bool} (h : OwnB w base v bs) : ∃ a cap, v = .slice a bs.length cap ∧ BI w base w.heap.size a bs := by
  rcases h.2 with ⟨h0, h1⟩ | ⟨g, cap, cur, rfl, hb, hg, h1, h2, h3, h4⟩
  · exact ⟨none, 0, by rw [h0, h1], fun h => absurd h (by omega)⟩
  · have hlt : g < w.heap.size := by
      rcases Nat.lt_or_ge g w.heap.size with hlt | hge
      · exact hlt
      · rw [Array.getElem?_eq_none hge] at hg; cases hg
    refine ⟨_, _, rfl, fun h0 => ⟨g, 0, rfl, hb, hlt, hlt, fun i hi => ?_, fun i hi => by simp [World.frozen?, hg]⟩⟩
    rw [Nat.zero_add]
    have e : cur[i]? = some (.bool (bs.getD i false)) := by
      have := congrArg (·[i]?) h4
      simp only [Nat.mul_one] at this
      rw [List.getElem?_take, if_pos hi] at this
      simpa [hi, List.getD] using this
    simp [World.cell?, hg, e]
theorem news_bool (w : World) (z : Bool) (B : Nat) (hB : B = w.heap.size) : ∀ j u, [Value.bool z][j]? = some u → (w.alloc (.cells #[.bool z] 4)).cell? ((⟨B, 0, none⟩ : Addr).add j) = some u := news_at w _ 4 B hB
theorem one_bool (r : Bool) : ∀ u ∈ [Value.bool r], u.oneCell' = true := by
  intro u hu
  simp only [List.mem_singleton] at hu
  subst hu
  rfl
end Go.Proofs.Ytpecihkkbfjahaa
