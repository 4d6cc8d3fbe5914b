
/-
  A guest right or not, by the specification and by the program: both tell the same. Conditions: lengths are lengths of slices.
-/
import Derived.Test.YtanffdedignegaaBas
import Derived.Test.YtanffdedignegaaProg
import Derived.Test.YtanffdedignegaaWso
import Derived.Test.YtanffdedignegaaWsi
import Derived.Test.YtanffdedignegaaGst
namespace Go.Proofs.Ytanffdedignegaa
open Go.ChangeShapes Go.WideShapes Go.ChangeAt Go.RowKit Go.Deep
set_option linter.unusedVariables false

/-- A guest right for the windows 'xs'. -/
def GOk (xs : List Wn) (rs : List Int) (n : Nat) (D : Nat → List Int) : Prop := WsOk xs ∧ rs.length = 16 ∧ rs.getD 0 0 = 0 ∧ n = xs.length ∧ ∀ i, i < n → ((D i).length : Int) = (xs.getD i wn0).2.1
theorem op_no {a b : Int} (h : ¬ a = b) : (a == b) = false := beq_eq_false_iff_ne.2 h
set_option maxRecDepth 20000 in
set_option maxHeartbeats 2000000 in
theorem spec_gok (a ra ma : Option Addr) (cap wn rl rc n mc : Nat) (pc : Int) (xs : List Wn) (rs : List Int) (D : Nat → List Int) (q : Bool) (w : World) (hs : ASeg w a xs) (hf : Fit xs) (hl : xs.length = wn) (hn : wn ≤ 9223372036854775807) (hc : wn ≤ cap) (hg : XGSeg w ra ma rs n D) (hrl : rs.length = rl) (hq : q = true ↔ GOk xs rs n D) :
    Calls Try.prog 6 #[.slice a wn cap, gst ra rl rc pc ma n mc] w fun e w' => e = .returned (.bool q) ∧ Below w.heap.size w w' := by
  obtain ⟨qw, hqw⟩ := told (WsOk xs)
  have HQ : Hid _ := hq
  have HQW : Hid _ := hqw
  have HS : Hid (ASeg w a xs ∧ xs.length = wn) := ⟨hs, hl⟩
  have HG : Hid (XGSeg w ra ma rs n D ∧ rs.length = rl) := ⟨hg, hrl⟩
  have B0 := Bk.new w #[.slice ra rl rc, .int .u32 pc, .slice ma n mc] 29 w.heap.size rfl
  have HB : Hid (Below w.heap.size w (w.alloc (.cells #[.slice ra rl rc, .int .u32 pc, .slice ma n mc] 29))) := (Below.refl _ w).alloc (Nat.le_refl _) _
  have HW : Hid (Calls Try.prog 17 #[.slice a wn cap] (w.alloc (.cells #[.slice ra rl rc, .int .u32 pc, .slice ma n mc] 29)) fun e w' => e = .returned (.bool qw) ∧ Below (w.alloc (.cells #[.slice ra rl rc, .int .u32 pc, .slice ma n mc] 29)).heap.size (w.alloc (.cells #[.slice ra rl rc, .int .u32 pc, .slice ma n mc] 29)) w') := spec_wsok a cap wn xs qw _ (HS.out.1.below HB.out) HS.out.2 hn HQW.out
  clear hq hs hl hg hrl hqw
  go_enter Try.func6, Try.ntmps6
  go_wp2_with fail
  refine HW.out.mono ?_
  rintro u w1 ⟨rfl, hb1⟩
  have HB1 : Hid (Below w.heap.size w w1) := HB.out.trans (hb1.mono HB.out.size)
  replace B0 := B0.below hb1
  clear hb1 HB HW
  cases qw
  · have HT : Hid (q = false) := not_true HQ.out (fun h => by have := HQW.out.2 h.1; cases this)
    go_wp2
    go_ret
    exact ⟨ret_bool HT.out.symm, HB1.out⟩
  have HOK : Hid (WsOk xs) := HQW.out.1 (by trivial)
  have c0 := B0.cell 0 _ rfl
  have c2 := B0.cell 2 _ rfl
  by_cases h16 : rl = 16
  rotate_left
  · have h16' : ((rl : Int) == 16) = false := op_no (by omega)
    have HT : Hid (q = false) := not_true HQ.out (fun h => h16 (by rw [← HG.out.2]; exact h.2.1))
    go_wp2
    go_ret
    exact ⟨ret_bool HT.out.symm, HB1.out⟩
  subst h16
  obtain ⟨b0, o0, rfl, hbl0, r0⟩ := Seg.at HG.out.1.1 0 (by have := HG.out.2; omega)
  replace r0 := (HB1.out.cell (p := ⟨b0, o0 + 0, none⟩) hbl0).trans r0
  rw [Nat.add_zero] at r0
  by_cases hr0 : rs.getD 0 0 = 0
  rotate_left
  · have hr0' : (rs.getD 0 0 == 0) = false := op_no hr0
    have HT : Hid (q = false) := not_true HQ.out (fun h => hr0 h.2.2.1)
    generalize rs.getD 0 0 = z at r0 hr0'
    clear hr0 hbl0
    go_wp2
    go_ret
    exact ⟨ret_bool HT.out.symm, HB1.out⟩
  have HR0 : Hid _ := hr0
  rw [hr0] at r0
  clear hr0 hbl0
  by_cases hnn : n = wn
  rotate_left
  · have hnn' : ((n : Int) == (wn : Int)) = false := op_no (by omega)
    have HT : Hid (q = false) := not_true HQ.out (fun h => hnn (by rw [← HS.out.2]; exact h.2.2.2.1))
    go_wp2
    go_ret
    exact ⟨ret_bool HT.out.symm, HB1.out⟩
  subst hnn
  go_wp2
  go_loopw [5] (fun i wr => ∃ k : Nat, k ≤ n ∧ i = .int .i64 k ∧ Hid (Below w1.heap.size w1 wr ∧ ∀ i, i < k → ((D i).length : Int) = (xs.getD i wn0).2.1)) (fun i _ => n - (intOf i).toNat)
  case atStart => exact ⟨0, by omega, rfl, Below.refl _ _, fun i hi => absurd hi (by omega)⟩
  case round =>
    obtain ⟨k, hk, rfl, HR⟩ := hrel
    by_cases hlt : k < n
    rotate_left
    · obtain rfl : k = n := by omega
      have HT : Hid (q = true) := HQ.out.2 ⟨HOK.out, HG.out.2, HR0.out, HS.out.2.symm, HR.out.2⟩
      go_wp2
      go_ret
      exact ⟨ret_bool HT.out.symm, HB1.out.trans (HR.out.1.mono HB1.out.size)⟩
    have hlt' : (k : Int) < (n : Int) := by omega
    have hb := HR.out.1
    obtain ⟨b1, o1, rfl, hbl1, p0, p1, p2⟩ := ASeg.at HS.out.1 k (by rw [HS.out.2]; exact hlt)
    obtain ⟨b2, o2, ai, ci, rfl, hbl2, e2, _⟩ := BSeg.at HG.out.1.2 k hlt
    have hbw := HB1.out.trans (hb.mono HB1.out.size)
    replace p0 := (hbw.cell (p := ⟨b1, o1 + k * 3, none⟩) hbl1).trans p0
    replace p1 := (hbw.cell (p := ⟨b1, o1 + k * 3 + 1, none⟩) hbl1).trans p1
    replace p2 := (hbw.cell (p := ⟨b1, o1 + k * 3 + 2, none⟩) hbl1).trans p2
    replace e2 := (hbw.cell (p := ⟨b2, o2 + k, none⟩) hbl2).trans e2
    replace c2 := kept_cell hb c2
    have HB2 : Hid _ := And.intro hb hbw
    have HY : Hid (((D k).length : Int) = (xs.getD k wn0).2.1 → ∀ i, i < k + 1 → ((D i).length : Int) = (xs.getD i wn0).2.1) := fun e i hi => by
      by_cases c : i = k
      · subst c; exact e
      · exact HR.out.2 i (by omega)
    have HN : Hid (¬ ((D k).length : Int) = (xs.getD k wn0).2.1 → q = false) := fun e => not_true HQ.out (fun h => e (h.2.2.2.2 k hlt))
    generalize (D k).length = len at e2 HY HN
    generalize xs.getD k wn0 = y at p0 p1 p2 HY HN
    obtain ⟨y1, y2, y3⟩ := y
    simp only at p0 p1 p2 HY HN
    clear hbl1 hbl2 hb hbw HR
    by_cases hz : (len : Int) = y2
    · subst hz
      have HT : Hid _ := HY.out rfl
      clear HY HN
      go_wp2
      go_quiet (fail)
      go_wp2
      go_roundw
      case rel => exact ⟨k + 1, by omega, by go_num, below_drewN HB2.out.1 _, HT.out⟩
      case measure => simp [intOf]; omega
    · have hz' : ((len : Int) == y2) = false := op_no hz
      have HT : Hid (q = false) := HN.out hz
      clear HY HN hz
      go_wp2
      go_quiet (fail)
      go_wp2
      go_ret
      exact ⟨ret_bool HT.out.symm, below_drewN HB2.out.2 _⟩
set_option maxRecDepth 20000 in
set_option maxHeartbeats 2000000 in
theorem impl_gok (a ra ma : Option Addr) (cap wn rl rc n mc : Nat) (pc : Int) (xs : List Wn) (rs : List Int) (D : Nat → List Int) (q : Bool) (w : World) (hs : ASeg w a xs) (hf : Fit xs) (hl : xs.length = wn) (hn : wn ≤ 9223372036854775807) (hc : wn ≤ cap) (hg : XGSeg w ra ma rs n D) (hrl : rs.length = rl) (hq : q = true ↔ GOk xs rs n D) :
    Calls Try.prog 19 #[.slice a wn cap, gst ra rl rc pc ma n mc] w fun e w' => e = .returned (.bool q) ∧ Below w.heap.size w w' := by
  obtain ⟨qw, hqw⟩ := told (WsOk xs)
  have HQ : Hid _ := hq
  have HQW : Hid _ := hqw
  have HS : Hid (ASeg w a xs ∧ xs.length = wn) := ⟨hs, hl⟩
  have HG : Hid (XGSeg w ra ma rs n D ∧ rs.length = rl) := ⟨hg, hrl⟩
  have B0 := Bk.new w #[.slice ra rl rc, .int .u32 pc, .slice ma n mc] 29 w.heap.size rfl
  have HB : Hid (Below w.heap.size w (w.alloc (.cells #[.slice ra rl rc, .int .u32 pc, .slice ma n mc] 29))) := (Below.refl _ w).alloc (Nat.le_refl _) _
  have HW : Hid (Calls Try.prog 24 #[.slice a wn cap] (w.alloc (.cells #[.slice ra rl rc, .int .u32 pc, .slice ma n mc] 29)) fun e w' => e = .returned (.bool qw) ∧ Below (w.alloc (.cells #[.slice ra rl rc, .int .u32 pc, .slice ma n mc] 29)).heap.size (w.alloc (.cells #[.slice ra rl rc, .int .u32 pc, .slice ma n mc] 29)) w') := impl_wsok a cap wn xs qw _ (HS.out.1.below HB.out) hf HS.out.2 hn hc HQW.out
  clear hq hs hl hg hrl hqw
  go_enter Try.func19, Try.ntmps19
  go_wp2_with fail
  refine HW.out.mono ?_
  rintro u w1 ⟨rfl, hb1⟩
  have HB1 : Hid (Below w.heap.size w w1) := HB.out.trans (hb1.mono HB.out.size)
  replace B0 := B0.below hb1
  clear hb1 HB HW
  cases qw
  · have HT : Hid (q = false) := not_true HQ.out (fun h => by have := HQW.out.2 h.1; cases this)
    go_wp2
    go_ret
    exact ⟨ret_bool HT.out.symm, HB1.out⟩
  have HOK : Hid (WsOk xs) := HQW.out.1 (by trivial)
  have c0 := B0.cell 0 _ rfl
  have c2 := B0.cell 2 _ rfl
  by_cases h16 : rl = 16
  rotate_left
  · have h16' : ((rl : Int) == 16) = false := op_no (by omega)
    have HT : Hid (q = false) := not_true HQ.out (fun h => h16 (by rw [← HG.out.2]; exact h.2.1))
    go_wp2
    go_ret
    exact ⟨ret_bool HT.out.symm, HB1.out⟩
  subst h16
  obtain ⟨b0, o0, rfl, hbl0, r0⟩ := Seg.at HG.out.1.1 0 (by have := HG.out.2; omega)
  replace r0 := (HB1.out.cell (p := ⟨b0, o0 + 0, none⟩) hbl0).trans r0
  rw [Nat.add_zero] at r0
  by_cases hr0 : rs.getD 0 0 = 0
  rotate_left
  · have hr0' : (rs.getD 0 0 == 0) = false := op_no hr0
    have HT : Hid (q = false) := not_true HQ.out (fun h => hr0 h.2.2.1)
    generalize rs.getD 0 0 = z at r0 hr0'
    clear hr0 hbl0
    go_wp2
    go_ret
    exact ⟨ret_bool HT.out.symm, HB1.out⟩
  have HR0 : Hid _ := hr0
  rw [hr0] at r0
  clear hr0 hbl0
  by_cases hnn : n = wn
  rotate_left
  · have hnn' : ((n : Int) == (wn : Int)) = false := op_no (by omega)
    have HT : Hid (q = false) := not_true HQ.out (fun h => hnn (by rw [← HS.out.2]; exact h.2.2.2.1))
    go_wp2
    go_ret
    exact ⟨ret_bool HT.out.symm, HB1.out⟩
  subst hnn
  go_wp2
  go_loopw [33] (fun i wr => ∃ k : Nat, k ≤ n ∧ i = .int .i64 k ∧ Hid (Below w1.heap.size w1 wr ∧ ∀ i, i < k → ((D i).length : Int) = (xs.getD i wn0).2.1)) (fun i _ => n - (intOf i).toNat)
  case atStart => exact ⟨0, by omega, rfl, Below.refl _ _, fun i hi => absurd hi (by omega)⟩
  case round =>
    obtain ⟨k, hk, rfl, HR⟩ := hrel
    by_cases hlt : k < n
    rotate_left
    · obtain rfl : k = n := by omega
      have HT : Hid (q = true) := HQ.out.2 ⟨HOK.out, HG.out.2, HR0.out, HS.out.2.symm, HR.out.2⟩
      go_wp2
      go_ret
      exact ⟨ret_bool HT.out.symm, HB1.out.trans (HR.out.1.mono HB1.out.size)⟩
    have hlt' : (k : Int) < (n : Int) := by omega
    have hb := HR.out.1
    obtain ⟨b1, o1, rfl, hbl1, p0, p1, p2⟩ := ASeg.at HS.out.1 k (by rw [HS.out.2]; exact hlt)
    obtain ⟨b2, o2, ai, ci, rfl, hbl2, e2, _⟩ := BSeg.at HG.out.1.2 k hlt
    have hbw := HB1.out.trans (hb.mono HB1.out.size)
    replace p0 := (hbw.cell (p := ⟨b1, o1 + k * 3, none⟩) hbl1).trans p0
    replace p1 := (hbw.cell (p := ⟨b1, o1 + k * 3 + 1, none⟩) hbl1).trans p1
    replace p2 := (hbw.cell (p := ⟨b1, o1 + k * 3 + 2, none⟩) hbl1).trans p2
    replace e2 := (hbw.cell (p := ⟨b2, o2 + k, none⟩) hbl2).trans e2
    replace c2 := kept_cell hb c2
    have HB2 : Hid _ := And.intro hb hbw
    have HY : Hid (((D k).length : Int) = (xs.getD k wn0).2.1 → ∀ i, i < k + 1 → ((D i).length : Int) = (xs.getD i wn0).2.1) := fun e i hi => by
      by_cases c : i = k
      · subst c; exact e
      · exact HR.out.2 i (by omega)
    have HN : Hid (¬ ((D k).length : Int) = (xs.getD k wn0).2.1 → q = false) := fun e => not_true HQ.out (fun h => e (h.2.2.2.2 k hlt))
    generalize (D k).length = len at e2 HY HN
    generalize xs.getD k wn0 = y at p0 p1 p2 HY HN
    obtain ⟨y1, y2, y3⟩ := y
    simp only at p0 p1 p2 HY HN
    clear hbl1 hbl2 hb hbw HR
    by_cases hz : (len : Int) = y2
    · subst hz
      have HT : Hid _ := HY.out rfl
      clear HY HN
      have d1 := new_cell wr #[.int .i64 y1, .int .i64 (len : Int), .int .i64 y3] 40 1 _ rfl
      have c2' := cell_alloc_l (.cells #[.int .i64 y1, .int .i64 (len : Int), .int .i64 y3] 40) c2
      have e2' := cell_alloc_l (.cells #[.int .i64 y1, .int .i64 (len : Int), .int .i64 y3] 40) e2
      have HB3 : Hid (Below w1.heap.size w1 (wr.alloc (.cells #[.int .i64 y1, .int .i64 (len : Int), .int .i64 y3] 40)) ∧ Below w.heap.size w (wr.alloc (.cells #[.int .i64 y1, .int .i64 (len : Int), .int .i64 y3] 40))) := ⟨HB2.out.1.alloc HB2.out.1.size _, HB2.out.2.alloc HB2.out.2.size _⟩
      go_wp2
      go_quiet (fail)
      go_wp2
      go_roundw
      case rel => exact ⟨k + 1, by omega, by go_num, below_drewN HB3.out.1 _, HT.out⟩
      case measure => simp [intOf]; omega
    · have hz' : ((len : Int) == y2) = false := op_no hz
      have HT : Hid (q = false) := HN.out hz
      clear HY HN hz
      have d1 := new_cell wr #[.int .i64 y1, .int .i64 y2, .int .i64 y3] 40 1 _ rfl
      have c2' := cell_alloc_l (.cells #[.int .i64 y1, .int .i64 y2, .int .i64 y3] 40) c2
      have e2' := cell_alloc_l (.cells #[.int .i64 y1, .int .i64 y2, .int .i64 y3] 40) e2
      have HB3 : Hid (Below w1.heap.size w1 (wr.alloc (.cells #[.int .i64 y1, .int .i64 y2, .int .i64 y3] 40)) ∧ Below w.heap.size w (wr.alloc (.cells #[.int .i64 y1, .int .i64 y2, .int .i64 y3] 40))) := ⟨HB2.out.1.alloc HB2.out.1.size _, HB2.out.2.alloc HB2.out.2.size _⟩
      go_wp2
      go_quiet (fail)
      go_wp2
      go_ret
      exact ⟨ret_bool HT.out.symm, below_drewN HB3.out.2 _⟩
end Go.Proofs.Ytanffdedignegaa
