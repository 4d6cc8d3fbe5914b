
/-
  The library's iterator over a slice from its end: what it hands to a loop, for every loop body that keeps what lay below a block. Conditions: the slice has at most 1048576 ways.
-/
import Derived.Test.YtmbpmhmehiiiaaaRows
import Derived.Test.YtmbpmhmehiiiaaaWeq
import Derived.RangeFuncBox
import Derived.RangeFuncLeaves
import Derived.RangeFuncNested
import Derived.RangeFuncBound
import Derived.RangeFuncCalls
import Derived.Shelf.Abstract
import Derived.Shelf.RegionOpen
import Derived.OwnWalkIn
import Derived.TacticsInMore
import Derived.LoopNIn
import Derived.LoopIn
namespace Go.Proofs.Ytmbpmhmehiiiaaa
open Go.ChangeShapes Go.WideShapes Go.ChangeAt Go.RowKit Go.Deep Go.Shelf
set_option linter.unusedVariables false
attribute [local go_sem] Oper.semAt_some

/-- What lay below 'n₀', and the block 'Bs', lie as they lay. -/
structure KB (n₀ Bs : Nat) (W W' : World) : Prop where
  low : Below n₀ W W'
  box : W'.heap[Bs]? = W.heap[Bs]?
theorem KB.refl (n₀ Bs : Nat) (W : World) : KB n₀ Bs W W := ⟨Below.refl _ _, rfl⟩
theorem KB.trans {n₀ Bs : Nat} {A B C : World} (h : KB n₀ Bs A B) (g : KB n₀ Bs B C) : KB n₀ Bs A C := ⟨h.low.trans g.low, g.box.trans h.box⟩
def uptoB {α : Type} (f : Nat → α) (k : Nat) : List α := (List.range k).map f
theorem uptoB_succ {α : Type} (f : Nat → α) (k : Nat) : uptoB f (k + 1) = uptoB f k ++ [f k] := by simp [uptoB, List.range_succ]
theorem uptoB_length {α : Type} (f : Nat → α) (k : Nat) : (uptoB f k).length = k := by simp [uptoB]
abbrev bkAt (ws : List Wy) (len j : Nat) : Nat × Wy := (len - 1 - j, ws[len - 1 - j]?.getD (0, false))
set_option maxRecDepth 100000 in
set_option maxHeartbeats 2000000 in
theorem back1_in (F : Fence) (n : Nat) (hf : F.fn 48) (hro : F.round = none) (hn : 1 ≤ n) (l Bs n₀ b off len cap : Nat) (ws : List Wy) (hreach : len ≤ 1048576) (hb : b < n₀) (J Jx : List (Nat × Wy) → World → Prop)
    (hY : ∀ pre x W, J pre W → pre.length < len → YieldAt F (n - 1) Try.prog l #[.int .i64 (x.1 : Int), .agg #[.int .i64 x.2.1, .bool x.2.2]] W fun e W' =>
      (e = .returned (.bool true) ∧ J (pre ++ [x]) W' ∧ KB n₀ Bs W W') ∨ (e = .returned (.bool false) ∧ Jx (pre ++ [x]) W'))
    (W : World) (hBs : W.cell? ⟨Bs, 0, none⟩ = some (.slice (some ⟨b, off, none⟩) len cap)) (hc : ∀ j, j < len → W.cell? ⟨b, off + j * 2, none⟩ = some (.int .i64 (ws[j]?.getD (0, false)).1) ∧ W.cell? ⟨b, off + j * 2 + 1, none⟩ = some (.bool (ws[j]?.getD (0, false)).2)) (h0 : J [] W) :
    CallsIn F n Try.prog 48 #[.func (.yield l) #[] #[], .pointer (some ⟨Bs, 0, none⟩)] W fun e W' => (∃ v, e = .returned v) ∧
      ((∃ ys, ys = uptoB (bkAt ws len) len ∧ J ys W') ∨ (∃ pre, (∃ k, k ≤ len ∧ pre = uptoB (bkAt ws len) k) ∧ Jx pre W')) := by
  refine callsIn_of_wp Try.func48 rfl hf ?_ hro
  simp only [Try.ntmps48, List.size_toArray, List.length_cons, List.length_nil, Nat.reduceAdd, Nat.reduceSub, Array.replicate_succ, Array.replicate_zero, List.push_toArray, List.append_toArray, List.nil_append, List.cons_append]
  gi_wp2
  gi_loopw [3] (fun i wr => ∃ k : Nat, J (uptoB (bkAt ws len) k) wr ∧ KB n₀ Bs W wr ∧ ((k < len ∧ i = .int .i64 ((len - 1 - k : Nat) : Int)) ∨ (k = len ∧ i = .int .i64 (-1)))) (fun i _ => (intOf i + 1).toNat)
  case atStart =>
    refine ⟨0, h0, KB.refl _ _ _, ?_⟩
    by_cases hl : 0 < len
    · exact .inl ⟨hl, congrArg _ (by omega)⟩
    · exact .inr ⟨by omega, congrArg _ (by omega)⟩
  case round =>
    obtain ⟨k, hJs, hnx, (⟨hlt, rfl⟩ | ⟨rfl, rfl⟩)⟩ := hrel
    · obtain ⟨fn, tmps, assign, body, hy, hR⟩ := hY _ (bkAt ws len k) wr hJs (by rw [uptoB_length]; exact hlt)
      dsimp only [bkAt] at hy
      have hml : len - 1 - k < len := by omega
      have hcx := hc (len - 1 - k) hml
      have c0 := (hnx.low.cell (p := ⟨b, off + (len - 1 - k) * 2, none⟩) hb).trans hcx.1
      have c1 := (hnx.low.cell (p := ⟨b, off + (len - 1 - k) * 2 + 1, none⟩) hb).trans hcx.2
      have cB := (World.cell?_of_block (a := ⟨Bs, 0, none⟩) hnx.box).trans hBs
      have HU : Hid (uptoB (bkAt ws len) (k + 1) = uptoB (bkAt ws len) k ++ [bkAt ws len k]) := uptoB_succ _ _
      have HJ2 : Hid (∀ W3, J (uptoB (bkAt ws len) k ++ [bkAt ws len k]) W3 → KB n₀ Bs wr W3 → J (uptoB (bkAt ws len) (k + 1)) W3 ∧ KB n₀ Bs W W3) := fun W3 h1 h2 => ⟨by rw [HU.out]; exact h1, hnx.trans h2⟩
      have HX2 : Hid (∀ W3, Jx (uptoB (bkAt ws len) k ++ [bkAt ws len k]) W3 → Jx (uptoB (bkAt ws len) (k + 1)) W3) := fun W3 h1 => by rw [HU.out]; exact h1
      have hR2 := hR.mono (fun e W3 h => show (e = .returned (.bool true) ∧ Hid (J (uptoB (bkAt ws len) (k + 1)) W3 ∧ KB n₀ Bs W W3)) ∨ (e = .returned (.bool false) ∧ Hid (Jx (uptoB (bkAt ws len) (k + 1)) W3)) from by
        rcases h with ⟨h1, h2, h3⟩ | ⟨h1, h2⟩
        · exact .inl ⟨h1, HJ2.out W3 h2 h3⟩
        · exact .inr ⟨h1, HX2.out W3 h2⟩)
      have hk1 : (len - 1 - k = 0 ∧ k + 1 = len) ∨ (len - 1 - k = (len - 1 - (k + 1)) + 1 ∧ k + 1 < len) := by omega
      have HK1 : Hid (∀ z : Int, IntKind.i64.wrap (((len - 1 - k : Nat) : Int) - 1) = z → (k + 1 < len ∧ Value.int .i64 z = .int .i64 ((len - 1 - (k + 1) : Nat) : Int)) ∨ (k + 1 = len ∧ Value.int .i64 z = .int .i64 (-1))) := fun z hz => by
        rw [IntKind.wrap_i64] at hz
        rcases hk1 with ⟨h1, h2⟩ | ⟨h1, h2⟩
        · exact .inr ⟨h2, congrArg _ (by omega)⟩
        · exact .inl ⟨h2, congrArg _ (by omega)⟩
      have hm0 : (0 : Int) ≤ ((len - 1 - k : Nat) : Int) := by omega
      have hml' : ((len - 1 - k : Nat) : Int) < (len : Int) := by omega
      have hmw : wrap64 (((len - 1 - k : Nat) : Int) - 1) = ((len - 1 - k : Nat) : Int) - 1 := IntWalk.wrap64_in _ (by omega)
      have HMW : Hid _ := hmw
      clear hcx hR hc hY hk1 HU HJ2 HX2 h0 hBs
      generalize ws[len - 1 - k]?.getD (0, false) = x at hy c0 c1
      obtain ⟨z, d⟩ := x
      simp only at hy c0 c1
      generalize len - 1 - k = m at hy c0 c1 hml hml' hm0 HK1 hmw HMW ⊢
      gi_wp2
      refine hR2.mono ?_
      rintro e W3 (⟨rfl, hJ3⟩ | ⟨rfl, hJx3⟩)
      · gi_wp2
        go_roundw
        case rel => exact ⟨k + 1, hJ3.out.1, hJ3.out.2, HK1.out _ (by first | rfl | (rw [IntWalk.i64_left]; exact HMW.out))⟩
        case measure => simp [intOf]
      · gi_wp2
        refine bodyPost_ret (results_none rfl _ _ _) rfl ?_
        exact ⟨⟨_, rfl⟩, .inr ⟨_, ⟨k + 1, by omega, rfl⟩, hJx3.out⟩⟩
    · gi_wp2
      go_end0
      exact ⟨⟨_, rfl⟩, .inl ⟨_, rfl, hJs⟩⟩
set_option maxRecDepth 100000 in
set_option maxHeartbeats 1000000 in
/-- .. at a slice without elements: no round. -/
theorem back1_nil_in (F : Fence) (n : Nat) (hf : F.fn 48) (hro : F.round = none) (l Bs cap : Nat) (a : Option Addr) (J : List (Nat × Wy) → World → Prop) (W : World) (hBs : W.cell? ⟨Bs, 0, none⟩ = some (.slice a 0 cap)) (h0 : J [] W) :
    CallsIn F n Try.prog 48 #[.func (.yield l) #[] #[], .pointer (some ⟨Bs, 0, none⟩)] W fun e W' => (∃ v, e = .returned v) ∧ J [] W' := by
  refine callsIn_of_wp Try.func48 rfl hf ?_ hro
  simp only [Try.ntmps48, List.size_toArray, List.length_cons, List.length_nil, Nat.reduceAdd, Nat.reduceSub, Array.replicate_succ, Array.replicate_zero, List.push_toArray, List.append_toArray, List.nil_append, List.cons_append]
  gi_wp2
  gi_loopw [3] (fun i wr => i = .int .i64 (-1) ∧ J [] wr) (fun _ _ => 0)
  case atStart => exact ⟨rfl, h0⟩
  case round =>
    obtain ⟨rfl, hJs⟩ := hrel
    gi_wp2
    go_end0
    exact ⟨⟨_, rfl⟩, hJs⟩
set_option maxHeartbeats 1000000 in
theorem back_in (F : Fence) (n : Nat) (hf : F.fn 39) (hro : F.round = none) (a : Option Addr) (len cap : Nat) (w : World) :
    CallsIn F n Try.prog 39 #[.slice a len cap] w fun e w' => e = .returned (.func (.func 48) #[] #[.pointer (some ⟨w.heap.size, 0, none⟩)]) ∧ w' = w.alloc (.cells #[.slice a len cap] 68) := by
  refine callsIn_of_wp Try.func39 rfl hf ?_ hro
  simp only [Try.ntmps39, List.size_toArray, List.length_cons, List.length_nil, Nat.reduceAdd, Nat.reduceSub, Array.replicate_succ, Array.replicate_zero, List.push_toArray, List.append_toArray, List.nil_append, List.cons_append]
  gi_wp2
  go_ret
  exact ⟨rfl, rfl⟩
/-- What the iterator hands over, whole or in part. -/
theorem back_stops (F : Fence) (n : Nat) (hf : F.fn 48) (hro : F.round = none) (hn : 1 ≤ n) (Bs n₀ cap : Nat) (a : Option Addr) (ws : List Wy) (hreach : ws.length ≤ 1048576) (w : World) (hn₀ : n₀ ≤ w.heap.size) (hBn : Bs < w.heap.size)
    (hc : w.cell? ⟨Bs, 0, none⟩ = some (.slice a ws.length cap)) (hI : WSeg w a ws) (hlow : 0 < ws.length → ∀ b off, a = some ⟨b, off, none⟩ → b < n₀) :
    SeqStopsK F n Try.prog 48 #[.pointer (some ⟨Bs, 0, none⟩)] (fun x : Nat × Wy => #[Value.int .i64 (x.1 : Int), .agg #[.int .i64 x.2.1, .bool x.2.2]]) (KB n₀ Bs) (fun ys => ys = uptoB (bkAt ws ws.length) ws.length) (fun pre => ∃ k, k ≤ ws.length ∧ pre = uptoB (bkAt ws ws.length) k) ws.length w := fun l J Jx W hW _ _ hY h0 => by
  have hc' := (hW.cell (p := ⟨Bs, 0, none⟩) (show Bs < w.heap.size by omega)).trans hc
  by_cases h00 : 0 < ws.length
  · obtain ⟨b, off, rfl, hlt, hcs⟩ := hI h00
    refine (back1_in F n hf hro hn l Bs n₀ b off ws.length cap ws hreach (hlow h00 b off rfl) J Jx hY W hc' (fun j hj => ?_) h0).mono ?_
    · have := hcs j hj
      exact ⟨(hW.cell (p := ⟨b, off + j * 2, none⟩) hlt).trans this.1, (hW.cell (p := ⟨b, off + j * 2 + 1, none⟩) hlt).trans this.2⟩
    · rintro e W' ⟨he, ⟨ys, rfl, hj⟩ | ⟨pre, ⟨k, hk, rfl⟩, hj⟩⟩
      · exact ⟨he, .inl ⟨_, rfl, hj⟩⟩
      · exact ⟨he, .inr ⟨_, ⟨k, hk, rfl⟩, hj⟩⟩
  · have e0 : ws.length = 0 := by omega
    rw [e0] at hc'
    exact (back1_nil_in F n hf hro l Bs cap a J W hc' h0).mono fun e W' ⟨he, hj⟩ => ⟨he, .inl ⟨_, by rw [e0]; rfl, hj⟩⟩
end Go.Proofs.Ytmbpmhmehiiiaaa
