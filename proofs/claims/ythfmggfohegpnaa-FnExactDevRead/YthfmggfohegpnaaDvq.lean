
/-
  The program's queue of words within a block: held, put. Conditions: at most 8 words, the places behind them zero.
-/
import Derived.Test.YthfmggfohegpnaaRows
import Derived.Test.YthfmggfohegpnaaDvo
import Derived.Laws.CopyOwn
import Derived.Lib.SliceRun
import Derived.Deep.RegionLaw
import Derived.Deep.RegionHeldLaw
namespace Go.Proofs.Ythfmggfohegpnaa
open Go.ChangeShapes Go.WideShapes Go.ChangeAt Go.RowKit Go.Deep
set_option linter.unusedVariables false

/-- A queue that holds 'zs', its nine cells from 'off' on. -/
structure Qat (cur : List Value) (off : Nat) (zs : List Int) : Prop where
  len : zs.length ≤ 8
  at_ : ∀ i, i < 8 → cur[off + i]? = some (.int .u32 (zs.getD i 0))
  cnt : cur[off + 8]? = some (.int .i64 (zs.length : Int))
/-- A block whose cells are 'cur'. -/
def Row (w : World) (B : Nat) (T : TypeId) (cur : List Value) : Prop := w.heap[B]? = some (.cells cur.toArray T (0, 0))
theorem Row.cell {w : World} {B : Nat} {T : TypeId} {cur : List Value} (h : Row w B T cur) (i : Nat) : w.cell? ⟨B, i, none⟩ = cur[i]? := by
  unfold Row at h
  simp [World.cell?, h]
theorem Row.free {w : World} {B : Nat} {T : TypeId} {cur : List Value} (h : Row w B T cur) (i : Nat) : w.frozen? ⟨B, i, none⟩ = false := by
  unfold Row at h
  simp [World.frozen?, h]
theorem Row.lt {w : World} {B : Nat} {T : TypeId} {cur : List Value} (h : Row w B T cur) : B < w.heap.size := by
  rcases Nat.lt_or_ge B w.heap.size with g | g
  · exact g
  · unfold Row at h; rw [Array.getElem?_eq_none g] at h; cases h
theorem Row.set {w : World} {B : Nat} {T : TypeId} {cur : List Value} (h : Row w B T cur) (i : Nat) (v : Value) : Row (w.setCell ⟨B, i, none⟩ v) B T (cur.set i v) := by
  unfold Row at h ⊢
  rw [setCell_eq_setRow w B i cur.toArray T (0, 0) v h, setRow_heap w B _ _ T (0, 0) h]
  simp
theorem Row.heap {w w' : World} {B : Nat} {T : TypeId} {cur : List Value} (h : Row w B T cur) (he : w'.heap = w.heap) : Row w' B T cur := by unfold Row at h ⊢; rw [he]; exact h
theorem Row.below {w w' : World} {B : Nat} {T : TypeId} {cur : List Value} (h : Row w B T cur) (hb : Below w.heap.size w w') : Row w' B T cur := by
  have := h.lt
  unfold Row at h ⊢
  rw [hb.block B this]; exact h
theorem Row.betw {w w' : World} {B lo hi : Nat} {T : TypeId} {cur : List Value} (h : Row w B T cur) (hb : Betw lo hi w w') (ho : B < lo ∨ hi ≤ B) : Row w' B T cur := by
  have := h.lt
  unfold Row at h ⊢
  rw [hb.block B this ho]; exact h
/-- The queue at 'off' of a block has become 'zs', nothing else of the block has. -/
def Qto (w w' : World) (B : Nat) (T : TypeId) (cur : List Value) (off : Nat) (zs : List Int) : Prop :=
  ∃ cur', Row w' B T cur' ∧ Qat cur' off zs ∧ cur'.length = cur.length ∧ (∀ i, i < off ∨ off + 9 ≤ i → cur'[i]? = cur[i]?) ∧ Betw B (B + 1) w w'
theorem Qat.cap {cur : List Value} {off : Nat} {zs : List Int} (h : Qat cur off zs) : off + 9 ≤ cur.length := by
  have := h.cnt
  rcases Nat.lt_or_ge (off + 8) cur.length with g | g
  · omega
  · rw [List.getElem?_eq_none g] at this; cases this
theorem Qat.of {cur cur' : List Value} {off : Nat} {zs : List Int} (h : Qat cur off zs) (he : ∀ i, off ≤ i → i < off + 9 → cur'[i]? = cur[i]?) : Qat cur' off zs :=
  ⟨h.len, fun i hi => (he _ (by omega) (by omega)).trans (h.at_ i hi), (he _ (by omega) (by omega)).trans h.cnt⟩
theorem infoU1 : (Try.prog.info? 31).map (·.size) = some 1 := by kernel_rfl
set_option maxHeartbeats 1000000 in
theorem impl_held (B off : Nat) (T : TypeId) (cur : List Value) (zs : List Int) (n : Nat) (w : World) (hr : Row w B T cur) (hq : Qat cur off zs) (hl : zs.length = n) :
    Calls Try.prog 60 #[.pointer (some ⟨B, off, none⟩)] w fun e w' => e = .returned (.slice (some ⟨B, off, none⟩) n 8) ∧ Below w.heap.size w w' ∧ w'.heap = w.heap := by
  have hc : w.cell? ⟨B, off + 8, none⟩ = some (.int .i64 (n : Int)) := by rw [hr.cell, hq.cnt, hl]
  have hn8 : (n : Int) ≤ 8 := by have := hq.len; omega
  clear hr hq
  go_enter Try.func60, Try.ntmps60
  go_wp2
  go_quiet (fail)
  go_wp2
  go_ret
  exact ⟨rfl, below_drewN (Below.refl _ _) _, rfl⟩
theorem Qat.put {cur : List Value} {off : Nat} {zs : List Int} {n : Nat} (h : Qat cur off zs) (hl : zs.length = n) (hn : n < 8) (x : Int) : Qat ((cur.set (off + n) (.int .u32 x)).set (off + 8) (.int .i64 ((n + 1 : Nat) : Int))) off (zs ++ [x]) := by
  have hcp := h.cap
  refine ⟨by simp; omega, fun i hi => ?_, ?_⟩
  · rw [List.getElem?_set_ne (by omega)]
    by_cases e : i = n
    · subst e
      rw [List.getElem?_set_self (by omega)]
      simp [List.getD, hl]
    · rw [List.getElem?_set_ne (by omega), h.at_ i hi]
      congr 2
      simp only [List.getD]
      by_cases e2 : i < n
      · rw [List.getElem?_append_left (by omega)]
      · rw [List.getElem?_eq_none (by omega), List.getElem?_eq_none (by simp; omega)]
  · rw [List.getElem?_set_self (by simp; omega)]
    simp [hl]
set_option maxHeartbeats 1000000 in
theorem impl_put (B off : Nat) (T : TypeId) (cur : List Value) (zs : List Int) (x : Int) (w : World) (hr : Row w B T cur) (hq : Qat cur off zs) :
    Calls Try.prog 38 #[.pointer (some ⟨B, off, none⟩), .int .u32 x] w fun e w' => e = .returned (.bool (decide (zs.length < 8))) ∧ Qto w w' B T cur off (if zs.length = 8 then zs else zs ++ [x]) := by
  obtain ⟨n, HL⟩ : ∃ n, Hid (zs.length = n) := ⟨_, rfl⟩
  have hn8 : n ≤ 8 := by have := hq.len; have := HL.out; omega
  have hc : w.cell? ⟨B, off + 8, none⟩ = some (.int .i64 (n : Int)) := by rw [hr.cell, hq.cnt, HL.out]
  have HR : Hid (Row w B T cur) := hr
  have HQ : Hid (Qat cur off zs) := hq
  rw [HL.out]
  by_cases h8 : n = 8
  · have h8' : ((n : Int) == 8) = true := by subst h8; rfl
    have hq0 : Hid (decide (n < 8) = false) := (show decide (n < 8) = false by simp; omega)
    rw [hq0.out, if_pos h8]
    clear h8 hr hq
    go_enter Try.func38, Try.ntmps38
    go_wp2
    go_ret
    exact ⟨rfl, _, HR.out, HQ.out, rfl, fun _ _ => rfl, Betw.refl _ _ _⟩
  · have h8' : ((n : Int) == 8) = false := by simp; omega
    have hq0 : Hid (decide (n < 8) = true) := (show decide (n < 8) = true by simp; omega)
    rw [hq0.out, if_neg h8]
    have hn7 : (n : Int) < 8 := by omega
    have hcn : ∃ u, w.cell? ⟨B, off + n, none⟩ = some u := ⟨_, by rw [hr.cell]; exact hq.at_ n (by omega)⟩
    obtain ⟨u, hu⟩ := hcn
    have hf := hr.free
    have hc2 : (w.setCell ⟨B, off + n, none⟩ (.int .u32 x)).cell? ⟨B, off + 8, none⟩ = some (.int .i64 (n : Int)) := by rw [World.cell?_setCell_other _ _ _ _ (by intro c; injection c with c1 c2 c3; omega)]; exact hc
    have HC2 : Hid _ := hc2
    clear hr hq hc2
    go_enter Try.func38, Try.ntmps38
    go_wp2
    go_region_held_law (fun w' => w'.cell? ⟨B, off + 8, none⟩ = some (.int .i64 (n : Int))) (first | with_reducible exact hc | with_reducible exact dr_c hc | with_reducible exact HC2.out | with_reducible exact dr_c HC2.out) (fail)
    all_goals
      rename_i hhh
      clear hhh
      have hrY : Row (w.setCell ⟨B, off + n, none⟩ (.int .u32 x)).drew B T (cur.set (off + n) (.int .u32 x)) := (HR.out.set (off + n) (.int .u32 x)).heap rfl
      have hbY : Betw B (B + 1) w (w.setCell ⟨B, off + n, none⟩ (.int .u32 x)).drew := ((Betw.refl _ _ w).setCell (p := ⟨B, off + n, none⟩) (Nat.le_refl _) (by simp) _).trans (Below.betw ((Below.refl _ _).drew))
      have hcY := dr_c HC2.out
      revert hrY hbY hcY
      generalize (w.setCell ⟨B, off + n, none⟩ (.int .u32 x)).drew = Y
      intro hrY hbY hcY
      have HRY : Hid (Row Y B T (cur.set (off + n) (.int .u32 x))) := hrY
      have HBY : Hid _ := hbY
      have hfY := hrY.free
      clear hrY hbY hc hf hu HC2
      have hw : IntKind.i64.wrap ((n : Int) + 1) = ((n + 1 : Nat) : Int) := by rw [IntKind.wrap_i64]; omega
      go_wp2
      go_ret
      refine ⟨rfl, _, HRY.out.set (off + 8) _, HQ.out.put HL.out (by omega) x, by simp, fun i hi => ?_, HBY.out.trans ((Betw.refl _ _ Y).setCell (p := ⟨B, off + 8, none⟩) (Nat.le_refl _) (by simp) _)⟩
      rw [List.getElem?_set_ne (by omega), List.getElem?_set_ne (by omega)]
end Go.Proofs.Ythfmggfohegpnaa
