
/-
  A block of ways that is written way by way: plain facts on worlds, and what 'make' lays. No conditions but those that each fact names.
-/
import Derived.Test.YtmbpmhmehiiiaaaRows
import Derived.Test.YtmbpmhmehiiiaaaShp
import Derived.Test.YtmbpmhmehiiiaaaWys
namespace Go.Proofs.Ytmbpmhmehiiiaaa
open Go.ChangeShapes Go.WideShapes Go.ChangeAt Go.RowKit Go.Deep
set_option linter.unusedVariables false

/-- In the block 'B', from 'off' on, n ways have their place; the first k hold those of 'ws'. -/
structure PairBlk (w : World) (B off n k : Nat) (ws : List Wy) : Prop where
  lt : B < w.heap.size
  free : ∀ j, w.frozen? ⟨B, j, none⟩ = false
  room : ∀ i, i < n → (∃ u, w.cell? ⟨B, off + i * 2, none⟩ = some u) ∧ ∃ u, w.cell? ⟨B, off + i * 2 + 1, none⟩ = some u
  done : ∀ i, i < k → w.cell? ⟨B, off + i * 2, none⟩ = some (.int .i64 (ws.getD i wd).1) ∧ w.cell? ⟨B, off + i * 2 + 1, none⟩ = some (.bool (ws.getD i wd).2)
theorem PairBlk.below {w w' : World} {B off n k : Nat} {ws : List Wy} (h : PairBlk w B off n k ws) (hb : Below w.heap.size w w') : PairBlk w' B off n k ws :=
  ⟨Nat.lt_of_lt_of_le h.lt hb.size, fun j => (hb.frozen (p := ⟨B, j, none⟩) h.lt).trans (h.free j), fun i hi => by
    rw [hb.cell (p := ⟨B, off + i * 2, none⟩) h.lt, hb.cell (p := ⟨B, off + i * 2 + 1, none⟩) h.lt]; exact h.room i hi, fun i hi => by
    rw [hb.cell (p := ⟨B, off + i * 2, none⟩) h.lt, hb.cell (p := ⟨B, off + i * 2 + 1, none⟩) h.lt]; exact h.done i hi⟩
theorem PairBlk.put {w : World} {B off n k : Nat} {ws : List Wy} (h : PairBlk w B off n k ws) (hk : k < n) (z : Int) (d : Bool) (he : ws.getD k wd = (z, d)) :
    PairBlk ((w.setCell ⟨B, off + k * 2, none⟩ (.int .i64 z)).setCell ⟨B, off + k * 2 + 1, none⟩ (.bool d)) B off n (k + 1) ws := by
  obtain ⟨⟨u1, hu1⟩, ⟨u2, hu2⟩⟩ := h.room k hk
  have hc3 : (w.setCell ⟨B, off + k * 2, none⟩ (.int .i64 z)).cell? ⟨B, off + k * 2 + 1, none⟩ = some u2 := by rw [World.cell?_setCell_other _ _ _ _ (by simp)]; exact hu2
  have at1 : ((w.setCell ⟨B, off + k * 2, none⟩ (.int .i64 z)).setCell ⟨B, off + k * 2 + 1, none⟩ (.bool d)).cell? ⟨B, off + k * 2, none⟩ = some (.int .i64 z) := by
    rw [World.cell?_setCell_other _ _ _ _ (by simp)]
    exact World.cell?_setCell_same _ _ _ hu1
  have at2 : ((w.setCell ⟨B, off + k * 2, none⟩ (.int .i64 z)).setCell ⟨B, off + k * 2 + 1, none⟩ (.bool d)).cell? ⟨B, off + k * 2 + 1, none⟩ = some (.bool d) := World.cell?_setCell_same _ _ _ hc3
  have far : ∀ (q : Nat), q ≠ off + k * 2 → q ≠ off + k * 2 + 1 → ((w.setCell ⟨B, off + k * 2, none⟩ (.int .i64 z)).setCell ⟨B, off + k * 2 + 1, none⟩ (.bool d)).cell? ⟨B, q, none⟩ = w.cell? ⟨B, q, none⟩ := fun q h1 h2 => by
    rw [World.cell?_setCell_other _ _ _ _ (by intro c; injection c with c1 c2 c3; omega), World.cell?_setCell_other _ _ _ _ (by intro c; injection c with c1 c2 c3; omega)]
  refine ⟨by simpa using h.lt, fun j => by rw [World.frozen?_setCell, World.frozen?_setCell]; exact h.free j, fun i hi => ?_, fun i hi => ?_⟩
  · by_cases e : i = k
    · subst e; exact ⟨⟨_, at1⟩, ⟨_, at2⟩⟩
    · rw [far (off + i * 2) (by omega) (by omega), far (off + i * 2 + 1) (by omega) (by omega)]
      exact h.room i hi
  · by_cases e : i = k
    · subst e; rw [he]; exact ⟨at1, at2⟩
    · rw [far (off + i * 2) (by omega) (by omega), far (off + i * 2 + 1) (by omega) (by omega)]
      exact h.done i (by omega)
theorem made_pair (n i : Nat) (hi : i < n) : (madeCells #[.int .i64 0, .bool false] (n * 2))[i * 2]? = some (.int .i64 0) ∧ (madeCells #[.int .i64 0, .bool false] (n * 2))[i * 2 + 1]? = some (.bool false) := by
  have h1 : i * 2 < n * 2 := by omega
  have h2 : i * 2 + 1 < n * 2 := by omega
  have e1 : (i * 2) % 2 = 0 := by omega
  have e2 : (i * 2 + 1) % 2 = 1 := by omega
  constructor <;> simp [madeCells, h1, h2, e1, e2]
theorem PairBlk.made (w : World) (n : Nat) (T : TypeId) (ws : List Wy) : PairBlk (w.alloc (.cells (madeCells #[.int .i64 0, .bool false] (n * 2)) T)) w.heap.size 0 n 0 ws := by
  refine ⟨by simp, fun j => by simp, fun i hi => ?_, fun i hi => absurd hi (by omega)⟩
  obtain ⟨h1, h2⟩ := made_pair n i hi
  rw [Nat.zero_add]
  exact ⟨⟨_, new_cell w _ T _ _ h1⟩, ⟨_, new_cell w _ T _ _ h2⟩⟩
theorem infoW : (Try.prog.info? 61).map (fun i => (i.zero, i.size, i.bytes)) = some (some (.agg #[.int .i64 0, .bool false]), 2, 16) := by kernel_rfl
theorem infoR : (Try.prog.info? 68).map (fun i => (i.zero, i.size, i.bytes)) = some (some (.slice none 0 0), 1, 24) := by kernel_rfl
theorem run_make_pairs (n : Nat) (hn : n ≤ 1048576) (w : World) : (Instr.makeSlice 68 (.int .i64 (n : Int)) (.int .i64 (n : Int))).run Try.prog w = .ok (.slice (some ⟨w.heap.size, 0, none⟩) n n) (w.alloc (.cells (madeCells #[.int .i64 0, .bool false] (n * 2)) 61)) := by
  obtain ⟨i, hi, hzz⟩ := Option.map_eq_some_iff.1 infoW
  simp only [Prod.mk.injEq] at hzz
  obtain ⟨hz, hs, hb⟩ := hzz
  have := run_make (P := Try.prog) w 68 61 i _ Try.underlying68 hi hz .i64 .i64 n n (by omega) (Int.le_refl _) (by rw [hb]; omega) (by omega)
  rw [hs, Int.toNat_natCast] at this
  exact this
theorem run_make_rows (n : Nat) (hn : n ≤ 1048576) (w : World) : (Instr.makeSlice 32 (.int .i64 (n : Int)) (.int .i64 (n : Int))).run Try.prog w = .ok (.slice (some ⟨w.heap.size, 0, none⟩) n n) (w.alloc (.cells (madeCells #[.slice none 0 0] n) 68)) :=
  run_make_row' (P := Try.prog) 32 68 (.slice none 0 0) 24 Try.underlying32 infoR rfl .i64 .i64 n (by omega) (by omega) w
theorem PairBlk.ow {w : World} {B n : Nat} {off : Nat} {ws : List Wy} (h : PairBlk w B off n n ws) (hl : ws.length = n) (lo hi : Nat) (h1 : lo ≤ B) (h2 : B < hi) : OW w lo hi (some ⟨B, off, none⟩) ws B := fun _ =>
  ⟨off, rfl, h1, h2, h.lt, fun i hi => h.done i (by omega), h.free⟩
end Go.Proofs.Ytmbpmhmehiiiaaa
