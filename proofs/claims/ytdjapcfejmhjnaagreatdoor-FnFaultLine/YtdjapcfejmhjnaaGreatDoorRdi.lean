/-
  What the program's own reader of an instruction's words returns. Conditions: the table of forms lies in memory as its text lays it; the words are texts that are at most 1048576 bytes long.
-/
import Derived.Test.YtdjapcfejmhjnaaGreatDoorRw
import Derived.Deep.RegionHeld3
namespace Go.Proofs.YtdjapcfejmhjnaaGreatDoor
open Go.ChangeShapes Go.WideShapes Go.ChangeAt Go.RowKit
set_option linter.unusedVariables false
set_option maxRecDepth 20000

/-- The world while the registers are read: the answer's cells are as they were made, the registers so far lie behind them. -/
structure RI (w wr : World) (x y z : Int) : Prop where
  below : Below w.heap.size w wr
  lt : w.heap.size + 1 < wr.heap.size
  cell : ∀ i v, (#[Value.int .i64 0, .int .i64 0, .int .i64 0, .int .i64 0, .int .i64 0, .int .i64 0, .int .u32 0, .string ⟨#[]⟩] : Array Value)[i]? = some v → wr.cell? ⟨w.heap.size, i, none⟩ = some v
  free : ∀ i, wr.frozen? ⟨w.heap.size, i, none⟩ = false
  reg : ∀ i v, (#[Value.int .i64 x, .int .i64 y, .int .i64 z] : Array Value)[i]? = some v → wr.cell? ⟨w.heap.size + 1, i, none⟩ = some v
  rfree : ∀ i, wr.frozen? ⟨w.heap.size + 1, i, none⟩ = false
theorem RI.start (w : World) : RI w ((w.alloc (.cells #[Value.int .i64 0, .int .i64 0, .int .i64 0, .int .i64 0, .int .i64 0, .int .i64 0, .int .u32 0, .string ⟨#[]⟩] 114)).alloc (.cells #[.int .i64 0, .int .i64 0, .int .i64 0] 126)) 0 0 0 := by
  refine ⟨((Below.refl _ w).alloc (Nat.le_refl _) _).alloc (by simp) _, by simp, fun i v h => cell_alloc (new_cell w _ 114 i v h), fun i => by simp, fun i v h => ?_, fun i => by simp⟩
  have := new_cell (w.alloc (.cells #[Value.int .i64 0, .int .i64 0, .int .i64 0, .int .i64 0, .int .i64 0, .int .i64 0, .int .u32 0, .string ⟨#[]⟩] 114)) _ 126 i v h
  simpa using this
theorem RI.hop {w wr w2 : World} {x y z : Int} (h : RI w wr x y z) (hb : Below wr.heap.size wr w2) : RI w w2 x y z :=
  ⟨h.below.trans (hb.mono h.below.size), Nat.lt_of_lt_of_le h.lt hb.size, fun i v e => (hb.cell (p := ⟨w.heap.size, i, none⟩) (by have := h.lt; simp; omega)).trans (h.cell i v e),
    fun i => (hb.frozen (p := ⟨w.heap.size, i, none⟩) (by have := h.lt; simp; omega)).trans (h.free i),
    fun i v e => (hb.cell (p := ⟨w.heap.size + 1, i, none⟩) h.lt).trans (h.reg i v e), fun i => (hb.frozen (p := ⟨w.heap.size + 1, i, none⟩) h.lt).trans (h.rfree i)⟩
theorem RI.set {w wr : World} {x y z n x' y' z' : Int} (j : Nat) (h : RI w wr x y z) (hj : j < 3) (e : (#[Value.int .i64 x, .int .i64 y, .int .i64 z] : Array Value).set! j (.int .i64 n) = #[.int .i64 x', .int .i64 y', .int .i64 z']) :
    RI w (wr.setCell ⟨w.heap.size + 1, j, none⟩ (.int .i64 n)) x' y' z' := by
  have hne : ∀ i, (⟨w.heap.size + 1, j, none⟩ : Addr) ≠ ⟨w.heap.size, i, none⟩ := fun i c => by injection c with c1 c2 c3; omega
  obtain ⟨u, hu⟩ : ∃ u, wr.cell? ⟨w.heap.size + 1, j, none⟩ = some u := by
    obtain rfl | rfl | rfl : j = 0 ∨ j = 1 ∨ j = 2 := by omega
    · exact ⟨_, h.reg 0 _ rfl⟩
    · exact ⟨_, h.reg 1 _ rfl⟩
    · exact ⟨_, h.reg 2 _ rfl⟩
  refine ⟨h.below.setCell (p := ⟨w.heap.size + 1, j, none⟩) (by simp) _, by simpa using h.lt, fun i v he => ?_, fun i => by simpa using h.free i, fun i v he => ?_, fun i => by simpa using h.rfree i⟩
  · rw [World.cell?_setCell_other _ _ _ _ (hne i)]
    exact h.cell i v he
  · by_cases c : j = i
    · subst c
      rw [World.cell?_setCell_same _ _ _ hu]
      rw [← e] at he
      simpa [hj] using he
    · rw [World.cell?_setCell_other _ _ _ _ (by intro c'; injection c' with c1 c2 c3; exact c c2)]
      apply h.reg i v
      rw [← e] at he
      simpa [c] using he
theorem RI.res {w wr : World} {x y z : Int} (h : RI w wr x y z) : wr.cell? ⟨w.heap.size, 0, none⟩ = some (.int .i64 0) ∧ wr.cell? ⟨w.heap.size, 1, none⟩ = some (.int .i64 0) ∧ wr.cell? ⟨w.heap.size, 2, none⟩ = some (.int .i64 0) ∧ wr.cell? ⟨w.heap.size, 3, none⟩ = some (.int .i64 0) ∧ wr.cell? ⟨w.heap.size, 4, none⟩ = some (.int .i64 0) ∧ wr.cell? ⟨w.heap.size, 5, none⟩ = some (.int .i64 0) ∧ wr.cell? ⟨w.heap.size, 6, none⟩ = some (.int .u32 0) ∧ wr.cell? ⟨w.heap.size, 7, none⟩ = some (.string ⟨#[]⟩) ∧ (∀ i, wr.frozen? ⟨w.heap.size, i, none⟩ = false) ∧ Below w.heap.size w wr :=
  ⟨h.cell 0 _ rfl, h.cell 1 _ rfl, h.cell 2 _ rfl, h.cell 3 _ rfl, h.cell 4 _ rfl, h.cell 5 _ rfl, h.cell 6 _ rfl, h.cell 7 _ rfl, h.free, h.below⟩
def kont (qa qb qc qm : Bool) (k j : Nat) (x y z : Int) (r : List ByteArray) : Rl.A8 :=
  match j with
  | 0 => Rl.k0 qa qb qc qm k r
  | 1 => Rl.k1 qb qc qm k x r
  | 2 => Rl.k2 qc qm k x y r
  | _ => Rl.fin qm k x y z r
def left (qa qb qc qm : Bool) (j : Nat) : Nat :=
  match j with
  | 0 => Rl.one qa + (Rl.one qb + (Rl.one qc + Rl.one qm))
  | 1 => Rl.one qb + (Rl.one qc + Rl.one qm)
  | 2 => Rl.one qc + Rl.one qm
  | _ => Rl.one qm
set_option maxHeartbeats 400000 in
theorem impl_rdi_far (k n cap cnt : Nat) (f : Int) (a : Option Addr) (w : World) (hk : k < 33) (hf0 : 0 ≤ f) (hf1 : f < 16) (hcf : w.cell? ⟨1, k, none⟩ = some (.int .i64 f)) (hn : n ≤ 1048576) (hc : cnt ≤ 4) (hne : n ≠ cnt)
    (HO : Hid (∀ w, Calls Tryz.prog 123 #[.int .u64 f] w fun e w' => e = .returned (.int .i64 cnt) ∧ w' = w)) :
    Calls Tryz.prog 100 #[.int .i64 k, .slice a n cap] w fun e w' => e = .returned Rl.no.val ∧ Below w.heap.size w w' := by
  have hne2 : ((n : Int) != (cnt : Int)) = true := by rw [bne_iff_ne]; omega
  have hcf2 := (((Below.refl _ w).alloc (Nat.le_refl _) (.cells #[Value.int .i64 0, .int .i64 0, .int .i64 0, .int .i64 0, .int .i64 0, .int .i64 0, .int .u32 0, .string ⟨#[]⟩] 114)).cell (p := ⟨1, k, none⟩) (World.block_lt_of_cell? w _ hcf)).trans hcf
  clear hcf hne
  go_enter Tryz.func100, Tryz.ntmps100
  go_wp2_with fail
  refine (isOp_yes _ _ (by omega) (by omega)).mono ?_
  rintro e w1 ⟨rfl, rfl⟩
  go_wp2_with fail
  refine (HO.out _).mono ?_
  rintro e w1 ⟨rfl, rfl⟩
  go_wp2
  exact bodyPost_ret (v := Rl.no.val) (by simp [results, Tryz.results100, go_sem, Rl.A8.val]) rfl ⟨rfl, (Below.refl _ _).alloc (Nat.le_refl _) _⟩
set_option maxHeartbeats 400000 in
theorem impl_rdi_none (a : Option Addr) (n cap : Nat) (w : World) (hn : n ≤ 1048576) :
    Calls Tryz.prog 100 #[.int .i64 (-1), .slice a n cap] w fun e w' => e = .returned Rl.no.val ∧ Below w.heap.size w w' := by
  go_enter Tryz.func100, Tryz.ntmps100
  go_wp2_with fail
  refine (isOp_no _ _ (by omega)).mono ?_
  rintro e w1 ⟨rfl, rfl⟩
  go_wp2
  exact bodyPost_ret (v := Rl.no.val) (by simp [results, Tryz.results100, go_sem, Rl.A8.val]) rfl ⟨rfl, (Below.refl _ _).alloc (Nat.le_refl _) _⟩
end Go.Proofs.YtdjapcfejmhjnaaGreatDoor
