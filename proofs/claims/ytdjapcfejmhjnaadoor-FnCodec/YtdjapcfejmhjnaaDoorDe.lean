/-
  What the specification's DrawEncode returns: an instruction. Conditions: the bytes drawn from are at most 1048576.
-/
import Derived.Test.YtdjapcfejmhjnaaDoorDi
namespace Go.Proofs.YtdjapcfejmhjnaaDoor
open Go.ChangeShapes Go.WideShapes Go.ChangeAt Go.RowKit Go.Deep
set_option linter.unusedVariables false
set_option maxRecDepth 20000

set_option maxHeartbeats 1000000 in
theorem draw_enc (w : World) (ad : Option Addr) (zs : List Int) (cap : Nat) (hs : Seg .u8 w ad zs) (hb : ∀ z ∈ zs, (Lit.int .u8 z).wf = true) (hn : zs.length ≤ 1048576) :
    Calls Tryd.prog 10 #[.slice ad zs.length cap] w fun e w' => ∃ op a b c m, e = .returned (ins op a b c m) ∧ Below w.heap.size w w' := by
  obtain ⟨n, Hn⟩ : ∃ n, Hid (n = zs.length) := ⟨_, rfl⟩
  have hn' : n ≤ 1048576 := by rw [Hn.out]; exact hn
  have HN : Hid (∀ X, Below w.heap.size w X → Calls Tryd.prog 34 #[.slice ad n cap] X fun e w' => e = .returned (.pointer (some ⟨X.heap.size, 0, none⟩)) ∧ Cur w' X.heap.size ad zs cap ∧ Below X.heap.size X w') := fun X hX => by
    rw [Hn.out]
    exact draw_new X ad zs cap (hs.below hX) hb hn
  rw [← Hn.out]
  clear hn hs hb
  go_enter Tryd.func10, Tryd.ntmps10
  go_wp2_with fail
  refine (HN.out _ ((Below.refl _ _).alloc (Nat.le_refl _) _)).mono ?_
  rintro e w1 ⟨rfl, hc, hb1⟩
  have hes : (w.alloc (.cells #[Value.int .i64 0, .int .i64 0, .int .i64 0, .int .i64 0, .int .i64 0] 25)).heap.size = w.heap.size + 1 := by simp
  rw [hes] at hc
  go_wp2_with fail
  refine (draw_any _ (w.heap.size + 1) _ _ _ hc).mono ?_
  rintro e w2 ⟨op, a, b, c, m, rfl, hc2, ht2⟩
  have hs1 := hb1.size
  have hb2 : Below (w.alloc (.cells #[Value.int .i64 0, .int .i64 0, .int .i64 0, .int .i64 0, .int .i64 0] 25)).heap.size (w.alloc (.cells #[Value.int .i64 0, .int .i64 0, .int .i64 0, .int .i64 0, .int .i64 0] 25)) w2 := hb1.trans (ht2.below (by rw [hes]; exact Nat.le_refl _) hs1)
  have z0 := (hb2.cell (p := ⟨w.heap.size, 0, none⟩) (by simp)).trans (new_cell w #[Value.int .i64 0, .int .i64 0, .int .i64 0, .int .i64 0, .int .i64 0] 25 0 (.int .i64 0) rfl)
  have z1 := (hb2.cell (p := ⟨w.heap.size, 1, none⟩) (by simp)).trans (new_cell w #[Value.int .i64 0, .int .i64 0, .int .i64 0, .int .i64 0, .int .i64 0] 25 1 (.int .i64 0) rfl)
  have z2 := (hb2.cell (p := ⟨w.heap.size, 2, none⟩) (by simp)).trans (new_cell w #[Value.int .i64 0, .int .i64 0, .int .i64 0, .int .i64 0, .int .i64 0] 25 2 (.int .i64 0) rfl)
  have z3 := (hb2.cell (p := ⟨w.heap.size, 3, none⟩) (by simp)).trans (new_cell w #[Value.int .i64 0, .int .i64 0, .int .i64 0, .int .i64 0, .int .i64 0] 25 3 (.int .i64 0) rfl)
  have z4 := (hb2.cell (p := ⟨w.heap.size, 4, none⟩) (by simp)).trans (new_cell w #[Value.int .i64 0, .int .i64 0, .int .i64 0, .int .i64 0, .int .i64 0] 25 4 (.int .i64 0) rfl)
  have hf : ∀ i, w2.frozen? ⟨w.heap.size, i, none⟩ = false := fun i => (hb2.frozen (p := ⟨w.heap.size, i, none⟩) (by simp)).trans (by simp)
  have hb3 := ((Below.refl _ w).alloc (Nat.le_refl _) (.cells #[Value.int .i64 0, .int .i64 0, .int .i64 0, .int .i64 0, .int .i64 0] 25)).trans (hb2.mono (by simp))
  clear hb2 hb1 hc hc2 ht2
  go_wp2
  exact bodyPost_ret (v := ins op a b c m) (by simp [results, Tryd.results10, go_sem, z0, z1, z2, z3, z4]) rfl ⟨op, a, b, c, m, rfl, ((((hb3.setCell (Nat.le_refl _) _).setCell (Nat.le_refl _) _).setCell (Nat.le_refl _) _).setCell (Nat.le_refl _) _).setCell (Nat.le_refl _) _⟩
end Go.Proofs.YtdjapcfejmhjnaaDoor
