
/-
  What the program's linked row does: a way is laid at its front, one is taken out, one is cut off. No conditions but those that each fact names.
-/
import Derived.Test.YtmbpmhmehiiiaaaRows
import Derived.Test.YtmbpmhmehiiiaaaLnk
import Derived.Test.YtmbpmhmehiiiaaaWfn
namespace Go.Proofs.Ytmbpmhmehiiiaaa
open Go.ChangeShapes Go.WideShapes Go.ChangeAt Go.RowKit Go.Deep
set_option linter.unusedVariables false

theorem Chg.drew {ns : List Nat} {a w : World} (h : Chg ns a w) : Chg ns a w.drew := ⟨h.os, h.tape, h.output, h.size, h.block⟩
theorem LL.drew {w : World} {ns : List Nat} {vs : List Wy} (h : LL w ns vs) : LL w.drew ns vs := h.below (Below.refl _ _).drew
abbrev rowV (h : Nat) : Value := .agg #[.pointer (some ⟨h, 0, none⟩)]
set_option maxHeartbeats 1000000 in
theorem row_push (hd : Nat) (bs : List Nat) (v0 x : Wy) (ws : List Wy) (w : World) (hL : LL w (hd :: bs) (v0 :: ws)) :
    Calls Try.prog 40 #[rowV hd, wayV x] w fun e w' => e = .returned (.tuple #[]) ∧ ∃ c, w.heap.size ≤ c ∧ LL w' (hd :: c :: bs) (v0 :: x :: ws) ∧ Chg [hd] w w' := by
  obtain ⟨z, d⟩ := x
  have hal1 : Below w.heap.size w (w.alloc (.cells #[.pointer (some ⟨hd, 0, none⟩)] 66)) := (Below.refl _ _).alloc (Nat.le_refl _) _
  have hal2 : Below w.heap.size w ((w.alloc (.cells #[.pointer (some ⟨hd, 0, none⟩)] 66)).alloc (.cells #[.int .i64 z, .bool d] 61)) := hal1.alloc hal1.size _
  have hB := hL.blk 0 hd rfl
  have hlt := hB.lt
  have k2 : w.cell? ⟨hd, 2, none⟩ = some (ptrV bs.head?) := by have := hB.cell 2 _ rfl; simpa [List.head?_eq_getElem?] using this
  have f2 := hB.free
  have HL2 : Hid (LL _ _ _) := hL.below hal2
  have HB2 : Hid _ := hal2
  obtain ⟨u, HU⟩ : ∃ u, Hid ((bs.head?.map fun b => (⟨b, 0, none⟩ : Addr)) = u) := ⟨_, rfl⟩
  unfold ptrV at k2
  rw [HU.out] at k2
  have k2' := kept_cell hal2 k2
  have hne : ¬ (hd = w.heap.size) := by omega
  have hne1 : ¬ (hd = w.heap.size + 1) := by omega
  have hne2 : ¬ (hd = w.heap.size + 1 + 1) := by omega
  have hal3 := hal2.alloc hal2.size (.cells #[.int .i64 z, .bool d, .pointer u] 83)
  have k3 := kept_cell hal3 k2
  have f3 := (hal3.frozen (p := ⟨hd, 2, none⟩) hlt).trans (f2 2)
  have HB3 : Hid _ := hal3
  clear hal1 hal2 hal3 hB hL
  go_enter Try.func40, Try.ntmps40
  go_wp2
  go_region
  all_goals go_wp2
  all_goals
    have h3 := LL.push HL2.out (z, d) 83 (w.heap.size + 1 + 1) (by simp)
    unfold nodeC at h3
    simp only [ptrV] at h3
    rw [HU.out] at h3
    refine bodyPost_end (v := .tuple #[]) (by simp [results, Try.results40, go_sem]) rfl ⟨rfl, w.heap.size + 1 + 1, by omega, h3.drew, ?_⟩
    exact (Chg.set (Below.chg HB3.out) hd 2 _ (by simp)).drew
set_option maxHeartbeats 1000000 in
theorem node_cut (ns : List Nat) (vs : List Wy) (i b : Nat) (w : World) (hL : LL w ns vs) (hb : ns[i]? = some b) :
    Calls Try.prog 49 #[.pointer (some ⟨b, 0, none⟩)] w fun e w' => e = .returned (wayV (if i + 1 < ns.length then vs.getD (i + 1) wd else wd)) ∧ LL w' (ns.eraseIdx (i + 1)) (vs.eraseIdx (i + 1)) ∧ Chg [b] w w' := by
  have hB := hL.blk i b hb
  have hlt := hB.lt
  have hal1 : Below w.heap.size w (w.alloc (.cells #[.int .i64 0, .bool false] 61)) := (Below.refl _ _).alloc (Nat.le_refl _) _
  have hal2 : Below w.heap.size w ((w.alloc (.cells #[.int .i64 0, .bool false] 61)).alloc (.cells #[.int .i64 0, .bool false] 61)) := hal1.alloc hal1.size _
  have hne : ¬ (b = w.heap.size) := by omega
  have hne1 : ¬ (b = w.heap.size + 1) := by omega
  have k2 := hB.cell 2 _ rfl
  change _ = some (ptrV ns[i + 1]?) at k2
  by_cases hi : i + 1 < ns.length
  rotate_left
  · have hnone : ns[i + 1]? = none := List.getElem?_eq_none (by omega)
    rw [hnone] at k2
    change _ = some (Value.pointer none) at k2
    have k2' := kept_cell hal2 k2
    have HZ : Hid (LL ((w.alloc (.cells #[.int .i64 0, .bool false] 61)).alloc (.cells #[.int .i64 0, .bool false] 61)) (ns.eraseIdx (i + 1)) (vs.eraseIdx (i + 1))) := by
      rw [List.eraseIdx_of_length_le (by omega), List.eraseIdx_of_length_le (by have := hL.len; omega)]
      exact hL.below hal2
    have HB2 : Hid _ := hal2
    rw [if_neg hi]
    clear hal1 hal2 hB hL hb hnone
    go_enter Try.func49, Try.ntmps49
    go_wp2
    refine bodyPost_ret (v := wayV wd) (by simp [results, Try.results49, go_sem]) rfl ⟨rfl, HZ.out, Below.chg HB2.out⟩
  rw [if_pos hi]
  obtain ⟨c, hc⟩ : ∃ c, ns[i + 1]? = some c := ⟨_, List.getElem?_eq_getElem hi⟩
  have hC := hL.blk (i + 1) c hc
  have hltc := hC.lt
  rw [hc] at k2
  change _ = some (Value.pointer (some ⟨c, 0, none⟩)) at k2
  have c0 := hC.cell 0 _ rfl
  have c1 := hC.cell 1 _ rfl
  have c2 := hC.cell 2 _ rfl
  change _ = some (ptrV ns[i + 1 + 1]?) at c2
  change _ = some (Value.int .i64 (vs.getD (i + 1) wd).1) at c0
  change _ = some (Value.bool (vs.getD (i + 1) wd).2) at c1
  obtain ⟨u, HU⟩ : ∃ u, Hid ((ns[i + 1 + 1]?.map fun b => (⟨b, 0, none⟩ : Addr)) = u) := ⟨_, rfl⟩
  unfold ptrV at c2
  rw [HU.out] at c2
  generalize vs.getD (i + 1) wd = x at c0 c1 ⊢
  obtain ⟨z, d⟩ := x
  simp only at c0 c1
  have hnec : ¬ (c = w.heap.size) := by omega
  have hnec1 : ¬ (c = w.heap.size + 1) := by omega
  have fb := hB.free
  have k2' := kept_cell hal2 k2
  have c0' := kept_cell hal2 c0
  have c1' := kept_cell hal2 c1
  have hal3 : Below w.heap.size w ((w.alloc (.cells #[.int .i64 0, .bool false] 61)).alloc (.cells #[.int .i64 z, .bool d] 61)) := hal1.alloc hal1.size _
  have k3' := kept_cell hal3 k2
  have c2' := kept_cell hal3 c2
  have f3' : ∀ j, ((w.alloc (.cells #[.int .i64 0, .bool false] 61)).alloc (.cells #[.int .i64 z, .bool d] 61)).frozen? ⟨b, j, none⟩ = false := fun j => (hal3.frozen (p := ⟨b, j, none⟩) hlt).trans (fb j)
  have HL3 : Hid (LL (w.setCell ⟨b, 2, none⟩ (.pointer u)) (ns.eraseIdx (i + 1)) (vs.eraseIdx (i + 1))) := by
    have h4 := hL.cut i b hb hi
    simp only [ptrV] at h4
    rw [HU.out] at h4
    exact h4
  clear hal1 hal2 hal3 hB hC hL hb hc
  go_enter Try.func49, Try.ntmps49
  go_wp2
  have hal : ∀ (V : World) (o1 o2 : Obj), Below V.heap.size V ((V.alloc o1).alloc o2) := fun V o1 o2 => ((Below.refl _ _).alloc (Nat.le_refl _) _).alloc (by simp) _
  refine bodyPost_ret (v := wayV (z, d)) (by simp [results, Try.results49, go_sem]) rfl ⟨rfl, LL.below HL3.out (hal _ _ _), ?_⟩
  exact Chg.trans (ms := []) (Chg.set (Chg.refl [b] w) b 2 _ (by simp)) (Below.chg (hal _ _ _)) (fun k hk => absurd hk (by simp))
end Go.Proofs.Ytmbpmhmehiiiaaa
