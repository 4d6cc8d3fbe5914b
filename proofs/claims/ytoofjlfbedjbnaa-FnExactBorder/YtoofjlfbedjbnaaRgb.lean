
/-
  What a region that makes two ends and a list of words keeps, whatever order it draws. No function of the program in sight; no conditions but those that each fact names.
-/
import Derived.Test.YtoofjlfbedjbnaaRgi
import Derived.Test.YtoofjlfbedjbnaaChk
import Derived.Test.YtoofjlfbedjbnaaChb
namespace Go.Proofs.Ytoofjlfbedjbnaa
open Go.ChangeShapes Go.WideShapes Go.ChangeAt Go.RowKit Go.Deep
set_option linter.unusedVariables false

structure RI (V : World) (h' : Int) (yl : Nat) (ys xs zs rs : List Int) (ℓ3 ℓ5 ℓ6 ℓ11 ℓ12 ℓ13 ℓ14 : Bool) (a1 a2 p1 : Option Addr) (c1 : Nat) (p2 : Option Addr) (l1 u1 l2 u2 b8 b9 : Nat) (w : World) : Prop where
  gb : Below V.heap.size V w
  s1 : ℓ3 = true → ℓ6 = false → Seg .u32 w a1 zs
  s2 : ℓ5 = true → ℓ6 = false → Seg .u32 w a2 rs
  k8 : ℓ11 = true → V.heap.size ≤ b8 ∧ ∃ v0 v1, Bk w b8 #[v0, v1]
  k9 : ℓ12 = true → V.heap.size ≤ b9 ∧ ∃ v0, Bk w b9 #[v0]
  ne : ℓ11 = true → ℓ12 = true → b8 ≠ b9
  ol : ℓ6 = true → OE w l1 u1 p1 ys ∧ OE w l2 u2 p2 xs ∧ V.heap.size ≤ l1 ∧ l1 ≤ u1 ∧ u1 ≤ w.heap.size ∧ V.heap.size ≤ l2 ∧ l2 ≤ u2 ∧ u2 ≤ w.heap.size ∧ (u1 ≤ l2 ∨ u2 ≤ l1)
  d8 : ℓ6 = true → ℓ11 = true → (b8 < l1 ∨ u1 ≤ b8) ∧ (b8 < l2 ∨ u2 ≤ b8)
  d9 : ℓ6 = true → ℓ12 = true → (b9 < l1 ∨ u1 ≤ b9) ∧ (b9 < l2 ∨ u2 ≤ b9)
  r8 : ℓ13 = true → ℓ6 = true ∧ ℓ11 = true ∧ Bk w b8 (orow h' none 0 0)
  r9 : ℓ14 = true → ℓ6 = true ∧ ℓ12 = true ∧ Bk w b9 (irow p1 yl c1)
section
variable {V : World} {h' : Int} {yl : Nat} {ys xs zs rs : List Int} {ℓ3 ℓ5 ℓ6 ℓ11 ℓ12 ℓ13 ℓ14 : Bool} {a1 a2 p1 : Option Addr} {c1 : Nat} {p2 : Option Addr} {l1 u1 l2 u2 b8 b9 : Nat} {w w' : World}
theorem RI.start (hb : Below V.heap.size V w) (a1 a2 p1 : Option Addr) (c1 : Nat) (p2 : Option Addr) (l1 u1 l2 u2 b8 b9 : Nat) : RI V h' yl ys xs zs rs false false false false false false false a1 a2 p1 c1 p2 l1 u1 l2 u2 b8 b9 w :=
  ⟨hb, by simp, by simp, by simp, by simp, by simp, by simp, by simp, by simp, by simp, by simp⟩
theorem RI.below (h : RI V h' yl ys xs zs rs ℓ3 ℓ5 ℓ6 ℓ11 ℓ12 ℓ13 ℓ14 a1 a2 p1 c1 p2 l1 u1 l2 u2 b8 b9 w) (hb : Below w.heap.size w w') : RI V h' yl ys xs zs rs ℓ3 ℓ5 ℓ6 ℓ11 ℓ12 ℓ13 ℓ14 a1 a2 p1 c1 p2 l1 u1 l2 u2 b8 b9 w' where
  gb := h.gb.trans (hb.mono h.gb.size)
  s1 := fun g1 g2 => (h.s1 g1 g2).below hb
  s2 := fun g1 g2 => (h.s2 g1 g2).below hb
  k8 := fun g => ⟨(h.k8 g).1, by obtain ⟨v0, v1, k⟩ := (h.k8 g).2; exact ⟨v0, v1, k.below hb⟩⟩
  k9 := fun g => ⟨(h.k9 g).1, by obtain ⟨v0, k⟩ := (h.k9 g).2; exact ⟨v0, k.below hb⟩⟩
  ne := h.ne
  ol := fun g => by
    obtain ⟨o1, o2, g1, g2, g3, g4, g5, g6, g7⟩ := h.ol g
    have := hb.size
    exact ⟨o1.below hb, o2.below hb, g1, g2, by omega, g4, g5, by omega, g7⟩
  d8 := h.d8
  d9 := h.d9
  r8 := fun g => ⟨(h.r8 g).1, (h.r8 g).2.1, (h.r8 g).2.2.below hb⟩
  r9 := fun g => ⟨(h.r9 g).1, (h.r9 g).2.1, (h.r9 g).2.2.below hb⟩
theorem RI.to1 (h : RI V h' yl ys xs zs rs ℓ3 ℓ5 ℓ6 ℓ11 ℓ12 ℓ13 ℓ14 a1 a2 p1 c1 p2 l1 u1 l2 u2 b8 b9 w) (a : Option Addr) (hs : Seg .u32 w a zs) : RI V h' yl ys xs zs rs true ℓ5 ℓ6 ℓ11 ℓ12 ℓ13 ℓ14 a a2 p1 c1 p2 l1 u1 l2 u2 b8 b9 w :=
  { h with s1 := fun _ _ => hs }
theorem RI.to2 (h : RI V h' yl ys xs zs rs ℓ3 ℓ5 ℓ6 ℓ11 ℓ12 ℓ13 ℓ14 a1 a2 p1 c1 p2 l1 u1 l2 u2 b8 b9 w) (a : Option Addr) (hs : Seg .u32 w a rs) : RI V h' yl ys xs zs rs ℓ3 true ℓ6 ℓ11 ℓ12 ℓ13 ℓ14 a1 a p1 c1 p2 l1 u1 l2 u2 b8 b9 w :=
  { h with s2 := fun _ _ => hs }
theorem RI.sp (h : RI V h' yl ys xs zs rs ℓ3 ℓ5 ℓ6 ℓ11 ℓ12 ℓ13 ℓ14 a1 a2 p1 c1 p2 l1 u1 l2 u2 b8 b9 w) (h6 : ℓ6 = false) (hb : Below w.heap.size w w') (q1 : Option Addr) (e1 : Nat) (q2 : Option Addr) (ho : OE2 w' w.heap.size q1 ys q2 xs) :
    ∃ l1 u1 l2 u2, RI V h' yl ys xs zs rs ℓ3 ℓ5 true ℓ11 ℓ12 ℓ13 ℓ14 a1 a2 q1 e1 q2 l1 u1 l2 u2 b8 b9 w' := by
  obtain ⟨l1, u1, l2, u2, o1, o2, g1, g2, g3, g4, g5, g6, g7⟩ := ho
  have h2 := h.below hb
  have hz := h.gb.size
  refine ⟨l1, u1, l2, u2, h2.gb, by simp, by simp, h2.k8, h2.k9, h2.ne, fun _ => ⟨o1, o2, by omega, g2, g3, by omega, g5, g6, g7⟩, fun _ g => ?_, fun _ g => ?_, fun g => absurd ((h.r8 g).1.symm.trans h6) (by decide), fun g => absurd ((h.r9 g).1.symm.trans h6) (by decide)⟩
  · obtain ⟨v0, v1, k⟩ := (h.k8 g).2
    have := k.lt
    exact ⟨.inl (by omega), .inl (by omega)⟩
  · obtain ⟨v0, k⟩ := (h.k9 g).2
    have := k.lt
    exact ⟨.inl (by omega), .inl (by omega)⟩
theorem RI.al8 (h : RI V h' yl ys xs zs rs ℓ3 ℓ5 ℓ6 ℓ11 ℓ12 ℓ13 ℓ14 a1 a2 p1 c1 p2 l1 u1 l2 u2 b8 b9 w) (h11 : ℓ11 = false) (v0 v1 : Value) (T : TypeId) : RI V h' yl ys xs zs rs ℓ3 ℓ5 ℓ6 true ℓ12 ℓ13 ℓ14 a1 a2 p1 c1 p2 l1 u1 l2 u2 w.heap.size b9 (w.alloc (.cells #[v0, v1] T)) := by
  have h2 := h.below ((Below.refl _ w).alloc (Nat.le_refl _) (.cells #[v0, v1] T))
  refine ⟨h2.gb, h2.s1, h2.s2, fun _ => ⟨h.gb.size, v0, v1, Bk.new _ _ _ _ rfl⟩, h2.k9, fun _ g => ?_, h2.ol, fun g _ => ?_, h2.d9, fun g => absurd ((h.r8 g).2.1.symm.trans h11) (by decide), h2.r9⟩
  · obtain ⟨v, k⟩ := (h.k9 g).2
    have := k.lt
    omega
  · obtain ⟨o1, o2, g1, g2, g3, g4, g5, g6, g7⟩ := h.ol g
    exact ⟨.inr g3, .inr g6⟩
theorem RI.al9 (h : RI V h' yl ys xs zs rs ℓ3 ℓ5 ℓ6 ℓ11 ℓ12 ℓ13 ℓ14 a1 a2 p1 c1 p2 l1 u1 l2 u2 b8 b9 w) (h12 : ℓ12 = false) (v0 : Value) (T : TypeId) : RI V h' yl ys xs zs rs ℓ3 ℓ5 ℓ6 ℓ11 true ℓ13 ℓ14 a1 a2 p1 c1 p2 l1 u1 l2 u2 b8 w.heap.size (w.alloc (.cells #[v0] T)) := by
  have h2 := h.below ((Below.refl _ w).alloc (Nat.le_refl _) (.cells #[v0] T))
  refine ⟨h2.gb, h2.s1, h2.s2, h2.k8, fun _ => ⟨h.gb.size, v0, Bk.new _ _ _ _ rfl⟩, fun g _ => ?_, h2.ol, h2.d8, fun g _ => ?_, h2.r8, fun g => absurd ((h.r9 g).2.1.symm.trans h12) (by decide)⟩
  · obtain ⟨v, v', k⟩ := (h.k8 g).2
    have := k.lt
    omega
  · obtain ⟨o1, o2, g1, g2, g3, g4, g5, g6, g7⟩ := h.ol g
    exact ⟨.inr g3, .inr g6⟩
theorem RI.st8 (h : RI V h' yl ys xs zs rs ℓ3 ℓ5 true true ℓ12 ℓ13 ℓ14 a1 a2 p1 c1 p2 l1 u1 l2 u2 b8 b9 w) : RI V h' yl ys xs zs rs ℓ3 ℓ5 true true ℓ12 true ℓ14 a1 a2 p1 c1 p2 l1 u1 l2 u2 b8 b9 ((w.setCell ⟨b8, 0, none⟩ (.int .i64 h')).setCell ⟨b8, 1, none⟩ (.slice none 0 0)) := by
  obtain ⟨g8, v0, v1, k⟩ := h.k8 rfl
  have hbt : Betw b8 (b8 + 1) w ((w.setCell ⟨b8, 0, none⟩ (.int .i64 h')).setCell ⟨b8, 1, none⟩ (.slice none 0 0)) := ((Betw.refl b8 (b8 + 1) w).setCell (p := ⟨b8, 0, none⟩) (Nat.le_refl _) (Nat.lt_succ_self _) _).setCell (p := ⟨b8, 1, none⟩) (Nat.le_refl _) (Nat.lt_succ_self _) _
  have kk : Bk ((w.setCell ⟨b8, 0, none⟩ (.int .i64 h')).setCell ⟨b8, 1, none⟩ (.slice none 0 0)) b8 (orow h' none 0 0) := (k.set 0 (.int .i64 h') (by simp) (cs' := #[.int .i64 h', v1]) rfl).set 1 _ (by simp) rfl
  obtain ⟨e1, e2⟩ := h.d8 rfl rfl
  obtain ⟨o1, o2, g1, g2, g3, g4, g5, g6, g7⟩ := h.ol rfl
  have hz := hbt.size
  refine ⟨h.gb.trans (hbt.below g8 h.gb.size), by simp, by simp, fun _ => ⟨g8, _, _, kk⟩, fun g => ?_, h.ne, fun _ => ⟨o1.betw hbt (by omega), o2.betw hbt (by omega), g1, g2, by omega, g4, g5, by omega, g7⟩, h.d8, h.d9, fun _ => ⟨rfl, rfl, kk⟩, fun g => ?_⟩
  · obtain ⟨g9, v, k9⟩ := h.k9 g
    have := h.ne rfl g
    exact ⟨g9, v, k9.betw hbt (by omega)⟩
  · obtain ⟨g6', g', k9⟩ := h.r9 g
    have := h.ne rfl g'
    exact ⟨g6', g', k9.betw hbt (by omega)⟩
theorem RI.st9 (h : RI V h' yl ys xs zs rs ℓ3 ℓ5 true ℓ11 true ℓ13 ℓ14 a1 a2 p1 c1 p2 l1 u1 l2 u2 b8 b9 w) : RI V h' yl ys xs zs rs ℓ3 ℓ5 true ℓ11 true ℓ13 true a1 a2 p1 c1 p2 l1 u1 l2 u2 b8 b9 (w.setCell ⟨b9, 0, none⟩ (.slice p1 yl c1)) := by
  obtain ⟨g9, v0, k⟩ := h.k9 rfl
  have hbt : Betw b9 (b9 + 1) w (w.setCell ⟨b9, 0, none⟩ (.slice p1 yl c1)) := (Betw.refl b9 (b9 + 1) w).setCell (p := ⟨b9, 0, none⟩) (Nat.le_refl _) (Nat.lt_succ_self _) _
  have kk : Bk (w.setCell ⟨b9, 0, none⟩ (.slice p1 yl c1)) b9 (irow p1 yl c1) := k.set 0 _ (by simp) rfl
  obtain ⟨e1, e2⟩ := h.d9 rfl rfl
  obtain ⟨o1, o2, g1, g2, g3, g4, g5, g6, g7⟩ := h.ol rfl
  have hz := hbt.size
  refine ⟨h.gb.trans (hbt.below g9 h.gb.size), by simp, by simp, fun g => ?_, fun _ => ⟨g9, _, kk⟩, h.ne, fun _ => ⟨o1.betw hbt (by omega), o2.betw hbt (by omega), g1, g2, by omega, g4, g5, by omega, g7⟩, h.d8, h.d9, fun g => ?_, fun _ => ⟨rfl, rfl, kk⟩⟩
  · obtain ⟨g8, v, v', k8⟩ := h.k8 g
    have := h.ne g rfl
    exact ⟨g8, v, v', k8.betw hbt (by omega)⟩
  · obtain ⟨g6', g', k8⟩ := h.r8 g
    have := h.ne g' rfl
    exact ⟨g6', g', k8.betw hbt (by omega)⟩
/-- Two ends in variables of their own, a list of words beside them. -/
def BF (V W : World) (b8 b9 : Nat) (h' : Int) (p1 : Option Addr) (yl c1 : Nat) (ys : List Int) (p2 : Option Addr) (xs : List Int) : Prop :=
  Below V.heap.size V W ∧ Bk W b8 (orow h' none 0 0) ∧ Bk W b9 (irow p1 yl c1) ∧ V.heap.size ≤ b8 ∧ V.heap.size ≤ b9 ∧ b8 ≠ b9 ∧ ∃ l1 u1 l2 u2, OE W l1 u1 p1 ys ∧ OE W l2 u2 p2 xs ∧ V.heap.size ≤ l1 ∧ l1 ≤ u1 ∧ u1 ≤ W.heap.size ∧ V.heap.size ≤ l2 ∧ l2 ≤ u2 ∧ u2 ≤ W.heap.size ∧ (u1 ≤ l2 ∨ u2 ≤ l1) ∧ (b8 < l1 ∨ u1 ≤ b8) ∧ (b8 < l2 ∨ u2 ≤ b8) ∧ (b9 < l1 ∨ u1 ≤ b9) ∧ (b9 < l2 ∨ u2 ≤ b9)
theorem RI.fin (h : RI V h' yl ys xs zs rs ℓ3 ℓ5 true true true true true a1 a2 p1 c1 p2 l1 u1 l2 u2 b8 b9 w) : BF V w b8 b9 h' p1 yl c1 ys p2 xs := by
  obtain ⟨o1, o2, g1, g2, g3, g4, g5, g6, g7⟩ := h.ol rfl
  exact ⟨h.gb, (h.r8 rfl).2.2, (h.r9 rfl).2.2, (h.k8 rfl).1, (h.k9 rfl).1, h.ne rfl rfl, l1, u1, l2, u2, o1, o2, g1, g2, g3, g4, g5, g6, g7, (h.d8 rfl rfl).1, (h.d8 rfl rfl).2, (h.d9 rfl rfl).1, (h.d9 rfl rfl).2⟩
end
end Go.Proofs.Ytoofjlfbedjbnaa
