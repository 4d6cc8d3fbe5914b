
/-
  A guest that an answer brought lies in a variable of its own: plain facts on worlds. No conditions but those that each fact names.
-/
import Derived.Test.YtjlhkjiccibgdaaBas
import Derived.Test.YtjlhkjiccibgdaaProg
import Derived.Test.YtjlhkjiccibgdaaPoi
import Derived.Test.YtjlhkjiccibgdaaGop
namespace Go.Proofs.Ytjlhkjiccibgdaa
open Go.ChangeShapes Go.WideShapes Go.ChangeAt Go.RowKit Go.Deep
set_option linter.unusedVariables false

def PSF (w1 V : World) (k : Nat) (ra ma : Option Addr) (rs : List Int) (rl rc : Nat) (pc : Int) (n mc : Nat) (D : Nat → List Int) : Prop :=
  Below w1.heap.size w1 V ∧ Bk V k #[.slice ra rl rc, .int .u32 pc, .slice ma n mc] ∧ XGSeg V ra ma rs n D ∧ w1.heap.size ≤ k
theorem psf_new {w1 w7 : World} {lo hi : Nat} {ra ma : Option Addr} {rs : List Int} {rl rc : Nat} {pc : Int} {n mc : Nat} {D : Nat → List Int} (hb : Below w1.heap.size w1 w7) (ho : Sep w7 lo hi ra ma rs n D) (T : TypeId) : PSF w1 (w7.alloc (.cells #[.slice ra rl rc, .int .u32 pc, .slice ma n mc] T)) w7.heap.size ra ma rs rl rc pc n mc D :=
  ⟨hb.alloc hb.size _, Bk.new w7 _ T w7.heap.size rfl, (ho.below ((Below.refl _ _).alloc (Nat.le_refl _) _)).seg, hb.size⟩
theorem psf_set {w1 w7 : World} {k lo hi : Nat} {ra ma : Option Addr} {rs : List Int} {rl rc : Nat} {pc : Int} {n mc : Nat} {D : Nat → List Int} (hb : Below w1.heap.size w1 w7) (hV : Bk w7 k #[.slice none 0 0, .int .u32 0, .slice none 0 0]) (hk : w1.heap.size ≤ k) (ho : Sep w7 lo hi ra ma rs n D) (hlo : k < lo) :
    PSF w1 (((w7.setCell ⟨k, 0, none⟩ (.slice ra rl rc)).setCell ⟨k, 1, none⟩ (.int .u32 pc)).setCell ⟨k, 2, none⟩ (.slice ma n mc)) k ra ma rs rl rc pc n mc D := by
  have hbt := (((Betw.refl k (k + 1) w7).setCell (p := ⟨k, 0, none⟩) (by simp) (by simp) (.slice ra rl rc)).setCell (p := ⟨k, 1, none⟩) (by simp) (by simp) (.int .u32 pc)).setCell (p := ⟨k, 2, none⟩) (by simp) (by simp) (.slice ma n mc)
  exact ⟨hb.trans (hbt.below hk hb.size), ((hV.set 0 _ (by simp) rfl).set 1 _ (by simp) rfl).set 2 _ (by simp) rfl, (ho.betw hbt (.inr (by omega))).seg, hk⟩
end Go.Proofs.Ytjlhkjiccibgdaa
