
/-
  The specification's copy of a list of words, its SendOn and its RecvOn: what the plain functions say, in memory of its own. Conditions: the words read as words, at most 1048576 of them.
-/
import Derived.Test.YtobgaakcinjnaaaProg
import Derived.Test.YtobgaakcinjnaaaCht
import Derived.Test.YtobgaakcinjnaaaOnu
namespace Go.Proofs.Ytobgaakcinjnaaa
open Go.ChangeShapes Go.WideShapes Go.ChangeAt Go.RowKit Go.Deep
set_option linter.unusedVariables false

/-- What SendOn answers: the head, the words, the code. -/
def sndF (k f t d h n : Int) (zs : List Int) (x : Int) : Int × List Int × Int :=
  if outOk k f t d h n = true then (if k = 0 then (0, [x], 0) else if d - h - n = 0 then (h, zs, 2) else (h, zs ++ [x], 0)) else (0, [], 3)
theorem OE.of_own {w : World} {B lo hi : Nat} {zs : List Int} (h : Own .u32 w B zs) (h1 : lo ≤ B) (h2 : B < hi) : OE w lo hi (some ⟨B, 0, none⟩) zs := ⟨B, ON.own h h1 h2⟩
theorem own_lit (k : IntKind) (w : World) (T : TypeId) (ys : List Int) : Own k (w.alloc (.cells (ys.map (Value.int k)).toArray T)) w.heap.size ys := by
  refine ⟨by simp, fun i hi => ?_, fun i => by simp⟩
  simp [hi, List.getD]
theorem snd_len {k f t d h : Int} {n : Nat} {zs : List Int} {x h' : Int} {ys : List Int} {cd : Int} (g : sndF k f t d h (n : Int) zs x = (h', ys, cd)) (hl : zs.length = n) (hn : n ≤ 1048576) : ys.length ≤ 1048576 := by
  unfold sndF at g
  split at g
  · rename_i hq
    split at g
    · injection g with g1 g2; injection g2 with g2 g3
      rw [← g2]; simp
    · rename_i hk
      split at g
      · injection g with g1 g2; injection g2 with g2 g3
        rw [← g2]; omega
      · injection g with g1 g2; injection g2 with g2 g3
        have h8 : (n : Int) ≤ 8 := by
          rcases outOk_k hq with ⟨h1, _⟩ | ⟨_, h2, h3, h4, h5⟩
          · exact absurd h1 hk
          · unfold outOk at hq
            rw [if_neg hk] at hq
            simp at hq
            omega
        rw [← g2]; simp; omega
  · injection g with g1 g2; injection g2 with g2 g3
    rw [← g2]; simp
end Go.Proofs.Ytobgaakcinjnaaa
