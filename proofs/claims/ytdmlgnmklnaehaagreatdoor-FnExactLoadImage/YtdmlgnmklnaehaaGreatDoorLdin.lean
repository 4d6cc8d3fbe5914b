
/-
  What the program's LoadImage returns. Conditions: tables and words lie in memory; the program's table of extras lies as the text lays it.
-/
import Derived.Test.YtdmlgnmklnaehaaGreatDoorBas
import Derived.Test.YtdmlgnmklnaehaaGreatDoorLdh
namespace Go.Proofs.YtdmlgnmklnaehaaGreatDoor
open Go.ChangeShapes Go.WideShapes Go.ChangeAt Go.RowKit Go.Deep Go.Joins
set_option linter.unusedVariables false

set_option maxRecDepth 40000 in
set_option maxHeartbeats 16000000 in
theorem impl_ld_n (t : Tb) (a : Ad) (x : Int) (wa : Option Addr) (wc n : Nat) (zs : List Int) (w : World) (hm : TM 0 w t a) (hw : TW t a) (hs : TS a) (he : TabE w) (hpc : a.pn ≤ a.pc) (hg : Seg .u32 w wa zs) (hl : zs.length = n) (hn : n ≤ 1048576) (h256 : 256 < n) :
    Calls Tryz.prog 9 #[tbV t a, .int .i64 x, .slice wa n wc] w (LdAns w 0 (fun _ => []) false) := by
  have HB0 : Hid (Below w.heap.size w (w.alloc (.cells (tbA t a) 43))) := (Below.refl _ _).alloc (Nat.le_refl _) _
  have HX0 : Hid (TBx (w.alloc (.cells (tbA t a) 43)) w.heap.size t a) := TBx.new w t a _ rfl
  have h256' : decide ((256 : Int) < (n : Int)) = true := decide_eq_true (by omega)
  clear hm hw hs he hpc hg hl
  go_enter Tryz.func9, Tryz.ntmps9
  go_wp2
  go_ret2
  exact ⟨_, _, rfl, HB0.out.alloc HB0.out.size _, brows_nil _ _ _ _ _⟩
end Go.Proofs.YtdmlgnmklnaehaaGreatDoor
