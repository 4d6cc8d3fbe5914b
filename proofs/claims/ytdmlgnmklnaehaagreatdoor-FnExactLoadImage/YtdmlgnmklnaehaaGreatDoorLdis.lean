
/-
  What the program's LoadImage returns. Conditions: tables and words lie in memory; the program's table of extras lies as the text lays it.
-/
import Derived.Test.YtdmlgnmklnaehaaGreatDoorBas
import Derived.Test.YtdmlgnmklnaehaaGreatDoorLdh
namespace Go.Proofs.YtdmlgnmklnaehaaGreatDoor
open Go.ChangeShapes Go.WideShapes Go.ChangeAt Go.RowKit Go.Deep Go.Joins
set_option linter.unusedVariables false

set_option maxRecDepth 40000 in
set_option maxHeartbeats 16000000 in
theorem impl_ld_s (t : Tb) (a : Ad) (x : Int) (wa : Option Addr) (wc n : Nat) (zs : List Int) (w : World) (hm : TM 0 w t a) (hw : TW t a) (hs : TS a) (he : TabE w) (hpc : a.pn ≤ a.pc) (hg : Seg .u32 w wa zs) (hl : zs.length = n) (hn : n ≤ 1048576) (h256 : n ≤ 256) (hq : ¬ Sd t) :
    Calls Tryz.prog 9 #[tbV t a, .int .i64 x, .slice wa n wc] w (LdAns w 0 (fun _ => []) false) := by
  have HQ1 : false = true ↔ Sd t := ⟨fun h => (by cases h), fun h => absurd h hq⟩
  have HB0 : Hid (Below w.heap.size w (w.alloc (.cells (tbA t a) 43))) := (Below.refl _ _).alloc (Nat.le_refl _) _
  have HX0 : Hid (TBx (w.alloc (.cells (tbA t a) 43)) w.heap.size t a) := TBx.new w t a _ rfl
  have HSP : Hid (Calls Tryz.prog 36 #[tbV t a] (w.alloc (.cells (tbA t a) 43)) fun e w' => e = .returned (.bool false) ∧ Below (w.alloc (.cells (tbA t a) 43)).heap.size (w.alloc (.cells (tbA t a) 43)) w') := impl_sound t a false _ (hm.below HB0.out) hw hs (he.below HB0.out) hpc HQ1
  have hpn : a.pn ≤ 1048576 := hs.p
  have h256' : decide ((256 : Int) < (n : Int)) = false := decide_eq_false (by omega)
  clear HQ1 hq hm hw hs he hpc hg hl
  go_enter Tryz.func9, Tryz.ntmps9
  go_wp2_with (first | (refine wpList_load_rowG rfl 43 (.tmp 3) rfl w.heap.size rfl 43 (tbA t a) (0, 0) _ HX0.out Tryz.underlying43 rfl (by kernel_rfl) ?_) | fail)
  refine Calls.mono HSP.out ?_
  rintro e w1 ⟨rfl, hb1⟩
  have HB1 : Hid (Below w.heap.size w w1) := HB0.out.trans (hb1.mono HB0.out.size)
  have HX1 : Hid (TBx w1 w.heap.size t a) := HX0.out.below hb1
  clear hb1 HB0 HX0 HSP
  go_wp2
  go_ret2
  exact ⟨_, _, rfl, HB1.out.alloc HB1.out.size _, brows_nil _ _ _ _ _⟩
end Go.Proofs.YtdmlgnmklnaehaaGreatDoor
