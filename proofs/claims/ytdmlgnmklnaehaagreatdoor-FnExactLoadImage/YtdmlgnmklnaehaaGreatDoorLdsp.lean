
/-
  What the specification's LoadImage returns. Conditions: tables and words lie in memory.
-/
import Derived.Test.YtdmlgnmklnaehaaGreatDoorBas
import Derived.Test.YtdmlgnmklnaehaaGreatDoorLds
namespace Go.Proofs.YtdmlgnmklnaehaaGreatDoor
open Go.ChangeShapes Go.WideShapes Go.ChangeAt Go.RowKit Go.Deep Go.Joins
set_option linter.unusedVariables false

set_option maxRecDepth 40000 in
set_option maxHeartbeats 16000000 in
theorem spec_ld_p (t : Tb) (a : Ad) (x : Int) (wa : Option Addr) (wc n : Nat) (zs : List Int) (w : World) (hm : TM 0 w t a) (hw : TW t a) (hs : TS a) (hg : Seg .u32 w wa zs) (hl : zs.length = n) (hn : n ≤ 1048576) (hq : Sd t) (hx : ¬ (0 ≤ x ∧ x < (a.pn : Int))) :
    Calls Tryz.prog 6 #[tbV t a, .int .i64 x, .slice wa n wc] w (LdAns w 0 (fun _ => []) false) := by
  have HQ1 : true = true ↔ Sd t := ⟨fun _ => hq, fun _ => rfl⟩
  have HIN : Hid (inr x 0 ((a.pn : Int) - 1) = false) := by
    show inr x 0 ((a.pn : Int) - 1) = false
    unfold inr
    rw [← Bool.not_eq_true, Bool.and_eq_true, decide_eq_true_eq, decide_eq_true_eq]
    omega
  have HB0 : Hid (Below w.heap.size w ((w.alloc (.cells (tbA t a) 43)).alloc (.cells #[] 82))) := ((Below.refl _ _).alloc (Nat.le_refl _) _).alloc (by simp) _
  have HX0 : Hid (TBx ((w.alloc (.cells (tbA t a) 43)).alloc (.cells #[] 82)) w.heap.size t a) := (TBx.new w t a _ rfl).below ((Below.refl _ _).alloc (Nat.le_refl _) _)
  have HO0 : Hid (((w.alloc (.cells (tbA t a) 43)).alloc (.cells #[] 82)).ownsRow (w.heap.size + 1) 82 1 (.slice (some ⟨w.heap.size + 1, 0, none⟩) 0 0) 0 []) := own_empty (w.alloc (.cells (tbA t a) 43)) _ _ (by simp)
  have HZ0 : Hid (w.heap.size + 1 < ((w.alloc (.cells (tbA t a) 43)).alloc (.cells #[] 82)).heap.size) := by show _ < _; simp
  have HSP : Hid (Calls Tryz.prog 26 #[tbV t a] ((w.alloc (.cells (tbA t a) 43)).alloc (.cells #[] 82)) fun e w' => e = .returned (.bool true) ∧ Below ((w.alloc (.cells (tbA t a) 43)).alloc (.cells #[] 82)).heap.size ((w.alloc (.cells (tbA t a) 43)).alloc (.cells #[] 82)) w') := spec_sound t a true _ (hm.below HB0.out) hw hs HQ1
  have hpn : a.pn ≤ 1048576 := hs.p
  clear HQ1 hq
  go_enter Tryz.func6, Tryz.ntmps6
  go_wp2_with (first | (refine wpList_load_row rfl 43 (.tmp 3) rfl w.heap.size rfl 43 (tbA t a) (0, 0) _ HX0.out Tryz.underlying43 rfl (by kernel_rfl) ?_) | fail)
  refine Calls.mono HSP.out ?_
  rintro e w1 ⟨rfl, hb1⟩
  have HB1 : Hid (Below w.heap.size w w1) := HB0.out.trans (hb1.mono HB0.out.size)
  have HX1 : Hid (TBx w1 w.heap.size t a) := HX0.out.below hb1
  have HO1 : Hid (w1.ownsRow (w.heap.size + 1) 82 1 (.slice (some ⟨w.heap.size + 1, 0, none⟩) 0 0) 0 []) := ownsRow_below HO0.out hb1
  have HZ1 : Hid (w.heap.size + 1 < w1.heap.size) := Nat.lt_of_lt_of_le HZ0.out hb1.size
  clear hb1 HB0 HX0 HO0 HZ0 HSP
  have k15 : w1.cell? ⟨w.heap.size, 15, none⟩ = some (.slice a.pa a.pn a.pc) := HX1.out.cell 15 rfl
  have hw9 : IntKind.i64.wrap ((a.pn : Int) - 1) = (a.pn : Int) - 1 := by rw [IntKind.wrap_i64]; omega
  go_wp2_with fail
  refine Calls.mono (in_any x 0 ((a.pn : Int) - 1) _) ?_
  rintro e w2 ⟨rfl, rfl⟩
  rw [HIN.out]
  go_wp2
  go_ret2
  exact ⟨_, _, rfl, HB1.out, brows_nil _ _ _ _ _⟩
end Go.Proofs.YtdmlgnmklnaehaaGreatDoor
