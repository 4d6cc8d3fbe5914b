
/-
  Work is added to work through a pointer. Conditions: the pointer leads to a block that holds work.
-/
import Derived.Test.YtnifidijheeebaaGreatDoorBas
import Derived.Test.YtnifidijheeebaaGreatDoorWks
import Derived.Test.YtnifidijheeebaaGreatDoorGen
namespace Go.Proofs.YtnifidijheeebaaGreatDoor
open Go.ChangeShapes Go.WideShapes Go.ChangeAt Go.RowKit Go.Deep
set_option linter.unusedVariables false

theorem Bk.dr {w : World} {b : Nat} {cs : Array Value} (h : Bk w b cs) : Bk w.drew b cs := ⟨h.lt, h.cell, h.free⟩
set_option maxRecDepth 20000 in
set_option maxHeartbeats 4000000 in
theorem impl_addw (f s c r f' s' c' r' : Int) (B : Nat) (w : World) (hb : Bk w B (wkr f s c r)) :
    Calls Tryz.prog 98 #[.pointer (some ⟨B, 0, none⟩), wkv f' s' c' r'] w fun e w' => e = .returned (.tuple #[]) ∧ Bk w' B (wkr (wrap64 (f + f')) (wrap64 (s + s')) (wrap64 (c + c')) (wrap64 (r + r'))) ∧ Below B w w' := by
  have hlt : B < w.heap.size := hb.lt
  have HN : Hid (Bk (w.alloc (.cells (wkr f' s' c' r') 38)) w.heap.size (wkr f' s' c' r')) := Bk.new w _ _ _ rfl
  have HB : Hid (Bk (w.alloc (.cells (wkr f' s' c' r') 38)) B (wkr f s c r)) := hb.alloc _
  have HL : Hid (Below B w (w.alloc (.cells (wkr f' s' c' r') 38))) := (Below.refl _ _).alloc (by omega) _
  have hne : ¬ (w.heap.size = B) := by omega
  have hne' : ¬ (B = w.heap.size) := by omega
  clear hb
  go_enter Tryz.func98, Tryz.ntmps98
  obtain ⟨N, hN⟩ : ∃ N, w.heap.size = N := ⟨_, rfl⟩
  rw [hN] at HN hne hne' hlt
  go_wp2
  try rw [hN]
  clear hN
  revert HN HB HL
  generalize w.alloc (.cells (wkr f' s' c' r') 38) = V0
  intro HB HL HN
  have c0 := HB.out.cell 0 _ rfl
  have d0 := HN.out.cell 0 _ rfl
  have z0 := HB.out.free 0
  go_region
  have HB' : Hid (Bk (V0.setCell ⟨B, 0, none⟩ (.int .i64 (wrap64 (f + f')))).drew B (wkr (wrap64 (f + f')) s c r)) := (HB.out.set 0 _ (by simp) rfl).dr
  have HN' : Hid (Bk (V0.setCell ⟨B, 0, none⟩ (.int .i64 (wrap64 (f + f')))).drew N (wkr f' s' c' r')) := (HN.out.other _ _ _ hne').dr
  have HL' : Hid (Below B w (V0.setCell ⟨B, 0, none⟩ (.int .i64 (wrap64 (f + f')))).drew) := (HL.out.setCell (Nat.le_refl _) _).drew
  clear HB HN HL c0 d0 z0
  revert HB' HN' HL'
  generalize (V0.setCell ⟨B, 0, none⟩ (.int .i64 (wrap64 (f + f')))).drew = V1
  intro HB HN HL
  have c1 := HB.out.cell 1 _ rfl
  have d1 := HN.out.cell 1 _ rfl
  have z1 := HB.out.free 1
  go_wp2
  go_region
  have HB' : Hid (Bk (V1.setCell ⟨B, 1, none⟩ (.int .i64 (wrap64 (s + s')))).drew B (wkr (wrap64 (f + f')) (wrap64 (s + s')) c r)) := (HB.out.set 1 _ (by simp) rfl).dr
  have HN' : Hid (Bk (V1.setCell ⟨B, 1, none⟩ (.int .i64 (wrap64 (s + s')))).drew N (wkr f' s' c' r')) := (HN.out.other _ _ _ hne').dr
  have HL' : Hid (Below B w (V1.setCell ⟨B, 1, none⟩ (.int .i64 (wrap64 (s + s')))).drew) := (HL.out.setCell (Nat.le_refl _) _).drew
  clear HB HN HL c1 d1 z1
  revert HB' HN' HL'
  generalize (V1.setCell ⟨B, 1, none⟩ (.int .i64 (wrap64 (s + s')))).drew = V2
  intro HB HN HL
  have c2 := HB.out.cell 2 _ rfl
  have d2 := HN.out.cell 2 _ rfl
  have z2 := HB.out.free 2
  go_wp2
  go_region
  have HB' : Hid (Bk (V2.setCell ⟨B, 2, none⟩ (.int .i64 (wrap64 (c + c')))).drew B (wkr (wrap64 (f + f')) (wrap64 (s + s')) (wrap64 (c + c')) r)) := (HB.out.set 2 _ (by simp) rfl).dr
  have HN' : Hid (Bk (V2.setCell ⟨B, 2, none⟩ (.int .i64 (wrap64 (c + c')))).drew N (wkr f' s' c' r')) := (HN.out.other _ _ _ hne').dr
  have HL' : Hid (Below B w (V2.setCell ⟨B, 2, none⟩ (.int .i64 (wrap64 (c + c')))).drew) := (HL.out.setCell (Nat.le_refl _) _).drew
  clear HB HN HL c2 d2 z2
  revert HB' HN' HL'
  generalize (V2.setCell ⟨B, 2, none⟩ (.int .i64 (wrap64 (c + c')))).drew = V3
  intro HB HN HL
  have c3 := HB.out.cell 3 _ rfl
  have d3 := HN.out.cell 3 _ rfl
  have z3 := HB.out.free 3
  go_wp2
  go_region
  have HB' : Hid (Bk (V3.setCell ⟨B, 3, none⟩ (.int .i64 (wrap64 (r + r')))).drew B (wkr (wrap64 (f + f')) (wrap64 (s + s')) (wrap64 (c + c')) (wrap64 (r + r')))) := (HB.out.set 3 _ (by simp) rfl).dr
  have HN' : Hid (Bk (V3.setCell ⟨B, 3, none⟩ (.int .i64 (wrap64 (r + r')))).drew N (wkr f' s' c' r')) := (HN.out.other _ _ _ hne').dr
  have HL' : Hid (Below B w (V3.setCell ⟨B, 3, none⟩ (.int .i64 (wrap64 (r + r')))).drew) := (HL.out.setCell (Nat.le_refl _) _).drew
  clear HB HN HL c3 d3 z3
  revert HB' HN' HL'
  generalize (V3.setCell ⟨B, 3, none⟩ (.int .i64 (wrap64 (r + r')))).drew = V4
  intro HB HN HL
  go_wp2
  refine bodyPost_end (v := .tuple #[]) (by simp [results, Tryz.results98, go_sem]) rfl ⟨rfl, HB.out, HL.out⟩
end Go.Proofs.YtnifidijheeebaaGreatDoor
