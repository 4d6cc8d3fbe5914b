
/-
  The partition of a name: both sides. Conditions: the lists lie in memory, the lengths are at most 1048576; the program's table of extras holds what the program's text lays.
-/
import Derived.Test.YtmnoghhdkdjnmaaGreatDoorBas
import Derived.Test.YtmnoghhdkdjnmaaGreatDoorLsw
import Derived.Test.YtmnoghhdkdjnmaaGreatDoorPev
namespace Go.Proofs.YtmnoghhdkdjnmaaGreatDoor
open Go.ChangeShapes Go.WideShapes Go.ChangeAt Go.RowKit Go.Deep Go.Joins
set_option linter.unusedVariables false

/-- The first of which it holds. -/
def FI (n : Nat) (P : Nat → Bool) (r : Int) : Prop := (r = -1 ∧ ∀ i, i < n → P i = false) ∨ ∃ k : Nat, r = (k : Int) ∧ k < n ∧ P k = true ∧ ∀ i, i < k → P i = false
theorem FI.unique {n : Nat} {P : Nat → Bool} {r s : Int} (h : FI n P r) (g : FI n P s) : r = s := by
  rcases h with ⟨rfl, h⟩ | ⟨k, rfl, hk, h1, h2⟩ <;> rcases g with ⟨rfl, g⟩ | ⟨j, rfl, hj, g1, g2⟩
  · rfl
  · rw [h j hj] at g1; cases g1
  · rw [g k hk] at h1; cases h1
  · rcases Nat.lt_trichotomy k j with c | c | c
    · rw [g2 k c] at h1; cases h1
    · rw [c]
    · rw [h2 j c] at g1; cases g1
/-- The first partition of which it holds, where the tables are sound. -/
def FR (t : Tb) (P : Pt → Bool) (r : Int) : Prop := (¬ Sd t ∧ r = -1) ∨ (Sd t ∧ FI t.ps.length (fun i => P (t.ps.getD i pt0)) r)
theorem FR.unique {t : Tb} {P : Pt → Bool} {r s : Int} (h : FR t P r) (g : FR t P s) : r = s := by
  rcases h with ⟨h, rfl⟩ | ⟨h, h1⟩ <;> rcases g with ⟨g, rfl⟩ | ⟨g, g1⟩
  · rfl
  · exact absurd g h
  · exact absurd h g
  · exact h1.unique g1
theorem t_named (y : Rw) (nm : ByteArray) (B : Nat) (q : Bool) (w : World) (hc : w.cell? ⟨B, 0, none⟩ = some (.string nm)) (hq : Hid (strEq y.nm nm = q)) : Calls Tryz.prog 124 #[rwV y, .pointer (some ⟨B, 0, none⟩)] w fun e w' => e = .returned (.bool q) ∧ Below w.heap.size w w' := by
  obtain ⟨sm, en, kd, ms, wa, wn, wc⟩ := y
  simp only [rwV] at *
  have HB0 : Hid (Below w.heap.size w (w.alloc (.cells #[.string sm, .int .i64 en, .int .i64 kd, .int .i64 ms, .slice wa wn wc] 69))) := (Below.refl _ _).alloc (Nat.le_refl _) _
  have hc2 : (w.alloc (.cells #[.string sm, .int .i64 en, .int .i64 kd, .int .i64 ms, .slice wa wn wc] 69)).cell? ⟨B, 0, none⟩ = some (.string nm) := kept_cell HB0.out hc
  go_enter Tryz.func124, Tryz.ntmps124
  go_wp2
  go_ret
  exact ⟨ret_bool hq.out, HB0.out⟩
set_option maxRecDepth 20000 in
theorem e_named : ∀ args (v : World), (callFunc 124 args).run Tryz.prog v = .ok (.enter 124 args) v := enters_of Tryz.func124 (by kernel_rfl) rfl
set_option maxRecDepth 40000 in
set_option maxHeartbeats 8000000 in
theorem tab_named (t : Tb) (a : Ad) (nm : ByteArray) (w : World) (hm : TM 0 w t a) (hw : TW t a) :
    Calls Tryz.prog 103 #[tbV t a, .string nm] w fun e w' => (∃ r : Int, e = .returned (.int .i64 r) ∧ ((r = -1 ∧ ∀ i, i < t.ps.length → strEq (t.ps.getD i pt0).nm nm = false) ∨ ∃ k : Nat, r = (k : Int) ∧ k < t.ps.length ∧ strEq (t.ps.getD k pt0).nm nm = true ∧ ∀ i, i < k → strEq (t.ps.getD i pt0).nm nm = false)) ∧ Below w.heap.size w w' := by
  have HB0 : Hid (Below w.heap.size w ((w.alloc (.cells (tbA t a) 43)).alloc (.cells #[.string nm] 9))) := ((Below.refl _ _).alloc (Nat.le_refl _) _).alloc (by simp) _
  have HX0 : Hid (TBx ((w.alloc (.cells (tbA t a) 43)).alloc (.cells #[.string nm] 9)) w.heap.size t a) := (TBx.new w t a _ rfl).below ((Below.refl _ _).alloc (Nat.le_refl _) _)
  have HN0 : Hid (CellsAt ((w.alloc (.cells (tbA t a) 43)).alloc (.cells #[.string nm] 9)) (w.heap.size + 1) 0 [.string nm]) := CellsAt.new _ [.string nm] _ _ (by simp)
  have k15 : ((w.alloc (.cells (tbA t a) 43)).alloc (.cells #[.string nm] 9)).cell? ⟨w.heap.size, 15, none⟩ = some (.slice a.pa a.pn a.pc) := HX0.out.cell 15 rfl
  have hP := hm.p.below HB0.out
  have HL : Hid (t.ps.length = a.pn) := hw.pl
  have HI : Hid (Calls Tryz.prog 123 #[.slice a.pa a.pn a.pc, .func (.func 124) #[] #[.pointer (some ⟨w.heap.size + 1, 0, none⟩)]] ((w.alloc (.cells (tbA t a) 43)).alloc (.cells #[.string nm] 9)) fun e w' => (∃ r : Int, e = .returned (.int .i64 r) ∧ ((r = -1 ∧ ∀ i, i < a.pn → strEq (a.Y i).nm nm = false) ∨ ∃ k : Nat, r = (k : Int) ∧ k < a.pn ∧ strEq (a.Y k).nm nm = true ∧ ∀ i, i < k → strEq (a.Y i).nm nm = false)) ∧ Below ((w.alloc (.cells (tbA t a) 43)).alloc (.cells #[.string nm] 9)).heap.size ((w.alloc (.cells (tbA t a) 43)).alloc (.cells #[.string nm] 9)) w') :=
    part_index a.pa a.pc a.pn a.Y (fun i => strEq (a.Y i).nm nm) 124 #[.pointer (some ⟨w.heap.size + 1, 0, none⟩)] _ hP.1.seg hw.pb e_named (fun i hi X hX => t_named (a.Y i) nm (w.heap.size + 1) _ X (cell0 (HN0.out.below hX) 0 rfl) rfl)
  have HY : Hid (∀ i, i < a.pn → strEq (a.Y i).nm nm = strEq (t.ps.getD i pt0).nm nm) := fun i hi => by rw [(hP.2 i hi).nm]
  clear hm hw hP HN0 HX0
  go_enter Tryz.func103, Tryz.ntmps103
  go_wp2_with fail
  refine Calls.mono HI.out ?_
  rintro e w2 ⟨⟨r, rfl, hr⟩, hb2⟩
  have HB2 : Hid (Below w.heap.size w w2) := HB0.out.trans (hb2.mono HB0.out.size)
  have HF : Hid ((r = -1 ∧ ∀ i, i < t.ps.length → strEq (t.ps.getD i pt0).nm nm = false) ∨ ∃ k : Nat, r = (k : Int) ∧ k < t.ps.length ∧ strEq (t.ps.getD k pt0).nm nm = true ∧ ∀ i, i < k → strEq (t.ps.getD i pt0).nm nm = false) := by
    rcases hr with ⟨rfl, h⟩ | ⟨k, rfl, hk, h1, h2⟩
    · exact .inl ⟨rfl, fun i hi => by rw [HL.out] at hi; exact (HY.out i hi).symm.trans (h i hi)⟩
    · exact .inr ⟨k, rfl, by rw [HL.out]; exact hk, (HY.out k hk).symm.trans h1, fun i hi => (HY.out i (by omega)).symm.trans (h2 i hi)⟩
  clear hr hb2 HI HB0 HY k15
  go_wp2
  go_ret
  exact ⟨⟨_, rfl, HF.out⟩, HB2.out⟩
end Go.Proofs.YtmnoghhdkdjnmaaGreatDoor
