
/-
  One op of a device by the program: what the plain function says. Conditions: the kind is one of the three, the device lies in a block of its own.
-/
import Derived.Test.YthfmggfohegpnaaRows
import Derived.Test.YthfmggfohegpnaaDpl
import Derived.Test.YthfmggfohegpnaaDve
namespace Go.Proofs.Ythfmggfohegpnaa
open Go.ChangeShapes Go.WideShapes Go.ChangeAt Go.RowKit Go.Deep
set_option linter.unusedVariables false

abbrev sdv (f : Bool) (wd cd : Int) : Value := .agg #[.bool f, .int .u32 wd, .int .i64 cd]
theorem row3 {w : World} {b : Nat} {u0 u1 u2 : Value} (h : Bk w b #[u0, u1, u2]) (v0 v1 v2 : Value) : Bk (((w.setCell ⟨b, 0, none⟩ v0).setCell ⟨b, 1, none⟩ v1).setCell ⟨b, 2, none⟩ v2) b #[v0, v1, v2] ∧ Betw b (b + 1) w (((w.setCell ⟨b, 0, none⟩ v0).setCell ⟨b, 1, none⟩ v1).setCell ⟨b, 2, none⟩ v2) :=
  ⟨((h.set 0 v0 (by simp) (cs' := #[v0, u1, u2]) rfl).set 1 v1 (by simp) (cs' := #[v0, v1, u2]) rfl).set 2 v2 (by simp) rfl, (((Betw.refl b (b + 1) w).setCell (p := ⟨b, 0, none⟩) (Nat.le_refl _) (Nat.lt_succ_self _) v0).setCell (p := ⟨b, 1, none⟩) (Nat.le_refl _) (Nat.lt_succ_self _) v1).setCell (p := ⟨b, 2, none⟩) (Nat.le_refl _) (Nat.lt_succ_self _) v2⟩
/-- A block that was not there is written. -/
theorem betw_new {w w1 w2 : World} {B x : Nat} (h : Betw B (B + 1) w w1) (g : Betw x (x + 1) w1 w2) (hB : B < w.heap.size) (hx : w.heap.size ≤ x) : Betw B (B + 1) w w2 :=
  ⟨g.os.trans h.os, g.tape.trans h.tape, g.output.trans h.output, Nat.le_trans h.size g.size, fun k hk ho => (g.block k (Nat.lt_of_lt_of_le hk h.size) (by omega)).trans (h.block k hk ho)⟩
set_option maxRecDepth 20000 in
set_option maxHeartbeats 2000000 in
theorem impl_do0 (B : Nat) (x2 : Int) (zs ys : List Int) (ls ms : List Int) (q : Bool) (w : World) (h : DvM w B zs ys) (HQ : Hid (inpF zs ys x2 = (ls, ms, q))) :
    Calls Try.prog 49 #[.pointer (some ⟨B, 0, none⟩), cpv 0 x2] w fun e w' => e = .returned (sdv q 0 0) ∧ DvM w' B ls ms ∧ Betw B (B + 1) w w' := by
  have hBl := h.lt
  have hal : Below w.heap.size w (((w.alloc (.cells #[.int .i64 0, .int .u32 x2] 54)).alloc (.cells #[.bool false, .int .u32 0, .int .i64 0] 56)).alloc (.cells #[.bool false, .int .u32 0, .int .i64 0] 56)) := (((Below.refl _ w).alloc (Nat.le_refl _) _).alloc (by simp) _).alloc (by simp; omega) _
  have HB : Hid (Betw B (B + 1) w (((w.alloc (.cells #[.int .i64 0, .int .u32 x2] 54)).alloc (.cells #[.bool false, .int .u32 0, .int .i64 0] 56)).alloc (.cells #[.bool false, .int .u32 0, .int .i64 0] 56))) := Below.betw hal
  have HD : Hid (DvM (((w.alloc (.cells #[.int .i64 0, .int .u32 x2] 54)).alloc (.cells #[.bool false, .int .u32 0, .int .i64 0] 56)).alloc (.cells #[.bool false, .int .u32 0, .int .i64 0] 56)) B zs ys) := h.below hal
  have HK : Hid (Bk (((w.alloc (.cells #[.int .i64 0, .int .u32 x2] 54)).alloc (.cells #[.bool false, .int .u32 0, .int .i64 0] 56)).alloc (.cells #[.bool false, .int .u32 0, .int .i64 0] 56)) w.heap.size #[.int .i64 0, .int .u32 x2] ∧ Bk (((w.alloc (.cells #[.int .i64 0, .int .u32 x2] 54)).alloc (.cells #[.bool false, .int .u32 0, .int .i64 0] 56)).alloc (.cells #[.bool false, .int .u32 0, .int .i64 0] 56)) (w.heap.size + 1) #[.bool false, .int .u32 0, .int .i64 0] ∧ Bk (((w.alloc (.cells #[.int .i64 0, .int .u32 x2] 54)).alloc (.cells #[.bool false, .int .u32 0, .int .i64 0] 56)).alloc (.cells #[.bool false, .int .u32 0, .int .i64 0] 56)) (w.heap.size + 2) #[.bool false, .int .u32 0, .int .i64 0]) := ⟨((Bk.new w _ _ _ rfl).alloc _).alloc _, (Bk.new _ _ _ _ (by simp)).alloc _, Bk.new _ _ _ _ (by simp)⟩
  clear h hal
  have MID : Hid (∀ (X : World), DvM X B zs ys → Calls Try.prog 38 #[.pointer (some ⟨B, 0, none⟩), .int .u32 x2] X fun e w' => e = .returned (.bool q) ∧ DvM w' B ls ms ∧ Betw B (B + 1) X w') := fun X hX => by
    have hf := hX.few
    have hok : dvOk zs.length ys.length = true := by simp [dvOk]; exact hf
    have g := HQ.out
    unfold inpF at g
    rw [if_pos hok] at g
    have h1 := dv_put B zs ys x2 X hX
    by_cases h8 : zs.length = 8
    · rw [if_pos h8] at g h1
      simp only [Prod.mk.injEq] at g
      obtain ⟨rfl, rfl, rfl⟩ := g
      rw [show decide (zs.length < 8) = false by simp [h8]] at h1
      exact h1
    · rw [if_neg h8] at g h1
      simp only [Prod.mk.injEq] at g
      obtain ⟨rfl, rfl, rfl⟩ := g
      rw [show decide (zs.length < 8) = true by simp; omega] at h1
      exact h1
  clear HQ
  go_enter Try.func49, Try.ntmps49
  have wc : (((w.alloc (.cells #[.int .i64 0, .int .u32 x2] 54)).alloc (.cells #[.bool false, .int .u32 0, .int .i64 0] 56)).alloc (.cells #[.bool false, .int .u32 0, .int .i64 0] 56)).cell? ⟨w.heap.size, 1, none⟩ = some (.int .u32 x2) := HK.out.1.cell 1 _ rfl
  have k0 : (((w.alloc (.cells #[.int .i64 0, .int .u32 x2] 54)).alloc (.cells #[.bool false, .int .u32 0, .int .i64 0] 56)).alloc (.cells #[.bool false, .int .u32 0, .int .i64 0] 56)).cell? ⟨w.heap.size, 0, none⟩ = some (.int .i64 0) := HK.out.1.cell 0 _ rfl
  go_wp2
  clear k0
  revert HB HD HK wc
  generalize hW : (((w.alloc (.cells #[.int .i64 0, .int .u32 x2] 54)).alloc (.cells #[.bool false, .int .u32 0, .int .i64 0] 56)).alloc (.cells #[.bool false, .int .u32 0, .int .i64 0] 56)) = V
  have hzV : w.heap.size + 3 ≤ V.heap.size := by rw [← hW]; simp
  clear hW
  intro HB HD HK wc
  have WC : Hid (V.cell? ⟨w.heap.size, 1, none⟩ = some (.int .u32 x2)) := wc
  go_region_held_law (fun w' => w'.cell? ⟨w.heap.size, 1, none⟩ = some (.int .u32 x2)) (first | with_reducible exact wc | with_reducible exact dr_c wc | with_reducible exact st1 (by omega) wc)
    (first | (go_at_call 38; refine Calls.mono (MID.out _ (by first | exact HD.out | exact HD.out.below (Below.refl _ _).drew)) ?_; rintro u w3 ⟨rfl, hd3, hb3⟩; have HB3 : Hid (Betw B (B + 1) V w3) := (by first | exact hb3 | exact (Below.betw (Below.refl _ _).drew).trans hb3); have HD3 : Hid (DvM w3 B ls ms) := hd3; replace wc : w3.cell? ⟨w.heap.size, 1, none⟩ = some (.int .u32 x2) := ((HB3.out.cell (p := ⟨w.heap.size, 1, none⟩) (by simp; omega) (by simp; omega)).trans WC.out); have k3 := HK.out.2.2.betw HB3.out (by omega); have m0 := k3.cell 0 _ rfl; have mf := k3.free; clear hd3 hb3))
  all_goals
    rename_i hhh
    clear hhh
    have hz3 := HB3.out.size
    have KS := k3.set 0 (.bool q) (by simp) (cs' := #[.bool q, .int .u32 0, .int .i64 0]) rfl
    have KR := (HK.out.2.1.betw HB3.out (by omega)).other (w.heap.size + 2) 0 (.bool q) (by omega)
    have hbt : Betw (w.heap.size + 2) (w.heap.size + 3) w3 (w3.setCell ⟨w.heap.size + 2, 0, none⟩ (.bool q)) := (Betw.refl _ _ w3).setCell (p := ⟨w.heap.size + 2, 0, none⟩) (Nat.le_refl _) (by simp) _
    have HBY : Hid (Betw B (B + 1) w (w3.setCell ⟨w.heap.size + 2, 0, none⟩ (.bool q))) := betw_new (HB.out.trans HB3.out) hbt hBl (by omega)
    have HDY : Hid (DvM (w3.setCell ⟨w.heap.size + 2, 0, none⟩ (.bool q)) B ls ms) := HD3.out.betw hbt (.inl (by omega))
    clear hbt m0 mf k3 wc WC HB3 HD3 HB HD HK
    revert KS KR HBY HDY
    generalize w3.setCell ⟨w.heap.size + 2, 0, none⟩ (.bool q) = Y
    intro KS KR HBY HDY
    have s0 := KS.cell 0 _ rfl
    have s1 := KS.cell 1 _ rfl
    have s2 := KS.cell 2 _ rfl
    have r0 := KR.cell 0 _ rfl
    have r1 := KR.cell 1 _ rfl
    have r2 := KR.cell 2 _ rfl
    have rf := KR.free
    have hrow := row3 KR (.bool q) (.int .u32 0) (.int .i64 0)
    skip
    have hd9 : DvM (((Y.setCell ⟨w.heap.size + 1, 0, none⟩ (.bool q)).setCell ⟨w.heap.size + 1, 1, none⟩ (.int .u32 0)).setCell ⟨w.heap.size + 1, 2, none⟩ (.int .i64 0)) B ls ms := HDY.out.betw hrow.2 (.inl (by omega))
    have hq9 : Betw B (B + 1) w (((Y.setCell ⟨w.heap.size + 1, 0, none⟩ (.bool q)).setCell ⟨w.heap.size + 1, 1, none⟩ (.int .u32 0)).setCell ⟨w.heap.size + 1, 2, none⟩ (.int .i64 0)) := betw_new HBY.out hrow.2 hBl (by omega)
    skip
    go_wp2
    clear s0 s1 s2 r0 r1 r2 rf
    revert hrow hd9 hq9
    generalize (((Y.setCell ⟨w.heap.size + 1, 0, none⟩ (.bool q)).setCell ⟨w.heap.size + 1, 1, none⟩ (.int .u32 0)).setCell ⟨w.heap.size + 1, 2, none⟩ (.int .i64 0)) = Wf
    intro hrow hd9 hq9
    have q0 := hrow.1.cell 0 _ rfl
    have q1 := hrow.1.cell 1 _ rfl
    have q2 := hrow.1.cell 2 _ rfl
    exact bodyPost_ret (v := sdv q 0 0) (by simp [results, Try.results49, go_sem, q0, q1, q2]) rfl ⟨rfl, hd9, hq9⟩
set_option maxRecDepth 20000 in
set_option maxHeartbeats 2000000 in
theorem impl_do1 (B : Nat) (x2 : Int) (zs ys : List Int) (ls ms : List Int) (q : Bool) (w : World) (h : DvM w B zs ys) (HQ : Hid (opnF zs ys = (ls, ms, q))) :
    Calls Try.prog 49 #[.pointer (some ⟨B, 0, none⟩), cpv 1 x2] w fun e w' => e = .returned (sdv q 0 0) ∧ DvM w' B ls ms ∧ Betw B (B + 1) w w' := by
  have hBl := h.lt
  have hal : Below w.heap.size w (((w.alloc (.cells #[.int .i64 1, .int .u32 x2] 54)).alloc (.cells #[.bool false, .int .u32 0, .int .i64 0] 56)).alloc (.cells #[.bool false, .int .u32 0, .int .i64 0] 56)) := (((Below.refl _ w).alloc (Nat.le_refl _) _).alloc (by simp) _).alloc (by simp; omega) _
  have HB : Hid (Betw B (B + 1) w (((w.alloc (.cells #[.int .i64 1, .int .u32 x2] 54)).alloc (.cells #[.bool false, .int .u32 0, .int .i64 0] 56)).alloc (.cells #[.bool false, .int .u32 0, .int .i64 0] 56))) := Below.betw hal
  have HD : Hid (DvM (((w.alloc (.cells #[.int .i64 1, .int .u32 x2] 54)).alloc (.cells #[.bool false, .int .u32 0, .int .i64 0] 56)).alloc (.cells #[.bool false, .int .u32 0, .int .i64 0] 56)) B zs ys) := h.below hal
  have HK : Hid (Bk (((w.alloc (.cells #[.int .i64 1, .int .u32 x2] 54)).alloc (.cells #[.bool false, .int .u32 0, .int .i64 0] 56)).alloc (.cells #[.bool false, .int .u32 0, .int .i64 0] 56)) w.heap.size #[.int .i64 1, .int .u32 x2] ∧ Bk (((w.alloc (.cells #[.int .i64 1, .int .u32 x2] 54)).alloc (.cells #[.bool false, .int .u32 0, .int .i64 0] 56)).alloc (.cells #[.bool false, .int .u32 0, .int .i64 0] 56)) (w.heap.size + 1) #[.bool false, .int .u32 0, .int .i64 0] ∧ Bk (((w.alloc (.cells #[.int .i64 1, .int .u32 x2] 54)).alloc (.cells #[.bool false, .int .u32 0, .int .i64 0] 56)).alloc (.cells #[.bool false, .int .u32 0, .int .i64 0] 56)) (w.heap.size + 2) #[.bool false, .int .u32 0, .int .i64 0]) := ⟨((Bk.new w _ _ _ rfl).alloc _).alloc _, (Bk.new _ _ _ _ (by simp)).alloc _, Bk.new _ _ _ _ (by simp)⟩
  clear h hal
  have MID : Hid (∀ (X : World), DvM X B zs ys → Calls Try.prog 43 #[.pointer (some ⟨B, 0, none⟩)] X fun e w' => e = .returned (.bool q) ∧ DvM w' B ls ms ∧ Betw B (B + 1) X w') := fun X hX => by
    have hf := hX.few
    have hok : dvOk zs.length ys.length = true := by simp [dvOk]; exact hf
    have g := HQ.out
    unfold opnF at g
    rw [if_pos hok] at g
    simp only [Prod.mk.injEq] at g
    obtain ⟨rfl, rfl, rfl⟩ := g
    exact dv_open B zs ys (goes zs ys) X hX (by exact rfl)
  clear HQ
  go_enter Try.func49, Try.ntmps49
  have k0 : (((w.alloc (.cells #[.int .i64 1, .int .u32 x2] 54)).alloc (.cells #[.bool false, .int .u32 0, .int .i64 0] 56)).alloc (.cells #[.bool false, .int .u32 0, .int .i64 0] 56)).cell? ⟨w.heap.size, 0, none⟩ = some (.int .i64 1) := HK.out.1.cell 0 _ rfl
  have hzV : w.heap.size + 3 ≤ (((w.alloc (.cells #[.int .i64 1, .int .u32 x2] 54)).alloc (.cells #[.bool false, .int .u32 0, .int .i64 0] 56)).alloc (.cells #[.bool false, .int .u32 0, .int .i64 0] 56)).heap.size := by simp
  go_wp2_with fail
  refine Calls.mono (MID.out _ HD.out) ?_
  rintro u w3 ⟨rfl, hd3, hb3⟩
  have hz3 := hb3.size
  have k3 := HK.out.2.2.betw hb3 (by omega)
  have KS := k3.set 0 (.bool q) (by simp) (cs' := #[.bool q, .int .u32 0, .int .i64 0]) rfl
  have KR := (HK.out.2.1.betw hb3 (by omega)).other (w.heap.size + 2) 0 (.bool q) (by omega)
  have m0 := k3.cell 0 _ rfl
  have mf := k3.free
  have hbt : Betw (w.heap.size + 2) (w.heap.size + 3) w3 (w3.setCell ⟨w.heap.size + 2, 0, none⟩ (.bool q)) := (Betw.refl _ _ w3).setCell (p := ⟨w.heap.size + 2, 0, none⟩) (Nat.le_refl _) (by simp) _
  have HBY : Hid (Betw B (B + 1) w (w3.setCell ⟨w.heap.size + 2, 0, none⟩ (.bool q))) := betw_new (HB.out.trans hb3) hbt hBl (by omega)
  have HDY : Hid (DvM (w3.setCell ⟨w.heap.size + 2, 0, none⟩ (.bool q)) B ls ms) := hd3.betw hbt (.inl (by omega))
  clear hbt k3 k0 hb3 hd3 HB HD HK MID
  have s0 := KS.cell 0 _ rfl
  have s1 := KS.cell 1 _ rfl
  have s2 := KS.cell 2 _ rfl
  have r0 := KR.cell 0 _ rfl
  have r1 := KR.cell 1 _ rfl
  have r2 := KR.cell 2 _ rfl
  have rf := KR.free
  have hrow := row3 KR (.bool q) (.int .u32 0) (.int .i64 0)
  skip
  have hd9 : DvM ((((w3.setCell ⟨w.heap.size + 2, 0, none⟩ (.bool q)).setCell ⟨w.heap.size + 1, 0, none⟩ (.bool q)).setCell ⟨w.heap.size + 1, 1, none⟩ (.int .u32 0)).setCell ⟨w.heap.size + 1, 2, none⟩ (.int .i64 0)) B ls ms := HDY.out.betw hrow.2 (.inl (by omega))
  have hq9 : Betw B (B + 1) w ((((w3.setCell ⟨w.heap.size + 2, 0, none⟩ (.bool q)).setCell ⟨w.heap.size + 1, 0, none⟩ (.bool q)).setCell ⟨w.heap.size + 1, 1, none⟩ (.int .u32 0)).setCell ⟨w.heap.size + 1, 2, none⟩ (.int .i64 0)) := betw_new HBY.out hrow.2 hBl (by omega)
  skip
  go_wp2
  clear s0 s1 s2 r0 r1 r2 rf
  revert hrow hd9 hq9
  generalize ((((w3.setCell ⟨w.heap.size + 2, 0, none⟩ (.bool q)).setCell ⟨w.heap.size + 1, 0, none⟩ (.bool q)).setCell ⟨w.heap.size + 1, 1, none⟩ (.int .u32 0)).setCell ⟨w.heap.size + 1, 2, none⟩ (.int .i64 0)) = Wf
  intro hrow hd9 hq9
  have q0 := hrow.1.cell 0 _ rfl
  have q1 := hrow.1.cell 1 _ rfl
  have q2 := hrow.1.cell 2 _ rfl
  exact bodyPost_ret (v := sdv q 0 0) (by simp [results, Try.results49, go_sem, q0, q1, q2]) rfl ⟨rfl, hd9, hq9⟩
set_option maxRecDepth 20000 in
set_option maxHeartbeats 2000000 in
theorem impl_do2 (B : Nat) (x2 : Int) (zs ys : List Int) (ls ms : List Int) (x cd : Int) (w : World) (h : DvM w B zs ys) (HQ : Hid (redF zs ys = (ls, ms, x, cd))) :
    Calls Try.prog 49 #[.pointer (some ⟨B, 0, none⟩), cpv 2 x2] w fun e w' => e = .returned (sdv false x cd) ∧ DvM w' B ls ms ∧ Betw B (B + 1) w w' := by
  have hBl := h.lt
  have hal : Below w.heap.size w (((w.alloc (.cells #[.int .i64 2, .int .u32 x2] 54)).alloc (.cells #[.bool false, .int .u32 0, .int .i64 0] 56)).alloc (.cells #[.bool false, .int .u32 0, .int .i64 0] 56)) := (((Below.refl _ w).alloc (Nat.le_refl _) _).alloc (by simp) _).alloc (by simp; omega) _
  have HB : Hid (Betw B (B + 1) w (((w.alloc (.cells #[.int .i64 2, .int .u32 x2] 54)).alloc (.cells #[.bool false, .int .u32 0, .int .i64 0] 56)).alloc (.cells #[.bool false, .int .u32 0, .int .i64 0] 56))) := Below.betw hal
  have HD : Hid (DvM (((w.alloc (.cells #[.int .i64 2, .int .u32 x2] 54)).alloc (.cells #[.bool false, .int .u32 0, .int .i64 0] 56)).alloc (.cells #[.bool false, .int .u32 0, .int .i64 0] 56)) B zs ys) := h.below hal
  have HK : Hid (Bk (((w.alloc (.cells #[.int .i64 2, .int .u32 x2] 54)).alloc (.cells #[.bool false, .int .u32 0, .int .i64 0] 56)).alloc (.cells #[.bool false, .int .u32 0, .int .i64 0] 56)) w.heap.size #[.int .i64 2, .int .u32 x2] ∧ Bk (((w.alloc (.cells #[.int .i64 2, .int .u32 x2] 54)).alloc (.cells #[.bool false, .int .u32 0, .int .i64 0] 56)).alloc (.cells #[.bool false, .int .u32 0, .int .i64 0] 56)) (w.heap.size + 1) #[.bool false, .int .u32 0, .int .i64 0] ∧ Bk (((w.alloc (.cells #[.int .i64 2, .int .u32 x2] 54)).alloc (.cells #[.bool false, .int .u32 0, .int .i64 0] 56)).alloc (.cells #[.bool false, .int .u32 0, .int .i64 0] 56)) (w.heap.size + 2) #[.bool false, .int .u32 0, .int .i64 0]) := ⟨((Bk.new w _ _ _ rfl).alloc _).alloc _, (Bk.new _ _ _ _ (by simp)).alloc _, Bk.new _ _ _ _ (by simp)⟩
  clear h hal
  have MID : Hid (∀ (X : World), DvM X B zs ys → Calls Try.prog 44 #[.pointer (some ⟨B, 0, none⟩)] X fun e w' => e = .returned (.tuple #[.int .u32 x, .int .i64 cd]) ∧ DvM w' B ls ms ∧ Betw B (B + 1) X w') := fun X hX => by
    have hf := hX.few
    have hok : dvOk zs.length ys.length = true := by simp [dvOk]; exact hf
    have g := HQ.out
    unfold redF at g
    rw [if_pos hok] at g
    have h1 := dv_read B zs ys X hX
    by_cases h8 : ys.length = 0
    · rw [if_pos h8] at g h1
      simp only [Prod.mk.injEq] at g
      obtain ⟨rfl, rfl, rfl, rfl⟩ := g
      have e : ys = [] := List.eq_nil_of_length_eq_zero h8
      subst e
      exact h1
    · rw [if_neg h8] at g h1
      simp only [Prod.mk.injEq] at g
      obtain ⟨rfl, rfl, rfl, rfl⟩ := g
      exact h1
  clear HQ
  go_enter Try.func49, Try.ntmps49
  have k0 : (((w.alloc (.cells #[.int .i64 2, .int .u32 x2] 54)).alloc (.cells #[.bool false, .int .u32 0, .int .i64 0] 56)).alloc (.cells #[.bool false, .int .u32 0, .int .i64 0] 56)).cell? ⟨w.heap.size, 0, none⟩ = some (.int .i64 2) := HK.out.1.cell 0 _ rfl
  have hzV : w.heap.size + 3 ≤ (((w.alloc (.cells #[.int .i64 2, .int .u32 x2] 54)).alloc (.cells #[.bool false, .int .u32 0, .int .i64 0] 56)).alloc (.cells #[.bool false, .int .u32 0, .int .i64 0] 56)).heap.size := by simp
  go_wp2_with fail
  refine Calls.mono (MID.out _ HD.out) ?_
  rintro u w3 ⟨rfl, hd3, hb3⟩
  have hz3 := hb3.size
  have k3 := HK.out.2.2.betw hb3 (by omega)
  have k4 := k3.set 1 (.int .u32 x) (by simp) (cs' := #[.bool false, .int .u32 x, .int .i64 0]) rfl
  have KS := k4.set 2 (.int .i64 cd) (by simp) (cs' := #[.bool false, .int .u32 x, .int .i64 cd]) rfl
  have KR := ((HK.out.2.1.betw hb3 (by omega)).other (w.heap.size + 2) 1 (.int .u32 x) (by omega)).other (w.heap.size + 2) 2 (.int .i64 cd) (by omega)
  have m1 := k3.cell 1 _ rfl
  have mf := k3.free
  have m2 := k4.cell 2 _ rfl
  have mf2 := k4.free
  have hbt : Betw (w.heap.size + 2) (w.heap.size + 3) w3 ((w3.setCell ⟨w.heap.size + 2, 1, none⟩ (.int .u32 x)).setCell ⟨w.heap.size + 2, 2, none⟩ (.int .i64 cd)) := ((Betw.refl _ _ w3).setCell (p := ⟨w.heap.size + 2, 1, none⟩) (Nat.le_refl _) (by simp) _).setCell (p := ⟨w.heap.size + 2, 2, none⟩) (Nat.le_refl _) (by simp) _
  have HBY : Hid (Betw B (B + 1) w ((w3.setCell ⟨w.heap.size + 2, 1, none⟩ (.int .u32 x)).setCell ⟨w.heap.size + 2, 2, none⟩ (.int .i64 cd))) := betw_new (HB.out.trans hb3) hbt hBl (by omega)
  have HDY : Hid (DvM ((w3.setCell ⟨w.heap.size + 2, 1, none⟩ (.int .u32 x)).setCell ⟨w.heap.size + 2, 2, none⟩ (.int .i64 cd)) B ls ms) := hd3.betw hbt (.inl (by omega))
  clear hbt k3 k4 k0 hb3 hd3 HB HD HK MID
  have s0 := KS.cell 0 _ rfl
  have s1 := KS.cell 1 _ rfl
  have s2 := KS.cell 2 _ rfl
  have r0 := KR.cell 0 _ rfl
  have r1 := KR.cell 1 _ rfl
  have r2 := KR.cell 2 _ rfl
  have rf := KR.free
  have hrow := row3 KR (.bool false) (.int .u32 x) (.int .i64 cd)
  skip
  have hd9 : DvM (((((w3.setCell ⟨w.heap.size + 2, 1, none⟩ (.int .u32 x)).setCell ⟨w.heap.size + 2, 2, none⟩ (.int .i64 cd)).setCell ⟨w.heap.size + 1, 0, none⟩ (.bool false)).setCell ⟨w.heap.size + 1, 1, none⟩ (.int .u32 x)).setCell ⟨w.heap.size + 1, 2, none⟩ (.int .i64 cd)) B ls ms := HDY.out.betw hrow.2 (.inl (by omega))
  have hq9 : Betw B (B + 1) w (((((w3.setCell ⟨w.heap.size + 2, 1, none⟩ (.int .u32 x)).setCell ⟨w.heap.size + 2, 2, none⟩ (.int .i64 cd)).setCell ⟨w.heap.size + 1, 0, none⟩ (.bool false)).setCell ⟨w.heap.size + 1, 1, none⟩ (.int .u32 x)).setCell ⟨w.heap.size + 1, 2, none⟩ (.int .i64 cd)) := betw_new HBY.out hrow.2 hBl (by omega)
  skip
  go_wp2
  clear s0 s1 s2 r0 r1 r2 rf
  revert hrow hd9 hq9
  generalize (((((w3.setCell ⟨w.heap.size + 2, 1, none⟩ (.int .u32 x)).setCell ⟨w.heap.size + 2, 2, none⟩ (.int .i64 cd)).setCell ⟨w.heap.size + 1, 0, none⟩ (.bool false)).setCell ⟨w.heap.size + 1, 1, none⟩ (.int .u32 x)).setCell ⟨w.heap.size + 1, 2, none⟩ (.int .i64 cd)) = Wf
  intro hrow hd9 hq9
  have q0 := hrow.1.cell 0 _ rfl
  have q1 := hrow.1.cell 1 _ rfl
  have q2 := hrow.1.cell 2 _ rfl
  exact bodyPost_ret (v := sdv false x cd) (by simp [results, Try.results49, go_sem, q0, q1, q2]) rfl ⟨rfl, hd9, hq9⟩
theorem impl_do (B : Nat) (s : Ds) (op : Cp) (w : World) (h : DvM w B s.1 s.2) (h0 : 0 ≤ op.1) (h2 : op.1 ≤ 2) :
    Calls Try.prog 49 #[.pointer (some ⟨B, 0, none⟩), cpv op.1 op.2] w fun e w' => e = .returned (sdv (stpD s op).2.1 (stpD s op).2.2.1 (stpD s op).2.2.2) ∧ DvM w' B (stpD s op).1.1 (stpD s op).1.2 ∧ Betw B (B + 1) w w' := by
  obtain ⟨zs, ys⟩ := s
  obtain ⟨kd, x⟩ := op
  simp only at h0 h2
  have hcs : kd = 0 ∨ kd = 1 ∨ kd = 2 := by omega
  rcases hcs with rfl | rfl | rfl
  · exact impl_do0 B x zs ys _ _ _ w h rfl
  · exact impl_do1 B x zs ys _ _ _ w h rfl
  · exact impl_do2 B x zs ys _ _ _ _ w h rfl
end Go.Proofs.Ythfmggfohegpnaa
