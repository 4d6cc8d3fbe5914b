
/-
  The program's PolicyOk: a kind behind an interface is asked how great Most may be. No conditions.
-/
import Derived.Test.YtnjjjcmomjcmfaaRows
import Derived.Test.YtnjjjcmomjcmfaaHok
import Derived.Deep.RegionHeldLaw
import Derived.WalkSmall
namespace Go.Proofs.Ytnjjjcmomjcmfaa
open Go.ChangeShapes Go.WideShapes Go.ChangeAt Go.RowKit Go.Deep
set_option linter.unusedVariables false

theorem kept_c {w w' : World} {p : Addr} {v : Value} (hb : Below w.heap.size w w') (h : w.cell? p = some v) : w'.cell? p = some v :=
  (hb.cell (p := p) (World.block_lt_of_cell? w _ h)).trans h
theorem al_c {w : World} {p : Addr} {v : Value} (o : Obj) (h : w.cell? p = some v) : (w.alloc o).cell? p = some v := kept_c ((Below.refl _ _).alloc (Nat.le_refl _) _) h
theorem dr_c {w : World} {p : Addr} {v : Value} (h : w.cell? p = some v) : w.drew.cell? p = some v := h
theorem most_h (w : World) : Calls Try.prog 59 #[.agg #[]] w fun e w' => e = .returned (.int .i64 0) ∧ Below w.heap.size w w' := by
  go_enter Try.func59, Try.ntmps59
  go_wp2
  go_ret
  exact ⟨rfl, (Below.refl _ _).alloc (Nat.le_refl _) _⟩
theorem most_r (w : World) : Calls Try.prog 60 #[.agg #[]] w fun e w' => e = .returned (.int .i64 100) ∧ Below w.heap.size w w' := by
  go_enter Try.func60, Try.ntmps60
  go_wp2
  go_ret
  exact ⟨rfl, (Below.refl _ _).alloc (Nat.le_refl _) _⟩
theorem most_s (w : World) : Calls Try.prog 61 #[.agg #[]] w fun e w' => e = .returned (.int .i64 0) ∧ Below w.heap.size w w' := by
  go_enter Try.func61, Try.ntmps61
  go_wp2
  go_ret
  exact ⟨rfl, (Below.refl _ _).alloc (Nat.le_refl _) _⟩
set_option maxHeartbeats 1000000 in
theorem pok_0 (m : Int) (q : Bool) (w : World) (h0 : 0 ≤ m) (hq : decide (m ≤ 0) = q) : Calls Try.prog 11 #[pol 0 m] w fun e w' => e = .returned (.bool q) ∧ Below w.heap.size w w' := by
  have hb : Hid (Below w.heap.size w (w.alloc (.cells (prow 0 m) 25))) := (Below.refl _ w).alloc (Nat.le_refl _) _
  have hp : Hid (PC (w.alloc (.cells (prow 0 m) 25)) w.heap.size 0 m) := PC.new _ _ _ _
  have HQ : Hid (decide (m ≤ 0) = q) := hq
  clear hq
  go_enter Try.func11, Try.ntmps11
  go_wp2_with fail
  refine (kind_of 0 m _).mono ?_
  rintro x w1 ⟨rfl, hb1⟩
  have HB : Hid (Below w.heap.size w w1) := hb.out.trans (hb1.mono hb.out.size)
  have c1 := (hp.out.kept hb1 hp.out.lt).c1
  have C1 : Hid (w1.cell? ⟨w.heap.size, 1, none⟩ = some (.int .i64 m)) := c1
  have hbx : Below w1.heap.size w1 w1 := Below.refl _ _
  clear hb hb1 hp
  have hkv : kindV 0 = .iface 65 (.agg #[]) := rfl
  rw [hkv]
  clear hkv
  go_wp2
  go_region_held_law (fun w' => w'.cell? ⟨w.heap.size, 1, none⟩ = some (.int .i64 m)) (first | with_reducible exact c1 | with_reducible exact dr_c c1 | with_reducible exact al_c _ c1)
    (first | (go_at_call 59; refine Calls.mono (most_h _) ?_; rintro u w99 ⟨rfl, hbb⟩; (first | replace hbx := hbx.trans (hbb.mono hbx.size) | replace hbx := hbx.drew.trans (hbb.mono hbx.drew.size)); replace c1 := kept_c hbx C1.out; clear hbb))
  all_goals
    have HB2 : Hid (Below w.heap.size w w99) := HB.out.trans (hbx.mono HB.out.size)
    clear hbx c1 C1 HB
    go_wp2
    go_ret
    exact ⟨by rw [HQ.out]; rfl, HB2.out⟩
set_option maxHeartbeats 1000000 in
theorem pok_1 (m : Int) (q : Bool) (w : World) (h0 : 0 ≤ m) (hq : decide (m ≤ 100) = q) : Calls Try.prog 11 #[pol 1 m] w fun e w' => e = .returned (.bool q) ∧ Below w.heap.size w w' := by
  have hb : Hid (Below w.heap.size w (w.alloc (.cells (prow 1 m) 25))) := (Below.refl _ w).alloc (Nat.le_refl _) _
  have hp : Hid (PC (w.alloc (.cells (prow 1 m) 25)) w.heap.size 1 m) := PC.new _ _ _ _
  have HQ : Hid (decide (m ≤ 100) = q) := hq
  clear hq
  go_enter Try.func11, Try.ntmps11
  go_wp2_with fail
  refine (kind_of 1 m _).mono ?_
  rintro x w1 ⟨rfl, hb1⟩
  have HB : Hid (Below w.heap.size w w1) := hb.out.trans (hb1.mono hb.out.size)
  have c1 := (hp.out.kept hb1 hp.out.lt).c1
  have C1 : Hid (w1.cell? ⟨w.heap.size, 1, none⟩ = some (.int .i64 m)) := c1
  have hbx : Below w1.heap.size w1 w1 := Below.refl _ _
  clear hb hb1 hp
  have hkv : kindV 1 = .iface 66 (.agg #[]) := rfl
  rw [hkv]
  clear hkv
  go_wp2
  go_region_held_law (fun w' => w'.cell? ⟨w.heap.size, 1, none⟩ = some (.int .i64 m)) (first | with_reducible exact c1 | with_reducible exact dr_c c1 | with_reducible exact al_c _ c1)
    (first | (go_at_call 60; refine Calls.mono (most_r _) ?_; rintro u w99 ⟨rfl, hbb⟩; (first | replace hbx := hbx.trans (hbb.mono hbx.size) | replace hbx := hbx.drew.trans (hbb.mono hbx.drew.size)); replace c1 := kept_c hbx C1.out; clear hbb))
  all_goals
    have HB2 : Hid (Below w.heap.size w w99) := HB.out.trans (hbx.mono HB.out.size)
    clear hbx c1 C1 HB
    go_wp2
    go_ret
    exact ⟨by rw [HQ.out]; rfl, HB2.out⟩
set_option maxHeartbeats 1000000 in
theorem pok_2 (m : Int) (q : Bool) (w : World) (h0 : 0 ≤ m) (hq : decide (m ≤ 0) = q) : Calls Try.prog 11 #[pol 2 m] w fun e w' => e = .returned (.bool q) ∧ Below w.heap.size w w' := by
  have hb : Hid (Below w.heap.size w (w.alloc (.cells (prow 2 m) 25))) := (Below.refl _ w).alloc (Nat.le_refl _) _
  have hp : Hid (PC (w.alloc (.cells (prow 2 m) 25)) w.heap.size 2 m) := PC.new _ _ _ _
  have HQ : Hid (decide (m ≤ 0) = q) := hq
  clear hq
  go_enter Try.func11, Try.ntmps11
  go_wp2_with fail
  refine (kind_of 2 m _).mono ?_
  rintro x w1 ⟨rfl, hb1⟩
  have HB : Hid (Below w.heap.size w w1) := hb.out.trans (hb1.mono hb.out.size)
  have c1 := (hp.out.kept hb1 hp.out.lt).c1
  have C1 : Hid (w1.cell? ⟨w.heap.size, 1, none⟩ = some (.int .i64 m)) := c1
  have hbx : Below w1.heap.size w1 w1 := Below.refl _ _
  clear hb hb1 hp
  have hkv : kindV 2 = .iface 67 (.agg #[]) := rfl
  rw [hkv]
  clear hkv
  go_wp2
  go_region_held_law (fun w' => w'.cell? ⟨w.heap.size, 1, none⟩ = some (.int .i64 m)) (first | with_reducible exact c1 | with_reducible exact dr_c c1 | with_reducible exact al_c _ c1)
    (first | (go_at_call 61; refine Calls.mono (most_s _) ?_; rintro u w99 ⟨rfl, hbb⟩; (first | replace hbx := hbx.trans (hbb.mono hbx.size) | replace hbx := hbx.drew.trans (hbb.mono hbx.drew.size)); replace c1 := kept_c hbx C1.out; clear hbb))
  all_goals
    have HB2 : Hid (Below w.heap.size w w99) := HB.out.trans (hbx.mono HB.out.size)
    clear hbx c1 C1 HB
    go_wp2
    go_ret
    exact ⟨by rw [HQ.out]; rfl, HB2.out⟩
set_option maxHeartbeats 1000000 in
theorem pok_neg (k m : Int) (T : TypeId) (w : World) (h0 : ¬ 0 ≤ m) (hk : kindV k = .iface T (.agg #[])) : Calls Try.prog 11 #[pol k m] w fun e w' => e = .returned (.bool false) ∧ Below w.heap.size w w' := by
  have hb : Hid (Below w.heap.size w (w.alloc (.cells (prow k m) 25))) := (Below.refl _ w).alloc (Nat.le_refl _) _
  have hp : Hid (PC (w.alloc (.cells (prow k m) 25)) w.heap.size k m) := PC.new _ _ _ _
  have hge : decide (m ≥ 0) = false := decide_eq_false h0
  go_enter Try.func11, Try.ntmps11
  go_wp2_with fail
  refine (kind_of k m _).mono ?_
  rintro x w1 ⟨rfl, hb1⟩
  have HB : Hid (Below w.heap.size w w1) := hb.out.trans (hb1.mono hb.out.size)
  have c1 := (hp.out.kept hb1 hp.out.lt).c1
  clear hb hb1 hp
  rw [hk]
  clear hk
  go_wp2
  go_quiet (fail)
  go_wp2
  go_ret
  exact ⟨rfl, below_drewN HB.out _⟩
set_option maxHeartbeats 1000000 in
theorem pok_nil (k m : Int) (w : World) (hk : kindV k = .nilIface) : Calls Try.prog 11 #[pol k m] w fun e w' => e = .returned (.bool false) ∧ Below w.heap.size w w' := by
  have hb : Hid (Below w.heap.size w (w.alloc (.cells (prow k m) 25))) := (Below.refl _ w).alloc (Nat.le_refl _) _
  go_enter Try.func11, Try.ntmps11
  go_wp2_with fail
  refine (kind_of k m _).mono ?_
  rintro x w1 ⟨rfl, hb1⟩
  have HB : Hid (Below w.heap.size w w1) := hb.out.trans (hb1.mono hb.out.size)
  clear hb hb1
  rw [hk]
  clear hk
  go_wp2
  go_quiet (fail)
  go_wp2
  go_ret
  exact ⟨rfl, below_drewN HB.out _⟩
theorem impl_pok (k m : Int) (w : World) : Calls Try.prog 11 #[pol k m] w fun e w' => e = .returned (.bool (polOk k m)) ∧ Below w.heap.size w w' := by
  by_cases h0 : k = 0
  · subst h0
    by_cases hm : 0 ≤ m
    · refine pok_0 m _ w hm ?_
      by_cases g : m = 0
      · subst g; rfl
      · have e : (m == 0) = false := beq_eq_false_iff_ne.2 g
        rw [decide_eq_false (by omega)]; simp [polOk, e]
    · have e : (m == 0) = false := beq_eq_false_iff_ne.2 (by omega)
      have e2 : polOk 0 m = false := by simp [polOk, e]
      rw [e2]
      exact pok_neg 0 m 65 w hm rfl
  by_cases h1 : k = 1
  · subst h1
    have e2 : polOk 1 m = inr m 0 100 := by simp [polOk]
    rw [e2]
    by_cases hm : 0 ≤ m
    · refine pok_1 m _ w hm ?_
      simp [inr, hm]
    · rw [inr_no (fun g => hm g.1)]
      exact pok_neg 1 m 66 w hm rfl
  by_cases h2 : k = 2
  · subst h2
    by_cases hm : 0 ≤ m
    · refine pok_2 m _ w hm ?_
      by_cases g : m = 0
      · subst g; rfl
      · have e : (m == 0) = false := beq_eq_false_iff_ne.2 g
        rw [decide_eq_false (by omega)]; simp [polOk, e]
    · have e : (m == 0) = false := beq_eq_false_iff_ne.2 (by omega)
      have e2 : polOk 2 m = false := by simp [polOk, e]
      rw [e2]
      exact pok_neg 2 m 67 w hm rfl
  have e0 : (k == 0) = false := beq_eq_false_iff_ne.2 h0
  have e1 : (k == 1) = false := beq_eq_false_iff_ne.2 h1
  have e2 : (k == 2) = false := beq_eq_false_iff_ne.2 h2
  have e : polOk k m = false := by simp [polOk, e0, e1, e2]
  rw [e]
  exact pok_nil k m w (by simp [kindV, h0, h1, h2])
end Go.Proofs.Ytnjjjcmomjcmfaa
