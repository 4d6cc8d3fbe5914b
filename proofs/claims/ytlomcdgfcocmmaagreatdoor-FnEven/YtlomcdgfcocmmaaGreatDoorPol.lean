
/-
  Policies: right or not, by both sides. No conditions.
-/
import Derived.Test.YtlomcdgfcocmmaaGreatDoorBas
import Derived.Test.YtlomcdgfcocmmaaGreatDoorGen
import Derived.WalkKit
import Derived.Deep.QuietTactic
import Derived.Deep.RegionHeldLaw
import Derived.Deep.RegionWith
import Derived.BigRegion
import Derived.BigQuiet
namespace Go.Proofs.YtlomcdgfcocmmaaGreatDoor
open Go.ChangeShapes Go.WideShapes Go.ChangeAt Go.RowKit Go.Deep
set_option linter.unusedVariables false

abbrev pol (k m : Int) : Value := .agg #[.int .i64 k, .int .i64 m]
abbrev prow (k m : Int) : Array Value := #[.int .i64 k, .int .i64 m]
/-- The block 'B' holds this policy. -/
structure PC (w : World) (B : Nat) (k m : Int) : Prop where
  c0 : w.cell? ⟨B, 0, none⟩ = some (.int .i64 k)
  c1 : w.cell? ⟨B, 1, none⟩ = some (.int .i64 m)
theorem PC.new (w : World) (T : TypeId) (k m : Int) : PC (w.alloc (.cells (prow k m) T)) w.heap.size k m := ⟨new_cell _ _ _ 0 _ rfl, new_cell _ _ _ 1 _ rfl⟩
theorem PC.kept {w w' : World} {m B : Nat} {k n : Int} (h : PC w B k n) (hb : Below m w w') (hB : B < m) : PC w' B k n :=
  ⟨(hb.cell (p := ⟨B, 0, none⟩) hB).trans h.c0, (hb.cell (p := ⟨B, 1, none⟩) hB).trans h.c1⟩
theorem PC.lt {w : World} {B : Nat} {k m : Int} (h : PC w B k m) : B < w.heap.size := World.block_lt_of_cell? w _ h.c0
def polOk (k m : Int) : Bool := (k == 1 && inr m 0 100) || ((k == 0 || k == 2) && m == 0)
set_option maxHeartbeats 400000 in
theorem spec_pok (k m : Int) (w : World) : Calls Tryz.prog 109 #[pol k m] w fun e w' => e = .returned (.bool (polOk k m)) ∧ Below w.heap.size w w' := by
  have hb := (Below.refl _ w).alloc (Nat.le_refl _) (.cells (prow k m) 69)
  cases h1 : (k == 1)
  · cases h0 : (k == 0)
    · cases h2 : (k == 2)
      · have e : polOk k m = false := by simp [polOk, h1, h0, h2]
        rw [e]
        go_enter Tryz.func109, Tryz.ntmps109
        go_wp2
        go_ret
        exact ⟨rfl, hb⟩
      · cases h3 : (m == 0)
        · have e : polOk k m = false := by simp [polOk, h1, h0, h2, h3]
          rw [e]
          go_enter Tryz.func109, Tryz.ntmps109
          go_wp2
          go_ret
          exact ⟨rfl, hb⟩
        · have e : polOk k m = true := by simp [polOk, h1, h0, h2, h3]
          rw [e]
          go_enter Tryz.func109, Tryz.ntmps109
          go_wp2
          go_ret
          exact ⟨rfl, hb⟩
    · cases h3 : (m == 0)
      · have e : polOk k m = false := by simp [polOk, h1, h0, h3]
        rw [e]
        go_enter Tryz.func109, Tryz.ntmps109
        go_wp2
        go_ret
        exact ⟨rfl, hb⟩
      · have e : polOk k m = true := by simp [polOk, h1, h0, h3]
        rw [e]
        go_enter Tryz.func109, Tryz.ntmps109
        go_wp2
        go_ret
        exact ⟨rfl, hb⟩
  · have hk : k = 1 := by simpa using h1
    subst hk
    have e : polOk 1 m = inr m 0 100 := by simp [polOk]
    rw [e]
    go_enter Tryz.func109, Tryz.ntmps109
    go_wp2_with fail
    refine (in_any m 0 100 _).mono ?_
    rintro x w1 ⟨rfl, rfl⟩
    go_wp2
    go_ret
    exact ⟨rfl, hb⟩
/-- What a policy's kind is as a value behind the interface. -/
def kindV (k : Int) : Value := if k = 0 then .iface 160 (.agg #[]) else if k = 1 then .iface 161 (.agg #[]) else if k = 2 then .iface 162 (.agg #[]) else .nilIface
theorem kind_of (k m : Int) (w : World) : Calls Tryz.prog 178 #[pol k m] w fun e w' => e = .returned (kindV k) ∧ Below w.heap.size w w' := by
  have hb := (Below.refl _ w).alloc (Nat.le_refl _) (.cells (prow k m) 69)
  unfold kindV
  by_cases h0 : k = 0
  · subst h0
    go_enter Tryz.func178, Tryz.ntmps178
    go_wp2
    go_ret
    exact ⟨rfl, hb⟩
  by_cases h1 : k = 1
  · subst h1
    go_enter Tryz.func178, Tryz.ntmps178
    go_wp2
    go_ret
    exact ⟨rfl, hb⟩
  by_cases h2 : k = 2
  · subst h2
    go_enter Tryz.func178, Tryz.ntmps178
    go_wp2
    go_ret
    exact ⟨rfl, hb⟩
  rw [if_neg h0, if_neg h1, if_neg h2]
  go_enter Tryz.func178, Tryz.ntmps178
  go_wp2
  go_ret
  exact ⟨rfl, hb⟩
theorem kept_c {w w' : World} {p : Addr} {v : Value} (hb : Below w.heap.size w w') (h : w.cell? p = some v) : w'.cell? p = some v :=
  (hb.cell (p := p) (World.block_lt_of_cell? w _ h)).trans h
theorem al_c {w : World} {p : Addr} {v : Value} (o : Obj) (h : w.cell? p = some v) : (w.alloc o).cell? p = some v := kept_c ((Below.refl _ _).alloc (Nat.le_refl _) _) h
theorem dr_c {w : World} {p : Addr} {v : Value} (h : w.cell? p = some v) : w.drew.cell? p = some v := h
theorem most_h (w : World) : Calls Tryz.prog 220 #[.agg #[]] w fun e w' => e = .returned (.int .i64 0) ∧ Below w.heap.size w w' := by
  go_enter Tryz.func220, Tryz.ntmps220
  go_wp2
  go_ret
  exact ⟨rfl, (Below.refl _ _).alloc (Nat.le_refl _) _⟩
theorem most_r (w : World) : Calls Tryz.prog 221 #[.agg #[]] w fun e w' => e = .returned (.int .i64 100) ∧ Below w.heap.size w w' := by
  go_enter Tryz.func221, Tryz.ntmps221
  go_wp2
  go_ret
  exact ⟨rfl, (Below.refl _ _).alloc (Nat.le_refl _) _⟩
theorem most_s (w : World) : Calls Tryz.prog 222 #[.agg #[]] w fun e w' => e = .returned (.int .i64 0) ∧ Below w.heap.size w w' := by
  go_enter Tryz.func222, Tryz.ntmps222
  go_wp2
  go_ret
  exact ⟨rfl, (Below.refl _ _).alloc (Nat.le_refl _) _⟩
theorem mth_h (w : World) : (method 288 160 (.agg #[]) "loop.example/g00076/impl.mostOfMost").run Tryz.prog w = .ok (220, .agg #[]) w := by kernel_rfl
theorem mth_r (w : World) : (method 288 161 (.agg #[]) "loop.example/g00076/impl.mostOfMost").run Tryz.prog w = .ok (221, .agg #[]) w := by kernel_rfl
theorem mth_s (w : World) : (method 288 162 (.agg #[]) "loop.example/g00076/impl.mostOfMost").run Tryz.prog w = .ok (222, .agg #[]) w := by kernel_rfl
set_option maxRecDepth 20000 in
set_option maxHeartbeats 1000000 in
theorem pok_0 (m : Int) (q : Bool) (w : World) (h0 : 0 ≤ m) (hq : decide (m ≤ 0) = q) : Calls Tryz.prog 137 #[pol 0 m] w fun e w' => e = .returned (.bool q) ∧ Below w.heap.size w w' := by
  have hb : Hid (Below w.heap.size w (w.alloc (.cells (prow 0 m) 69))) := (Below.refl _ w).alloc (Nat.le_refl _) _
  have hp : Hid (PC (w.alloc (.cells (prow 0 m) 69)) w.heap.size 0 m) := PC.new _ _ _ _
  have HQ : Hid (decide (m ≤ 0) = q) := hq
  clear hq
  go_enter Tryz.func137, Tryz.ntmps137
  go_wp2_with fail
  refine (kind_of 0 m _).mono ?_
  rintro x w1 ⟨rfl, hb1⟩
  have HB : Hid (Below w.heap.size w w1) := hb.out.trans (hb1.mono hb.out.size)
  have c1 := (hp.out.kept hb1 hp.out.lt).c1
  have C1 : Hid (w1.cell? ⟨w.heap.size, 1, none⟩ = some (.int .i64 m)) := c1
  have hbx : Below w1.heap.size w1 w1 := Below.refl _ _
  clear hb hb1 hp
  have hmth := mth_h
  have hkv : kindV 0 = .iface 160 (.agg #[]) := rfl
  rw [hkv]
  clear hkv
  go_wp2
  go_region_held_law (fun w' => w'.cell? ⟨w.heap.size, 1, none⟩ = some (.int .i64 m)) (first | with_reducible exact c1 | with_reducible exact dr_c c1 | with_reducible exact al_c _ c1)
    (first | (go_at_call 220; refine Calls.mono (most_h _) ?_; rintro u w99 ⟨rfl, hbb⟩; (first | replace hbx := hbx.trans (hbb.mono hbx.size) | replace hbx := hbx.drew.trans (hbb.mono hbx.drew.size)); replace c1 := kept_c hbx C1.out; clear hbb))
  all_goals
    have HB2 : Hid (Below w.heap.size w w99) := HB.out.trans (hbx.mono HB.out.size)
    clear hbx c1 C1 HB
    go_wp2
    go_ret
    exact ⟨by rw [HQ.out]; rfl, HB2.out⟩
set_option maxRecDepth 20000 in
set_option maxHeartbeats 1000000 in
theorem pok_1 (m : Int) (q : Bool) (w : World) (h0 : 0 ≤ m) (hq : decide (m ≤ 100) = q) : Calls Tryz.prog 137 #[pol 1 m] w fun e w' => e = .returned (.bool q) ∧ Below w.heap.size w w' := by
  have hb : Hid (Below w.heap.size w (w.alloc (.cells (prow 1 m) 69))) := (Below.refl _ w).alloc (Nat.le_refl _) _
  have hp : Hid (PC (w.alloc (.cells (prow 1 m) 69)) w.heap.size 1 m) := PC.new _ _ _ _
  have HQ : Hid (decide (m ≤ 100) = q) := hq
  clear hq
  go_enter Tryz.func137, Tryz.ntmps137
  go_wp2_with fail
  refine (kind_of 1 m _).mono ?_
  rintro x w1 ⟨rfl, hb1⟩
  have HB : Hid (Below w.heap.size w w1) := hb.out.trans (hb1.mono hb.out.size)
  have c1 := (hp.out.kept hb1 hp.out.lt).c1
  have C1 : Hid (w1.cell? ⟨w.heap.size, 1, none⟩ = some (.int .i64 m)) := c1
  have hbx : Below w1.heap.size w1 w1 := Below.refl _ _
  clear hb hb1 hp
  have hmth := mth_r
  have hkv : kindV 1 = .iface 161 (.agg #[]) := rfl
  rw [hkv]
  clear hkv
  go_wp2
  go_region_held_law (fun w' => w'.cell? ⟨w.heap.size, 1, none⟩ = some (.int .i64 m)) (first | with_reducible exact c1 | with_reducible exact dr_c c1 | with_reducible exact al_c _ c1)
    (first | (go_at_call 221; refine Calls.mono (most_r _) ?_; rintro u w99 ⟨rfl, hbb⟩; (first | replace hbx := hbx.trans (hbb.mono hbx.size) | replace hbx := hbx.drew.trans (hbb.mono hbx.drew.size)); replace c1 := kept_c hbx C1.out; clear hbb))
  all_goals
    have HB2 : Hid (Below w.heap.size w w99) := HB.out.trans (hbx.mono HB.out.size)
    clear hbx c1 C1 HB
    go_wp2
    go_ret
    exact ⟨by rw [HQ.out]; rfl, HB2.out⟩
set_option maxRecDepth 20000 in
set_option maxHeartbeats 1000000 in
theorem pok_2 (m : Int) (q : Bool) (w : World) (h0 : 0 ≤ m) (hq : decide (m ≤ 0) = q) : Calls Tryz.prog 137 #[pol 2 m] w fun e w' => e = .returned (.bool q) ∧ Below w.heap.size w w' := by
  have hb : Hid (Below w.heap.size w (w.alloc (.cells (prow 2 m) 69))) := (Below.refl _ w).alloc (Nat.le_refl _) _
  have hp : Hid (PC (w.alloc (.cells (prow 2 m) 69)) w.heap.size 2 m) := PC.new _ _ _ _
  have HQ : Hid (decide (m ≤ 0) = q) := hq
  clear hq
  go_enter Tryz.func137, Tryz.ntmps137
  go_wp2_with fail
  refine (kind_of 2 m _).mono ?_
  rintro x w1 ⟨rfl, hb1⟩
  have HB : Hid (Below w.heap.size w w1) := hb.out.trans (hb1.mono hb.out.size)
  have c1 := (hp.out.kept hb1 hp.out.lt).c1
  have C1 : Hid (w1.cell? ⟨w.heap.size, 1, none⟩ = some (.int .i64 m)) := c1
  have hbx : Below w1.heap.size w1 w1 := Below.refl _ _
  clear hb hb1 hp
  have hmth := mth_s
  have hkv : kindV 2 = .iface 162 (.agg #[]) := rfl
  rw [hkv]
  clear hkv
  go_wp2
  go_region_held_law (fun w' => w'.cell? ⟨w.heap.size, 1, none⟩ = some (.int .i64 m)) (first | with_reducible exact c1 | with_reducible exact dr_c c1 | with_reducible exact al_c _ c1)
    (first | (go_at_call 222; refine Calls.mono (most_s _) ?_; rintro u w99 ⟨rfl, hbb⟩; (first | replace hbx := hbx.trans (hbb.mono hbx.size) | replace hbx := hbx.drew.trans (hbb.mono hbx.drew.size)); replace c1 := kept_c hbx C1.out; clear hbb))
  all_goals
    have HB2 : Hid (Below w.heap.size w w99) := HB.out.trans (hbx.mono HB.out.size)
    clear hbx c1 C1 HB
    go_wp2
    go_ret
    exact ⟨by rw [HQ.out]; rfl, HB2.out⟩
set_option maxRecDepth 20000 in
set_option maxHeartbeats 1000000 in
theorem pok_neg (k m : Int) (T : TypeId) (w : World) (h0 : ¬ 0 ≤ m) (hk : kindV k = .iface T (.agg #[])) : Calls Tryz.prog 137 #[pol k m] w fun e w' => e = .returned (.bool false) ∧ Below w.heap.size w w' := by
  have hb : Hid (Below w.heap.size w (w.alloc (.cells (prow k m) 69))) := (Below.refl _ w).alloc (Nat.le_refl _) _
  have hp : Hid (PC (w.alloc (.cells (prow k m) 69)) w.heap.size k m) := PC.new _ _ _ _
  have hge : decide (m ≥ 0) = false := decide_eq_false h0
  go_enter Tryz.func137, Tryz.ntmps137
  go_wp2_with fail
  refine (kind_of k m _).mono ?_
  rintro x w1 ⟨rfl, hb1⟩
  have HB : Hid (Below w.heap.size w w1) := hb.out.trans (hb1.mono hb.out.size)
  have c1 := (hp.out.kept hb1 hp.out.lt).c1
  clear hb hb1 hp
  rw [hk]
  clear hk
  go_wp2
  go_quiet (fail)
  go_wp2
  go_ret
  exact ⟨rfl, below_drewN HB.out _⟩
set_option maxRecDepth 20000 in
set_option maxHeartbeats 1000000 in
theorem pok_nil (k m : Int) (w : World) (hk : kindV k = .nilIface) : Calls Tryz.prog 137 #[pol k m] w fun e w' => e = .returned (.bool false) ∧ Below w.heap.size w w' := by
  have hb : Hid (Below w.heap.size w (w.alloc (.cells (prow k m) 69))) := (Below.refl _ w).alloc (Nat.le_refl _) _
  go_enter Tryz.func137, Tryz.ntmps137
  go_wp2_with fail
  refine (kind_of k m _).mono ?_
  rintro x w1 ⟨rfl, hb1⟩
  have HB : Hid (Below w.heap.size w w1) := hb.out.trans (hb1.mono hb.out.size)
  clear hb hb1
  rw [hk]
  clear hk
  go_wp2
  go_quiet (fail)
  go_wp2
  go_ret
  exact ⟨rfl, below_drewN HB.out _⟩
theorem impl_pok (k m : Int) (w : World) : Calls Tryz.prog 137 #[pol k m] w fun e w' => e = .returned (.bool (polOk k m)) ∧ Below w.heap.size w w' := by
  by_cases h0 : k = 0
  · subst h0
    by_cases hm : 0 ≤ m
    · refine pok_0 m _ w hm ?_
      by_cases g : m = 0
      · subst g; rfl
      · have e : (m == 0) = false := beq_eq_false_iff_ne.2 g
        rw [decide_eq_false (by omega)]; simp [polOk, e]
    · have e : (m == 0) = false := beq_eq_false_iff_ne.2 (by omega)
      have e2 : polOk 0 m = false := by simp [polOk, e]
      rw [e2]
      exact pok_neg 0 m 160 w hm rfl
  by_cases h1 : k = 1
  · subst h1
    have e2 : polOk 1 m = inr m 0 100 := by simp [polOk]
    rw [e2]
    by_cases hm : 0 ≤ m
    · refine pok_1 m _ w hm ?_
      simp [inr, hm]
    · rw [inr_no (fun g => hm g.1)]
      exact pok_neg 1 m 161 w hm rfl
  by_cases h2 : k = 2
  · subst h2
    by_cases hm : 0 ≤ m
    · refine pok_2 m _ w hm ?_
      by_cases g : m = 0
      · subst g; rfl
      · have e : (m == 0) = false := beq_eq_false_iff_ne.2 g
        rw [decide_eq_false (by omega)]; simp [polOk, e]
    · have e : (m == 0) = false := beq_eq_false_iff_ne.2 (by omega)
      have e2 : polOk 2 m = false := by simp [polOk, e]
      rw [e2]
      exact pok_neg 2 m 162 w hm rfl
  have e0 : (k == 0) = false := beq_eq_false_iff_ne.2 h0
  have e1 : (k == 1) = false := beq_eq_false_iff_ne.2 h1
  have e2 : (k == 2) = false := beq_eq_false_iff_ne.2 h2
  have e : polOk k m = false := by simp [polOk, e0, e1, e2]
  rw [e]
  exact pok_nil k m w (by simp [kindV, h0, h1, h2])
end Go.Proofs.YtlomcdgfcocmmaaGreatDoor
