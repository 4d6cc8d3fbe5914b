
/-
  What is raised, and how it is caught: a fault is raised as a panic of its own type, and comes out as a number. No conditions but those that each fact names.
-/
import Derived.Test.YtanffdedignegaaBas
import Derived.Test.YtanffdedignegaaProg
import Derived.Test.YtanffdedignegaaGst
import Derived.Defers
import Derived.Recover
namespace Go.Proofs.Ytanffdedignegaa
open Go.ChangeShapes Go.WideShapes Go.ChangeAt Go.RowKit Go.Deep
set_option linter.unusedVariables false

abbrev fltP (r : Int) : PanicEntry := { v := .iface 65 (.int .i64 r), recovered := false }
theorem raise_no (w : World) : Calls Try.prog 56 #[.int .i64 0] w fun e w' => e = .returned (.tuple #[]) ∧ w' = w := by
  go_enter Try.func56, Try.ntmps56
  go_wp2
  go_end0
  exact ⟨rfl, rfl⟩
theorem raise_yes (r : Int) (w : World) (hr : (r == 0) = false) : Calls Try.prog 56 #[.int .i64 r] w fun e w' => e = .panicked [fltP r] ∧ w' = w := by
  go_enter Try.func56, Try.ntmps56
  go_wp2
  exact ⟨rfl, rfl, rfl⟩
theorem infoF : (Try.prog.info? 65).map (fun i => i.zero) = some (some (.int .i64 0)) := by kernel_rfl
theorem as_hit (r : Int) (w : World) : (Instr.typeAssert (.iface 65 (.int .i64 r)) 20 65 true).run Try.prog w = .ok (.tuple #[.int .i64 r, .bool true]) w := by
  simp [Instr.typeAssert, run_underlying Try.underlying65]
theorem as_nil (w : World) : (Instr.typeAssert .nilIface 20 65 true).run Try.prog w = .ok (.tuple #[.int .i64 0, .bool false]) w := by
  obtain ⟨i, hi, hz⟩ := Option.map_eq_some_iff.1 infoF
  simp [Instr.typeAssert, run_underlying Try.underlying65, zeroValue, typeInfo, hi, hz]
set_option maxRecDepth 20000 in
theorem catch_fault (p : Addr) (r x0 : Int) (older : List PanicEntry) (w : World) (hc : w.cell? p = some (.int .i64 x0)) (hz : w.frozen? p = false) :
    CallsD Try.prog 37 #[.pointer (some p)] (.panicking ({ v := .iface 65 (.int .i64 r), recovered := false } :: older)) w fun e u' w' =>
      e = .returned (.tuple #[]) ∧ u' = .panicking ({ v := .iface 65 (.int .i64 r), recovered := true } :: older) ∧ w' = w.setCell p (.int .i64 r) := by
  refine callsD_of_wpS Try.func37 rfl fun c₀ cs hu => ?_
  apply wpS_seq
  apply wpS_region
  simp [wpOpsS, go_sem, recoverD, hu, Try.ntmps37, Exit.thenS, as_hit, Array.replicate]
  apply wpS_seq
  apply wpS_region
  simp [wpOpsS, go_sem, Exit.thenS]
  refine wpS_cond (t := true) (by simp [Act.eval]) ?_
  simp only [if_true]
  apply wpS_region
  simp [wpOpsS, go_sem, hc, hz, bodyPostS, results, Try.results37]
set_option maxRecDepth 20000 in
theorem catch_idle (p : Addr) (w : World) :
    CallsD Try.prog 37 #[.pointer (some p)] .returning w fun e u' w' => e = .returned (.tuple #[]) ∧ u' = .returning ∧ w' = w := by
  refine callsD_of_wpS Try.func37 rfl fun c₀ cs hu => ?_
  apply wpS_seq
  apply wpS_region
  simp [wpOpsS, go_sem, recoverD, hu, Try.ntmps37, Exit.thenS, as_nil, Array.replicate]
  apply wpS_seq
  apply wpS_region
  simp [wpOpsS, go_sem, Exit.thenS]
  refine wpS_cond (t := false) (by simp [Act.eval]) ?_
  simp only [Bool.false_eq_true, if_false]
  refine wpS_of_wp (wp_skip ?_)
  cases c₀
  simp_all [bodyPostS, results, Try.results37]
set_option maxRecDepth 20000 in
theorem caught_read_ok (cap : Array Value) (w : World) (Q : World → Prop) (h : Calls Try.prog 46 cap (w.alloc (.cells #[.int .i64 0] 3)) fun e w' => e = .returned (.tuple #[]) ∧ Bk w' w.heap.size #[.int .i64 0] ∧ Q w') :
    Calls Try.prog 21 #[.func (.func 46) #[] cap] w fun e w' => e = .returned (.int .i64 0) ∧ ∃ w1, Q w1 ∧ Betw w.heap.size (w.heap.size + 1) w1 w' ∧ w1.heap.size = w'.heap.size := by
  have hmf : ∀ (fn : Fn) (first cap : Array Value) (w : World), (Instr.makeFunc fn first cap).run Try.prog w = .ok (.func fn first cap) w := fun _ _ _ _ => rfl
  have H : Hid _ := h
  clear h
  go_enter_defers Try.func21, Try.ntmps21
  go_wp2_with fail
  refine Calls.mono H.out ?_
  rintro u w1 ⟨rfl, hk, hq⟩
  have k0 := hk.cell 0 _ rfl
  have kf := hk.free 0
  have HQ : Hid (Q w1) := hq
  have n0 := (hk.set 0 (.int .i64 0) (by simp) rfl).cell 0 _ rfl
  have hbt : Betw w.heap.size (w.heap.size + 1) w1 (w1.setCell ⟨w.heap.size, 0, none⟩ (.int .i64 0)) := (Betw.refl _ _ _).setCell (p := ⟨w.heap.size, 0, none⟩) (Nat.le_refl _) (Nat.lt_succ_self _) _
  have HBT : Hid _ := hbt
  clear hbt hq H
  go_wp2
  refine leaves_cons (f := 37) (args := #[.pointer (some ⟨w.heap.size, 0, none⟩)]) (by simp) (by simp [go_sem]) ?_
  refine (catch_idle ⟨w.heap.size, 0, none⟩ _).mono ?_
  rintro e u' w'' ⟨rfl, rfl, rfl⟩
  simp [Leaves, settle, results, Try.results21, go_sem, n0]
  first | exact ⟨w1, HQ.out, HBT.out, by simp⟩ | exact ⟨w1, HQ.out, Betw.refl _ _ _, rfl⟩
set_option maxRecDepth 20000 in
theorem caught_read_bad (cap : Array Value) (r : Int) (w : World) (Q : World → Prop) (h : Calls Try.prog 46 cap (w.alloc (.cells #[.int .i64 0] 3)) fun e w' => e = .panicked [fltP r] ∧ Bk w' w.heap.size #[.int .i64 0] ∧ Q w') :
    Calls Try.prog 21 #[.func (.func 46) #[] cap] w fun e w' => e = .returned (.int .i64 r) ∧ ∃ w1, Q w1 ∧ Betw w.heap.size (w.heap.size + 1) w1 w' ∧ w1.heap.size = w'.heap.size := by
  have hmf : ∀ (fn : Fn) (first cap : Array Value) (w : World), (Instr.makeFunc fn first cap).run Try.prog w = .ok (.func fn first cap) w := fun _ _ _ _ => rfl
  have H : Hid _ := h
  clear h
  go_enter_defers Try.func21, Try.ntmps21
  go_wp2_with fail
  refine Calls.mono H.out ?_
  rintro u w1 ⟨rfl, hk, hq⟩
  have k0 := hk.cell 0 _ rfl
  have kf := hk.free 0
  have HQ : Hid (Q w1) := hq
  have n0 := (hk.set 0 (.int .i64 r) (by simp) rfl).cell 0 _ rfl
  have hbt : Betw w.heap.size (w.heap.size + 1) w1 (w1.setCell ⟨w.heap.size, 0, none⟩ (.int .i64 r)) := (Betw.refl _ _ _).setCell (p := ⟨w.heap.size, 0, none⟩) (Nat.le_refl _) (Nat.lt_succ_self _) _
  have HBT : Hid _ := hbt
  clear hbt hq H
  go_wp2
  refine leaves_cons (f := 37) (args := #[.pointer (some ⟨w.heap.size, 0, none⟩)]) (by simp) (by simp [go_sem]) ?_
  refine (catch_fault ⟨w.heap.size, 0, none⟩ r 0 [] _ k0 kf).mono ?_
  rintro e u' w'' ⟨rfl, rfl, rfl⟩
  simp [Leaves, settle, results, Try.results21, go_sem, n0]
  exact ⟨w1, HQ.out, HBT.out, by simp⟩
set_option maxRecDepth 20000 in
theorem caught_poke_ok (cap : Array Value) (w : World) (Q : World → Prop) (h : Calls Try.prog 22 cap (w.alloc (.cells #[.int .i64 0] 3)) fun e w' => e = .returned (.tuple #[]) ∧ Bk w' w.heap.size #[.int .i64 0] ∧ Q w') :
    Calls Try.prog 21 #[.func (.func 22) #[] cap] w fun e w' => e = .returned (.int .i64 0) ∧ ∃ w1, Q w1 ∧ Betw w.heap.size (w.heap.size + 1) w1 w' ∧ w1.heap.size = w'.heap.size := by
  have hmf : ∀ (fn : Fn) (first cap : Array Value) (w : World), (Instr.makeFunc fn first cap).run Try.prog w = .ok (.func fn first cap) w := fun _ _ _ _ => rfl
  have H : Hid _ := h
  clear h
  go_enter_defers Try.func21, Try.ntmps21
  go_wp2_with fail
  refine Calls.mono H.out ?_
  rintro u w1 ⟨rfl, hk, hq⟩
  have k0 := hk.cell 0 _ rfl
  have kf := hk.free 0
  have HQ : Hid (Q w1) := hq
  have n0 := (hk.set 0 (.int .i64 0) (by simp) rfl).cell 0 _ rfl
  have hbt : Betw w.heap.size (w.heap.size + 1) w1 (w1.setCell ⟨w.heap.size, 0, none⟩ (.int .i64 0)) := (Betw.refl _ _ _).setCell (p := ⟨w.heap.size, 0, none⟩) (Nat.le_refl _) (Nat.lt_succ_self _) _
  have HBT : Hid _ := hbt
  clear hbt hq H
  go_wp2
  refine leaves_cons (f := 37) (args := #[.pointer (some ⟨w.heap.size, 0, none⟩)]) (by simp) (by simp [go_sem]) ?_
  refine (catch_idle ⟨w.heap.size, 0, none⟩ _).mono ?_
  rintro e u' w'' ⟨rfl, rfl, rfl⟩
  simp [Leaves, settle, results, Try.results21, go_sem, n0]
  first | exact ⟨w1, HQ.out, HBT.out, by simp⟩ | exact ⟨w1, HQ.out, Betw.refl _ _ _, rfl⟩
set_option maxRecDepth 20000 in
theorem caught_poke_bad (cap : Array Value) (r : Int) (w : World) (Q : World → Prop) (h : Calls Try.prog 22 cap (w.alloc (.cells #[.int .i64 0] 3)) fun e w' => e = .panicked [fltP r] ∧ Bk w' w.heap.size #[.int .i64 0] ∧ Q w') :
    Calls Try.prog 21 #[.func (.func 22) #[] cap] w fun e w' => e = .returned (.int .i64 r) ∧ ∃ w1, Q w1 ∧ Betw w.heap.size (w.heap.size + 1) w1 w' ∧ w1.heap.size = w'.heap.size := by
  have hmf : ∀ (fn : Fn) (first cap : Array Value) (w : World), (Instr.makeFunc fn first cap).run Try.prog w = .ok (.func fn first cap) w := fun _ _ _ _ => rfl
  have H : Hid _ := h
  clear h
  go_enter_defers Try.func21, Try.ntmps21
  go_wp2_with fail
  refine Calls.mono H.out ?_
  rintro u w1 ⟨rfl, hk, hq⟩
  have k0 := hk.cell 0 _ rfl
  have kf := hk.free 0
  have HQ : Hid (Q w1) := hq
  have n0 := (hk.set 0 (.int .i64 r) (by simp) rfl).cell 0 _ rfl
  have hbt : Betw w.heap.size (w.heap.size + 1) w1 (w1.setCell ⟨w.heap.size, 0, none⟩ (.int .i64 r)) := (Betw.refl _ _ _).setCell (p := ⟨w.heap.size, 0, none⟩) (Nat.le_refl _) (Nat.lt_succ_self _) _
  have HBT : Hid _ := hbt
  clear hbt hq H
  go_wp2
  refine leaves_cons (f := 37) (args := #[.pointer (some ⟨w.heap.size, 0, none⟩)]) (by simp) (by simp [go_sem]) ?_
  refine (catch_fault ⟨w.heap.size, 0, none⟩ r 0 [] _ k0 kf).mono ?_
  rintro e u' w'' ⟨rfl, rfl, rfl⟩
  simp [Leaves, settle, results, Try.results21, go_sem, n0]
  exact ⟨w1, HQ.out, HBT.out, by simp⟩
end Go.Proofs.Ytanffdedignegaa
