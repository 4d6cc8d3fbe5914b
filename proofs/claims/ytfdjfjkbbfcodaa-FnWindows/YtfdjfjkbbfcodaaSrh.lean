
/-
  The bytes of a list of windows, by the specification's own function. Conditions: those that each fact names.
-/
import Derived.Test.YtfdjfjkbbfcodaaBas
import Derived.Test.YtfdjfjkbbfcodaaProg
import Derived.Test.YtfdjfjkbbfcodaaRch
import Derived.Test.YtfdjfjkbbfcodaaSpa
namespace Go.Proofs.Ytfdjfjkbbfcodaa
open Go.ChangeShapes Go.WideShapes Go.ChangeAt Go.RowKit Go.Deep
set_option linter.unusedVariables false

/-- How many addresses below 'M' a window has. -/
def part (x : Wn) (M : Int) : Int := if M ≤ x.1 then 0 else if M < x.1 + x.2.1 then M - x.1 else x.2.1
def sumP (xs : List Wn) (M : Int) : Nat → Int
  | 0 => 0
  | N + 1 => sumP xs M N + part (xs.getD N wn0) M
theorem part_yes {x : Wn} {M : Int} (h : WOk x) (hh : Has x M) : part x (M + 1) = part x M + 1 := by
  obtain ⟨h1, h2, _⟩ := h
  obtain ⟨g1, g2⟩ := hh
  unfold part
  repeat' split
  all_goals omega
theorem part_no {x : Wn} {M : Int} (h : WOk x) (hh : ¬ Has x M) : part x (M + 1) = part x M := by
  obtain ⟨h1, h2, _⟩ := h
  unfold Has at hh
  unfold part
  repeat' split
  all_goals omega
theorem part_zero {x : Wn} (h : WOk x) : part x 0 = 0 := by unfold part; rw [if_pos h.1]
theorem part_all {x : Wn} (h : WOk x) : part x 2048 = x.2.1 := by
  obtain ⟨h1, h2, _, _, h5, _⟩ := h
  unfold part
  rw [if_neg (by omega), if_neg (by omega)]
theorem sumP_no {xs : List Wn} {M : Int} : ∀ N, WsTo xs N → (∀ i, i < N → ¬ Has (xs.getD i wn0) M) → sumP xs (M + 1) N = sumP xs M N
  | 0, _, _ => rfl
  | N + 1, h, hn => by
    rw [sumP, sumP, sumP_no N (fun i hi => h i (by omega)) (fun i hi => hn i (by omega)), part_no (h N (by omega)).1 (hn N (by omega))]
theorem apart_has {x y : Wn} {M : Int} (h : ApartP x y) (h1 : Has x M) (h2 : Has y M) : False := by
  obtain ⟨_, _, h3⟩ := h
  unfold Has at h1 h2
  omega
theorem sumP_yes {xs : List Wn} {M : Int} {k : Nat} : ∀ N, WsTo xs N → k < N → Has (xs.getD k wn0) M → sumP xs (M + 1) N = sumP xs M N + 1
  | 0, _, hk, _ => absurd hk (by omega)
  | N + 1, h, hk, hh => by
    rw [sumP, sumP]
    by_cases e : k = N
    · subst e
      rw [sumP_no k (fun i hi => h i (by omega)) (fun i hi g => apart_has ((h k (by omega)).2 i hi) g hh), part_yes (h k (by omega)).1 hh]
      omega
    · rw [sumP_yes N (fun i hi => h i (by omega)) (by omega) hh, part_no (h N (by omega)).1 (fun g => apart_has ((h N (by omega)).2 k (by omega)) hh g)]
      omega
theorem sumP_zero {xs : List Wn} : ∀ N, WsTo xs N → sumP xs 0 N = 0
  | 0, _ => rfl
  | N + 1, h => by rw [sumP, sumP_zero N (fun i hi => h i (by omega)), part_zero (h N (by omega)).1]; rfl
theorem sumP_all {xs : List Wn} : ∀ N, WsTo xs N → sumP xs 2048 N = sumTo xs N
  | 0, _ => rfl
  | N + 1, h => by rw [sumP, sumTo, sumP_all N (fun i hi => h i (by omega)), part_all (h N (by omega)).1]
set_option maxHeartbeats 2000000 in
set_option maxRecDepth 20000 in
theorem spec_reach (a : Option Addr) (cap n : Nat) (xs : List Wn) (q : Bool) (N : Nat) (r : Int) (w : World) (hs : ASeg w a xs) (hl : xs.length = n) (hn : n ≤ 9223372036854775807) (hq : q = true ↔ WsOk xs) (hN0 : q = false → N = 0) (hN1 : q = true → N = n) (hr : r = sumTo xs N) :
    Calls Try.prog 23 #[.slice a n cap] w fun e w' => e = .returned (.int .i64 r) ∧ Below w.heap.size w w' := by
  have HW : Hid _ := spec_wsok a cap n xs q w hs hl hn hq
  cases q
  · have HT : Hid (r = 0) := by show _ = _; rw [hr, hN0 rfl]; rfl
    clear hr hs hl hq hN0 hN1
    go_enter Try.func23, Try.ntmps23
    go_wp2_with fail
    refine Calls.mono HW.out ?_
    rintro u w1 ⟨rfl, hb1⟩
    have HB : Hid _ := hb1
    clear hb1
    go_wp2
    go_ret
    exact ⟨ret_int HT.out.symm, HB.out⟩
  have ho : WsOk xs := hq.1 rfl
  have hto : WsTo xs n := by rw [← hl]; exact ho.2
  have HT : Hid (r = sumP xs 2048 n) := by show _ = _; rw [hr, hN1 rfl, sumP_all n hto]
  have HTO : Hid _ := hto
  have HA : Hid (∀ X (ad ra : Int), Below w.heap.size w X → AtP xs n ad ra → Calls Try.prog 54 #[.slice a n cap, .int .i64 ad] X fun e w' => e = .returned (.int .i64 ra) ∧ Below X.heap.size X w') := fun X ad ra hX h => spec_l07at a cap n xs ad ra X (hs.below hX) hl ho h
  clear hr hs hl hq hN0 hN1 ho hto
  go_enter Try.func23, Try.ntmps23
  go_wp2_with fail
  refine Calls.mono HW.out ?_
  rintro u w1 ⟨rfl, hb1⟩
  have HB : Hid _ := hb1
  clear hb1 HW
  go_wp2
  go_loopw [3, 4] (fun s i wr => ∃ (m : Nat) (S : Int), m ≤ 2048 ∧ 0 ≤ S ∧ S ≤ m ∧ i = .int .i64 m ∧ s = .int .i64 S ∧ Hid (Below w.heap.size w wr ∧ S = sumP xs m n)) (fun _ i _ => 2048 - (intOf i).toNat)
  case atStart => exact ⟨0, 0, by omega, by omega, by omega, rfl, rfl, HB.out, (sumP_zero n HTO.out).symm⟩
  case round =>
    obtain ⟨m, S, hm, hS0, hS1, rfl, rfl, HR⟩ := hrel
    by_cases hlt : m < 2048
    rotate_left
    · obtain rfl : m = 2048 := by omega
      have HE : Hid (S = r) := by show _ = _; rw [HT.out]; exact HR.out.2
      go_wp2
      go_ret
      exact ⟨ret_int HE.out, HR.out.1⟩
    have hlt' : (m : Int) < 2048 := by omega
    obtain ⟨ra, hra⟩ := AtP.ex xs (m : Int) n
    have HRA : Hid _ := hra
    have HAX : Hid _ := HA.out wr (m : Int) ra HR.out.1 hra
    clear hra
    by_cases h0 : 0 ≤ ra
    · have HS2 : Hid (S + 1 = sumP xs ((m + 1 : Nat) : Int) n) := by
        show _ = _
        rcases HRA.out with ⟨h1, _⟩ | ⟨k, h1, h2, h3, _⟩
        · omega
        · have := sumP_yes n HTO.out h1 h3
          rw [HR.out.2]
          rw [← this]
          rfl
      clear HRA
      go_wp2_with fail
      refine Calls.mono HAX.out ?_
      rintro u w2 ⟨rfl, hb2⟩
      have HB2 : Hid (Below w.heap.size w w2) := HR.out.1.trans (hb2.mono HR.out.1.size)
      clear hb2
      go_wp2
      go_roundw
      case rel => exact ⟨m + 1, S + 1, by omega, by omega, by omega, by go_num, by go_num, HB2.out, HS2.out⟩
      case measure => simp [intOf]; omega
    · have HS2 : Hid (S = sumP xs ((m + 1 : Nat) : Int) n) := by
        show _ = _
        rcases HRA.out with ⟨h1, h2⟩ | ⟨k, h1, h2, h3, _⟩
        · have := sumP_no n HTO.out h2
          rw [HR.out.2]
          rw [← this]
          rfl
        · omega
      clear HRA
      go_wp2_with fail
      refine Calls.mono HAX.out ?_
      rintro u w2 ⟨rfl, hb2⟩
      have HB2 : Hid (Below w.heap.size w w2) := HR.out.1.trans (hb2.mono HR.out.1.size)
      clear hb2
      go_wp2
      go_roundw
      case rel => exact ⟨m + 1, S, by omega, by omega, by omega, by go_num, rfl, HB2.out, HS2.out⟩
      case measure => simp [intOf]; omega
end Go.Proofs.Ytfdjfjkbbfcodaa
