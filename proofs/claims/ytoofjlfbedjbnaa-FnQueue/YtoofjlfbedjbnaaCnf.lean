
/-
  Whether some op of a script is none, by the program: the library's search with the program's own test. Conditions: at most 1048576 ops.
-/
import Derived.Test.YtoofjlfbedjbnaaRows
import Derived.Test.YtoofjlfbedjbnaaPly
import Derived.Test.YtoofjlfbedjbnaaChm
namespace Go.Proofs.Ytoofjlfbedjbnaa
open Go.ChangeShapes Go.WideShapes Go.ChangeAt Go.RowKit Go.Deep
set_option linter.unusedVariables false

def noOp (x : Int) : Bool := decide (x < 0) || decide (3 < x)
set_option maxHeartbeats 400000 in
theorem impl_noop (x1 x2 : Int) (w : World) : Calls Try.prog 75 #[cpv x1 x2] w fun e w' => e = .returned (.bool (noOp x1)) ∧ Below w.heap.size w w' := by
  have HB : Hid (Below w.heap.size w (w.alloc (.cells #[.int .i64 x1, .int .u32 x2] 76))) := (Below.refl _ w).alloc (Nat.le_refl _) _
  unfold noOp
  cases h1 : decide (x1 < 0)
  · cases h2 : decide (3 < x1)
    · go_enter Try.func75, Try.ntmps75
      go_wp2
      go_ret
      exact ⟨rfl, HB.out⟩
    · go_enter Try.func75, Try.ntmps75
      go_wp2
      go_ret
      exact ⟨rfl, HB.out⟩
  · go_enter Try.func75, Try.ntmps75
    go_wp2
    go_ret
    exact ⟨rfl, HB.out⟩
set_option maxHeartbeats 2000000 in
theorem impl_index (a : Option Addr) (n c : Nat) (xs : List Cp) (w : World) (hs : PSeg w a xs) (hl : xs.length = n) (hn : n ≤ 1048576) :
    Calls Try.prog 89 #[.slice a n c, .func (.func 75) #[] #[]] w fun e w' => (∃ r : Int, e = .returned (.int .i64 r) ∧ ((0 ≤ r ∧ ∃ i, i < n ∧ noOp (xs.getD i cp0).1 = true) ∨ (r = -1 ∧ ∀ i, i < n → noOp (xs.getD i cp0).1 = false))) ∧ Below w.heap.size w w' := by
  have HS : Hid (PSeg w a xs) := hs
  have HL : Hid (xs.length = n) := hl
  clear hs hl
  go_enter Try.func89, Try.ntmps89
  go_wp2
  go_loopw [8] (fun i wr => ∃ k : Nat, k ≤ n ∧ i = .int .i64 k ∧ Hid (Below w.heap.size w wr ∧ ∀ i, i < k → noOp (xs.getD i cp0).1 = false)) (fun i _ => n - (intOf i).toNat)
  case atStart => exact ⟨0, by omega, rfl, Below.refl _ _, fun i hi => absurd hi (by omega)⟩
  case round =>
    obtain ⟨k, hk, rfl, HB⟩ := hrel
    by_cases hlt : k < n
    · have hlt' : (k : Int) < (n : Int) := by omega
      obtain ⟨b1, o1, rfl, hbl1, p1⟩ := PSeg.at (w := w) HS.out k (by have := HL.out; omega)
      have hb := HB.out.1
      replace p1 := p1.of (w' := wr) (fun i => hb.cell (p := ⟨b1, i, none⟩) hbl1)
      obtain ⟨p, HP⟩ : ∃ p, Hid (xs.getD k cp0 = p) := ⟨_, rfl⟩
      rw [HP.out] at p1
      obtain ⟨c0, c1⟩ := p1
      obtain ⟨x1, x2⟩ := p
      simp only at c0 c1
      obtain ⟨q, HQ⟩ : ∃ q, Hid (noOp x1 = q) := ⟨_, rfl⟩
      clear hbl1 hb
      go_wp2_with fail
      refine (impl_noop x1 x2 _).mono ?_
      rintro u w2 ⟨rfl, hbb⟩
      rw [HQ.out]
      have HB2 : Hid (Below w.heap.size w w2) := HB.out.1.trans (hbb.mono HB.out.1.size)
      clear hbb c0 c1
      cases q
      · have HB3 : Hid (Below w.heap.size w w2 ∧ ∀ i, i < k + 1 → noOp (xs.getD i cp0).1 = false) := ⟨HB2.out, fun i hi => by
          by_cases e : i = k
          · subst e; rw [HP.out]; exact HQ.out
          · exact HB.out.2 i (by omega)⟩
        clear HB HQ HP
        go_wp2
        go_roundw
        case rel => exact ⟨k + 1, by omega, by go_num, HB3⟩
        case measure => simp [intOf]; omega
      · have HF : Hid (noOp (xs.getD k cp0).1 = true) := by rw [HP.out]; exact HQ.out
        clear HQ HP
        go_wp2
        go_ret
        exact ⟨⟨_, rfl, .inl ⟨by omega, k, hlt, HF.out⟩⟩, HB2.out⟩
    · obtain rfl : k = n := by omega
      go_wp2
      go_ret
      exact ⟨⟨_, rfl, .inr ⟨rfl, HB.out.2⟩⟩, HB.out.1⟩
theorem noOp_yes {x : Int} : noOp x = false ↔ 0 ≤ x ∧ x ≤ 3 := by
  unfold noOp
  simp
set_option maxHeartbeats 1000000 in
theorem impl_contains (a : Option Addr) (n c : Nat) (xs : List Cp) (q : Bool) (w : World) (hs : PSeg w a xs) (hl : xs.length = n) (hn : n ≤ 1048576) (HQ : Hid (q = false ↔ kdsOk xs)) :
    Calls Try.prog 74 #[.slice a n c, .func (.func 75) #[] #[]] w fun e w' => e = .returned (.bool q) ∧ Below w.heap.size w w' := by
  have HI : Hid (Calls Try.prog 89 #[.slice a n c, .func (.func 75) #[] #[]] w fun e w' => (∃ r : Int, e = .returned (.int .i64 r) ∧ decide (0 ≤ r) = q) ∧ Below w.heap.size w w') := by
    refine (impl_index a n c xs w hs hl hn).mono ?_
    rintro e w' ⟨⟨r, h1, h2⟩, h3⟩
    refine ⟨⟨r, h1, ?_⟩, h3⟩
    rcases h2 with ⟨g1, i, g2, g3⟩ | ⟨g1, g2⟩
    · cases q
      · have := HQ.out.1 rfl i (by omega)
        rw [noOp_yes.2 this] at g3
        cases g3
      · simpa using g1
    · have hk : kdsOk xs := fun i hi => noOp_yes.1 (g2 i (by omega))
      rw [HQ.out.2 hk, g1]
      decide
  clear hs hl HQ
  go_enter Try.func74, Try.ntmps74
  go_wp2_with fail
  refine HI.out.mono ?_
  rintro x w1 ⟨⟨r, rfl, hr⟩, hb1⟩
  have HB1 : Hid (Below w.heap.size w w1) := hb1
  have HR : Hid (decide (0 ≤ r) = q) := hr
  clear hr hb1 HI
  go_wp2
  go_ret
  exact ⟨ret_boolc HR.out, HB1.out⟩
end Go.Proofs.Ytoofjlfbedjbnaa
