
/-
  Whether a window allows kinds of access; what stands against an access: the specification's own functions. Conditions: perm and kinds are sums of kinds, 1 to 7.
-/
import Derived.Test.YtanffdedignegaaBas
import Derived.Test.YtanffdedignegaaProg
import Derived.Test.YtanffdedignegaaSpa
namespace Go.Proofs.Ytanffdedignegaa
open Go.ChangeShapes Go.WideShapes Go.ChangeAt Go.RowKit Go.Deep
set_option linter.unusedVariables false

def alw (p k : Int) : Bool := bits BinOp.and IntKind.i64 p k == k
theorem one7 {p : Int} (h : 1 ≤ p ∧ p ≤ 7) : p = 1 ∨ p = 2 ∨ p = 3 ∨ p = 4 ∨ p = 5 ∨ p = 6 ∨ p = 7 := by omega
theorem alw_bit {p k : Int} (hp : 1 ≤ p ∧ p ≤ 7) (hk : k = 1 ∨ k = 2 ∨ k = 4) : (Int.tmod (wrap64 (Int.tdiv p k)) 2 == 0) = !alw p k := by
  rcases one7 hp with rfl | rfl | rfl | rfl | rfl | rfl | rfl <;> rcases hk with rfl | rfl | rfl <;> decide +kernel
theorem win_allows (b s p k : Int) (q : Bool) (w : World) (hq : alw p k = q) :
    Calls Try.prog 27 #[win b s p, .int .i64 k] w fun e w' => e = .returned (.bool q) ∧ Below w.heap.size w w' := by
  have HQ : Hid _ := hq
  have hb : Below w.heap.size w (w.alloc (wrow 40 b s p)) := (Below.refl _ _).alloc (Nat.le_refl _) _
  clear hq
  go_enter Try.func27, Try.ntmps27
  go_wp2
  go_ret
  exact ⟨ret_bool HQ.out, hb⟩
theorem wrap_u32 {ad : Int} (h0 : 0 ≤ ad) (h1 : ad < 4294967296) : IntKind.i64.wrap ad = ad := by rw [IntKind.wrap_i64]; omega
def AccP (size kind : Int) : Prop := (size = 1 ∨ size = 4) ∧ (kind = 1 ∨ kind = 2 ∨ kind = 4)
/-- What stands against an access of a right list; 'ra' is the window's place, 'p' its kinds. -/
def FauP (size kind ad ra p r : Int) : Prop :=
  (Int.tmod ad size ≠ 0 ∧ r = 1) ∨ (Int.tmod ad size = 0 ∧ ra < 0 ∧ r = 2) ∨ (Int.tmod ad size = 0 ∧ 0 ≤ ra ∧ alw p kind = false ∧ r = 3) ∨ (Int.tmod ad size = 0 ∧ 0 ≤ ra ∧ alw p kind = true ∧ r = 0)
theorem FauP.ex (size kind ad ra p : Int) : ∃ r, FauP size kind ad ra p r := by
  by_cases h1 : Int.tmod ad size = 0
  · by_cases h2 : ra < 0
    · exact ⟨2, .inr (.inl ⟨h1, h2, rfl⟩)⟩
    · cases h3 : alw p kind
      · exact ⟨3, .inr (.inr (.inl ⟨h1, by omega, h3, rfl⟩))⟩
      · exact ⟨0, .inr (.inr (.inr ⟨h1, by omega, h3, rfl⟩))⟩
  · exact ⟨1, .inl ⟨h1, rfl⟩⟩
/-- The window at a place that was found. -/
theorem AtP.there {xs : List Wn} {N : Nat} {ad r : Int} (h : AtP xs N ad r) (h0 : 0 ≤ r) : ∃ k : Nat, r = k ∧ k < N := by
  rcases h with ⟨h1, _⟩ | ⟨k, h1, h2, _⟩
  · omega
  · exact ⟨k, h2, h1⟩
set_option maxHeartbeats 4000000 in
theorem spec_l07fault (a : Option Addr) (cap n : Nat) (xs : List Wn) (ad ra size kind r : Int) (w : World) (hs : ASeg w a xs) (hl : xs.length = n) (ho : WsOk xs) (had : 0 ≤ ad ∧ ad < 4294967296) (hacc : AccP size kind) (hra : AtP xs n ad ra) (hr : FauP size kind ad ra (xs.getD ra.toNat wn0).2.2 r) :
    Calls Try.prog 18 #[.slice a n cap, .int .u32 ad, .int .i64 size, .int .i64 kind] w fun e w' => e = .returned (.int .i64 r) ∧ Below w.heap.size w w' := by
  have HA : Hid _ := spec_l07at a cap n xs ad ra w hs hl ho hra
  obtain ⟨had0, had1⟩ := had
  have h4 : n ≤ 4 := by rw [← hl]; exact ho.1
  obtain ⟨hz, hk⟩ := hacc
  by_cases h1 : Int.tmod ad size = 0
  rotate_left
  · obtain rfl : r = 1 := by
      rcases hr with ⟨_, h2⟩ | ⟨h2, _⟩ | ⟨h2, _⟩ | ⟨h2, _⟩
      · exact h2
      all_goals exact absurd h2 h1
    clear hs hl ho hra hr HA
    rcases hz with rfl | rfl
    · exact absurd (by simp) h1
    rw [Int.tmod_eq_emod_of_nonneg had0] at h1
    have h1'' : (ad % 4 != 0) = true := by simpa using h1
    clear h1
    have hw := wrap_u32 had0 had1
    go_enter Try.func18, Try.ntmps18
    go_wp2
    go_ret
    exact ⟨rfl, Below.refl _ _⟩
  have h1e : ad % size = 0 := by rw [← Int.tmod_eq_emod_of_nonneg had0]; exact h1
  by_cases h2 : ra < 0
  · obtain rfl : r = 2 := by
      rcases hr with ⟨h3, _⟩ | ⟨_, _, h3⟩ | ⟨_, h3, _⟩ | ⟨_, h3, _⟩
      · exact absurd h1 h3
      · exact h3
      all_goals exact absurd h2 (by omega)
    clear hs hl ho hra hr h1
    have hw := wrap_u32 had0 had1
    rcases hz with rfl | rfl
    all_goals
      go_enter Try.func18, Try.ntmps18
      go_wp2_with fail
      refine Calls.mono HA.out ?_
      rintro u w1 ⟨rfl, hb1⟩
      have HB : Hid _ := hb1
      clear hb1
      go_wp2
      go_ret
      exact ⟨rfl, HB.out⟩
  obtain ⟨k, hkk, hkn⟩ := hra.there (by omega)
  obtain ⟨b, off, rfl, hlt, pk⟩ := hs.at k (by rw [hl]; exact hkn)
  have hpm := (WsOk.at ho (show k < xs.length by rw [hl]; exact hkn)).2.2.2.2.2
  have hbit := alw_bit hpm hk
  subst hkk
  rw [Int.toNat_natCast] at hr
  have hrr : (alw (xs.getD k wn0).2.2 kind = false ∧ r = 3) ∨ (alw (xs.getD k wn0).2.2 kind = true ∧ r = 0) := by
    rcases hr with ⟨h3, _⟩ | ⟨_, h3, _⟩ | ⟨_, _, h3, h5⟩ | ⟨_, _, h3, h5⟩
    · exact absurd h1 h3
    · exact absurd h3 h2
    · exact .inl ⟨h3, h5⟩
    · exact .inr ⟨h3, h5⟩
  have HPK : Hid (∀ X, Below w.heap.size w X → X.cell? ⟨b, off + k * 3 + 2, none⟩ = some (.int .i64 (xs.getD k wn0).2.2)) := fun X hX => (hX.cell (p := ⟨b, _, none⟩) hlt).trans pk.2.2
  generalize (xs.getD k wn0).2.2 = p at HPK hpm hbit hrr
  clear hs hl ho hra hr pk hlt h2 h1
  have hkn' : (k : Int) < (n : Int) := by omega
  have hk0 : ¬ ((k : Int) < 0) := by omega
  have hw := wrap_u32 had0 had1
  rcases hrr with ⟨ha, rfl⟩ | ⟨ha, rfl⟩
  all_goals
    rw [ha] at hbit
    simp only [Bool.not_true, Bool.not_false] at hbit
    clear ha hpm
    rcases hz with rfl | rfl <;> rcases hk with rfl | rfl | rfl
    all_goals
      try rw [Int.tdiv_one] at hbit
      go_enter Try.func18, Try.ntmps18
      go_wp2_with fail
      refine Calls.mono HA.out ?_
      rintro u w1 ⟨rfl, hb1⟩
      have HB : Hid _ := hb1
      have c2 := HPK.out _ hb1
      clear hb1
      go_wp2
      go_ret
      exact ⟨rfl, HB.out⟩
end Go.Proofs.Ytanffdedignegaa
