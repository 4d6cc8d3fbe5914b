
/-
  Of a drawn access: nothing stands against it just when one window has all its bytes and the kind; a byte is in at most one window; Reach counts the bytes that some window has. Conditions: the bytes drawn from are at most 1048576.
-/
import Derived.Test.YtfdjfjkbbfcodaaBas
import Derived.Test.YtfdjfjkbbfcodaaProg
import Derived.Test.YtfdjfjkbbfcodaaDfa
import Derived.Test.YtfdjfjkbbfcodaaFlt
import Derived.Test.YtfdjfjkbbfcodaaSrh
namespace Go.Proofs.Ytfdjfjkbbfcodaa
open Go.ChangeShapes Go.WideShapes Go.ChangeAt Go.RowKit Go.Deep
set_option linter.unusedVariables false
set_option maxRecDepth 20000

theorem big_no (a : Option Addr) (n cap : Nat) (w : World) (h : n ≤ 1048576) : Calls Try.prog 44 #[.slice a n cap] w fun e w' => e = .returned (.bool false) ∧ w' = w := by
  have h1 : decide (1048576 < (n : Int)) = false := decide_eq_false (by omega)
  go_enter Try.func44, Try.ntmps44
  go_wp2
  go_ret
  exact ⟨rfl, rfl⟩
theorem big_yes (a : Option Addr) (n cap : Nat) (w : World) (h : ¬ n ≤ 1048576) : Calls Try.prog 44 #[.slice a n cap] w fun e w' => e = .returned (.bool true) ∧ w' = w := by
  have h1 : decide (1048576 < (n : Int)) = true := decide_eq_true (by omega)
  go_enter Try.func44, Try.ntmps44
  go_wp2
  go_ret
  exact ⟨rfl, rfl⟩
theorem OwnZ.seg {w : World} {base : Nat} {m g c1 : Nat} (h : OwnZ w base (.slice (some ⟨g, 0, none⟩) m c1) m) : ∃ xs : List Wn, xs.length = m ∧ ASeg w (some ⟨g, 0, none⟩) xs ∧ Fit xs := by
  obtain ⟨Z, hZ⟩ := choose_lt (α := Wn) (n := m) (p := fun i z => A3 w g (i * 3) z ∧ Sm z.2.1) (fun i hi => by
    obtain ⟨x0, h0, e0⟩ := h.cell (i * 3) (by omega)
    obtain ⟨x1, h1, e1⟩ := h.cell (i * 3 + 1) (by omega)
    obtain ⟨x2, h2, e2⟩ := h.cell (i * 3 + 2) (by omega)
    exact ⟨(x0, x1, x2), ⟨e0, e1, e2⟩, h1⟩)
  have hg : ∀ i, i < m → ((List.range m).map Z).getD i wn0 = Z i := fun i hi => by simp [List.getD, hi]
  refine ⟨(List.range m).map Z, by simp, fun h0 => ?_, fun i hi => ?_⟩
  · refine ⟨g, 0, rfl, ?_, fun i hi => ?_⟩
    · simp only [List.length_map, List.length_range] at h0
      exact World.block_lt_of_cell? w _ (hZ 0 h0).1.1
    · simp only [List.length_map, List.length_range] at hi
      rw [hg i hi, Nat.zero_add]
      exact (hZ i hi).1
  · simp only [List.length_map, List.length_range] at hi
    rw [hg i hi]
    have := (hZ i hi).2.2
    omega
theorem alw_one {p k : Int} (hp : 1 ≤ p ∧ p ≤ 7) (hk : k = 1 ∨ k = 2 ∨ k = 4) : (Int.tmod (wrap64 (Int.tdiv p k)) 2 == 1) = alw p k := by
  rcases one7 hp with rfl | rfl | rfl | rfl | rfl | rfl | rfl <;> rcases hk with rfl | rfl | rfl <;> decide +kernel
/-- What the law's loop has counted behind 'k' windows. -/
def WSt (xs : List Wn) (ad ra : Int) (so : Bool) (k : Nat) (cnt : Int) (sm : Bool) : Prop :=
  ((∀ i, i < k → ¬ Has (xs.getD i wn0) ad) ∧ cnt = 0 ∧ sm = false) ∨ (∃ j : Nat, j < k ∧ ra = j ∧ Has (xs.getD j wn0) ad ∧ cnt = 1 ∧ sm = so)
theorem WSt.no {xs : List Wn} {ad ra : Int} {so : Bool} {k : Nat} {cnt : Int} {sm : Bool} (h : WSt xs ad ra so k cnt sm) (hn : ¬ Has (xs.getD k wn0) ad) : WSt xs ad ra so (k + 1) cnt sm := by
  rcases h with ⟨h1, h2⟩ | ⟨j, h1, h2⟩
  · refine .inl ⟨fun i hi => ?_, h2⟩
    by_cases e : i = k
    · subst e; exact hn
    · exact h1 i (by omega)
  · exact .inr ⟨j, by omega, h2⟩
theorem WSt.yes {xs : List Wn} {ad ra : Int} {so : Bool} {k n : Nat} {cnt : Int} {sm : Bool} (h : WSt xs ad ra so k cnt sm) (ho : WsTo xs n) (hk : k < n) (hr : AtP xs n ad ra) (hh : Has (xs.getD k wn0) ad) : ra = k ∧ cnt = 0 ∧ sm = false ∧ WSt xs ad ra so (k + 1) 1 so := by
  rcases h with ⟨h1, h2, h3⟩ | ⟨j, h1, h2, h3, _⟩
  · have e : ra = k := AtP.uniq hr (.inr ⟨k, hk, rfl, hh, h1⟩)
    exact ⟨e, h2, h3, .inr ⟨k, by omega, e, hh, rfl, rfl⟩⟩
  · exact absurd hh (fun g => apart_has ((ho k hk).2 j h1) h3 g)
theorem WSt.cnt {xs : List Wn} {ad ra : Int} {so : Bool} {k : Nat} {cnt : Int} {sm : Bool} (h : WSt xs ad ra so k cnt sm) : cnt = 0 ∨ cnt = 1 := by
  rcases h with ⟨_, h, _⟩ | ⟨_, _, _, _, h, _⟩
  · exact .inl h
  · exact .inr h
/-- An aligned access at an address of a right window lies within it. -/
theorem WOk.within {x : Wn} {ad sz : Int} (h : WOk x) (hh : Has x ad) (hz : sz = 1 ∨ sz = 4) (hm : ad % sz = 0) : ad + sz ≤ x.1 + x.2.1 := by
  obtain ⟨h1, h2, h3, h4, h5, _⟩ := h
  obtain ⟨g1, g2⟩ := hh
  rcases hz with rfl | rfl <;> omega
end Go.Proofs.Ytfdjfjkbbfcodaa
