
/-
  What is read of a guest, by the specification and by the program: the same word, the same fault. Conditions: lengths are lengths of slices, numbers are numbers of their kinds.
-/
import Derived.Test.YtjlhkjiccibgdaaBas
import Derived.Test.YtjlhkjiccibgdaaProg
import Derived.Test.YtjlhkjiccibgdaaLod
import Derived.Test.YtjlhkjiccibgdaaGop
namespace Go.Proofs.Ytjlhkjiccibgdaa
open Go.ChangeShapes Go.WideShapes Go.ChangeAt Go.RowKit Go.Deep
set_option linter.unusedVariables false

/-- What an access of a right guest comes to: the fault 'r', or the word 'v'. -/
def RdP (xs : List Wn) (n : Nat) (D : Nat → List Int) (ad size kind v r : Int) : Prop :=
  ∃ ra, AtP xs n ad ra ∧ ((AccP size kind ∧ FauP size kind ad ra (xs.getD ra.toNat wn0).2.2 r) ∨ (¬ AccP size kind ∧ r = 9)) ∧ ((¬ r = 0 ∧ v = 0) ∨ (r = 0 ∧ ∃ K fr S bs, ra = ((K : Nat) : Int) ∧ AccIn xs n D ad size K fr S bs ∧ v = getW D K fr S))
theorem RdP.ex {xs : List Wn} {rs : List Int} {n : Nat} {D : Nat → List Int} (hg : GOk xs rs n D) (ad size kind : Int) : ∃ v r, RdP xs n D ad size kind v r := by
  obtain ⟨ra, hra⟩ := AtP.ex xs ad n
  by_cases hacc : AccP size kind
  · obtain ⟨r, hr⟩ := FauP.ex size kind ad ra (xs.getD ra.toNat wn0).2.2
    by_cases h0 : r = 0
    · subst h0
      obtain ⟨K, fr, S, bs, e, hin⟩ := acc_in hg hra hacc hr
      exact ⟨getW D K fr S, 0, ra, hra, .inl ⟨hacc, hr⟩, .inr ⟨rfl, K, fr, S, bs, e, hin, rfl⟩⟩
    · exact ⟨0, r, ra, hra, .inl ⟨hacc, hr⟩, .inl ⟨h0, rfl⟩⟩
  · exact ⟨0, 9, ra, hra, .inr ⟨hacc, rfl⟩, .inl ⟨by omega, rfl⟩⟩
theorem fault_i {xs : List Wn} {rs : List Int} {n : Nat} {D : Nat → List Int} {ad size kind v r : Int} (hg : GOk xs rs n D) (h : RdP xs n D ad size kind v r) (a : Option Addr) (cap : Nat) (X : World) (hs : ASeg X a xs) (hf : Fit xs) (hc : n ≤ cap) (had : 0 ≤ ad ∧ ad < 4294967296) :
    Calls Try.prog 68 #[.slice a n cap, .int .u32 ad, .int .i64 size, .int .i64 kind] X fun e w' => e = .returned (.int .i64 r) ∧ Below X.heap.size X w' := by
  obtain ⟨ra, hra, hr, _⟩ := h
  have h4 := hg.1.1
  have hn := hg.2.2.2.1
  refine impl_fault a cap n xs true ad ra size kind r X hs hf hn.symm (by omega) hc ⟨fun _ => hg.1, fun _ => rfl⟩ had (fun _ => hra) (fun _ hacc => ?_) (fun h => ?_)
  · rcases hr with ⟨_, h⟩ | ⟨h, _⟩
    · exact h
    · exact absurd hacc h
  · rcases hr with ⟨g, _⟩ | ⟨_, g⟩
    · rcases h with h | h
      · cases h
      · exact absurd g h
    · exact g
theorem fault_s {xs : List Wn} {rs : List Int} {n : Nat} {D : Nat → List Int} {ad size kind v r : Int} (hg : GOk xs rs n D) (h : RdP xs n D ad size kind v r) (a : Option Addr) (cap : Nat) (X : World) (hs : ASeg X a xs) (had : 0 ≤ ad ∧ ad < 4294967296) :
    Calls Try.prog 35 #[.slice a n cap, .int .u32 ad, .int .i64 size, .int .i64 kind] X fun e w' => e = .returned (.int .i64 r) ∧ Below X.heap.size X w' := by
  obtain ⟨ra, hra, hr, _⟩ := h
  have h4 := hg.1.1
  have hn := hg.2.2.2.1
  refine spec_fault a cap n xs true ad ra size kind r X hs hn.symm (by omega) ⟨fun _ => hg.1, fun _ => rfl⟩ had (fun _ => hra) (fun _ hacc => ?_) (fun h => ?_)
  · rcases hr with ⟨_, h⟩ | ⟨h, _⟩
    · exact h
    · exact absurd hacc h
  · rcases hr with ⟨g, _⟩ | ⟨_, g⟩
    · rcases h with h | h
      · cases h
      · exact absurd g h
    · exact g
theorem fault_l {xs : List Wn} {rs : List Int} {n : Nat} {D : Nat → List Int} {ad size kind v r : Int} (hg : GOk xs rs n D) (h : RdP xs n D ad size kind v r) (hacc : AccP size kind) (a : Option Addr) (cap : Nat) (X : World) (hs : ASeg X a xs) (had : 0 ≤ ad ∧ ad < 4294967296) :
    Calls Try.prog 52 #[.slice a n cap, .int .u32 ad, .int .i64 size, .int .i64 kind] X fun e w' => e = .returned (.int .i64 r) ∧ Below X.heap.size X w' := by
  obtain ⟨ra, hra, hr, _⟩ := h
  have hn := hg.2.2.2.1
  rcases hr with ⟨_, h⟩ | ⟨h, _⟩
  · exact spec_l07fault a cap n xs ad ra size kind r X hs hn.symm hg.1 had hacc hra h
  · exact absurd hacc h
end Go.Proofs.Ytjlhkjiccibgdaa
