
/-
  Where an access that nothing stands against lies in a guest's memory, and the word that is read there by the specification. Conditions: the guest is right for its windows.
-/
import Derived.Test.YtanffdedignegaaBas
import Derived.Test.YtanffdedignegaaProg
import Derived.Test.YtanffdedignegaaGok
import Derived.Test.YtanffdedignegaaFlt
import Derived.Test.YtanffdedignegaaWof
namespace Go.Proofs.Ytanffdedignegaa
open Go.ChangeShapes Go.WideShapes Go.ChangeAt Go.RowKit Go.Deep
set_option linter.unusedVariables false

def bt (D : Nat → List Int) (K i : Nat) : Int := (D K).getD i 0
/-- The word of 'S' bytes in row 'K' from place 'fr' on. -/
def getW (D : Nat → List Int) (K fr S : Nat) : Int := if S = 1 then bt D K fr else bt D K fr + 256 * bt D K (fr + 1) + 65536 * bt D K (fr + 2) + 16777216 * bt D K (fr + 3)
/-- An access of 'S' bytes at 'ad' lies in row 'K' from place 'fr' on; the window begins at 'bs'. -/
structure AccIn (xs : List Wn) (n : Nat) (D : Nat → List Int) (ad size : Int) (K fr S : Nat) (bs : Int) : Prop where
  lt : K < n
  base : (xs.getD K wn0).1 = bs
  bs0 : 0 ≤ bs
  bs1 : bs ≤ 2048
  at_ : ad = bs + (fr : Int)
  sz : size = (S : Int)
  s14 : S = 1 ∨ S = 4
  inn : fr + S ≤ (D K).length
  len : (D K).length ≤ 2048
theorem acc_in {xs : List Wn} {rs : List Int} {n : Nat} {D : Nat → List Int} {ad ra size kind p : Int} (hg : GOk xs rs n D) (hat : AtP xs n ad ra) (hacc : AccP size kind) (hf : FauP size kind ad ra p 0) : ∃ K fr S bs, ra = ((K : Nat) : Int) ∧ AccIn xs n D ad size K fr S bs := by
  obtain ⟨hw, _, _, hn, hrow⟩ := hg
  rcases hf with ⟨_, h⟩ | ⟨_, _, h⟩ | ⟨_, _, _, h⟩ | ⟨hm, h0, _, _⟩
  · cases h
  · cases h
  · cases h
  · rcases hat with ⟨h1, _⟩ | ⟨K, hK, rfl, ⟨hb1, hb2⟩, _⟩
    · omega
    · have hwo : WOk (xs.getD K wn0) := hw.at (by omega)
      have hr := hrow K hK
      obtain ⟨g1, g2, g3, g4, g5, _⟩ := hwo
      rcases hxe : xs.getD K wn0 with ⟨b, s, q⟩
      rw [hxe] at hb1 hb2 hr g1 g2 g3 g4 g5
      simp only at hb1 hb2 hr g1 g2 g3 g4 g5
      obtain ⟨fr, hfr⟩ := Int.eq_ofNat_of_zero_le (show 0 ≤ ad - b by omega)
      rcases hacc.1 with rfl | rfl
      · exact ⟨K, fr, 1, b, rfl, hK, by rw [hxe], g1, by omega, by omega, rfl, .inl rfl, by omega, by omega⟩
      · have hm4 := (tm4 ad).1 hm
        exact ⟨K, fr, 4, b, rfl, hK, by rw [hxe], g1, by omega, by omega, rfl, .inr rfl, by omega, by omega⟩
end Go.Proofs.Ytanffdedignegaa
