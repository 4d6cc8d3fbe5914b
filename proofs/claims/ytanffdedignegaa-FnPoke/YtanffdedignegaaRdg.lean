
/-
  What is read of a guest, by the specification and by the program: the same word, the same fault. Conditions: lengths are lengths of slices, numbers are numbers of their kinds.
-/
import Derived.Test.YtanffdedignegaaBas
import Derived.Test.YtanffdedignegaaProg
import Derived.Test.YtanffdedignegaaLod
import Derived.Test.YtanffdedignegaaGop
namespace Go.Proofs.Ytanffdedignegaa
open Go.ChangeShapes Go.WideShapes Go.ChangeAt Go.RowKit Go.Deep
set_option linter.unusedVariables false

/-- What an access of a right guest comes to: the fault 'r', or the word 'v'. -/
def RdP (xs : List Wn) (n : Nat) (D : Nat → List Int) (ad size kind v r : Int) : Prop :=
  ∃ ra, AtP xs n ad ra ∧ ((AccP size kind ∧ FauP size kind ad ra (xs.getD ra.toNat wn0).2.2 r) ∨ (¬ AccP size kind ∧ r = 9)) ∧ ((¬ r = 0 ∧ v = 0) ∨ (r = 0 ∧ ∃ K fr S bs, ra = ((K : Nat) : Int) ∧ AccIn xs n D ad size K fr S bs ∧ v = getW D K fr S))
theorem RdP.ex {xs : List Wn} {rs : List Int} {n : Nat} {D : Nat → List Int} (hg : GOk xs rs n D) (ad size kind : Int) : ∃ v r, RdP xs n D ad size kind v r := by
  obtain ⟨ra, hra⟩ := AtP.ex xs ad n
  by_cases hacc : AccP size kind
  · obtain ⟨r, hr⟩ := FauP.ex size kind ad ra (xs.getD ra.toNat wn0).2.2
    by_cases h0 : r = 0
    · subst h0
      obtain ⟨K, fr, S, bs, e, hin⟩ := acc_in hg hra hacc hr
      exact ⟨getW D K fr S, 0, ra, hra, .inl ⟨hacc, hr⟩, .inr ⟨rfl, K, fr, S, bs, e, hin, rfl⟩⟩
    · exact ⟨0, r, ra, hra, .inl ⟨hacc, hr⟩, .inl ⟨h0, rfl⟩⟩
  · exact ⟨0, 9, ra, hra, .inr ⟨hacc, rfl⟩, .inl ⟨by omega, rfl⟩⟩
theorem fault_i {xs : List Wn} {rs : List Int} {n : Nat} {D : Nat → List Int} {ad size kind v r : Int} (hg : GOk xs rs n D) (h : RdP xs n D ad size kind v r) (a : Option Addr) (cap : Nat) (X : World) (hs : ASeg X a xs) (hf : Fit xs) (hc : n ≤ cap) (had : 0 ≤ ad ∧ ad < 4294967296) :
    Calls Try.prog 9 #[.slice a n cap, .int .u32 ad, .int .i64 size, .int .i64 kind] X fun e w' => e = .returned (.int .i64 r) ∧ Below X.heap.size X w' := by
  obtain ⟨ra, hra, hr, _⟩ := h
  have h4 := hg.1.1
  have hn := hg.2.2.2.1
  refine impl_fault a cap n xs true ad ra size kind r X hs hf hn.symm (by omega) hc ⟨fun _ => hg.1, fun _ => rfl⟩ had (fun _ => hra) (fun _ hacc => ?_) (fun h => ?_)
  · rcases hr with ⟨_, h⟩ | ⟨h, _⟩
    · exact h
    · exact absurd hacc h
  · rcases hr with ⟨g, _⟩ | ⟨_, g⟩
    · rcases h with h | h
      · cases h
      · exact absurd g h
    · exact g
theorem fault_s {xs : List Wn} {rs : List Int} {n : Nat} {D : Nat → List Int} {ad size kind v r : Int} (hg : GOk xs rs n D) (h : RdP xs n D ad size kind v r) (a : Option Addr) (cap : Nat) (X : World) (hs : ASeg X a xs) (had : 0 ≤ ad ∧ ad < 4294967296) :
    Calls Try.prog 7 #[.slice a n cap, .int .u32 ad, .int .i64 size, .int .i64 kind] X fun e w' => e = .returned (.int .i64 r) ∧ Below X.heap.size X w' := by
  obtain ⟨ra, hra, hr, _⟩ := h
  have h4 := hg.1.1
  have hn := hg.2.2.2.1
  refine spec_fault a cap n xs true ad ra size kind r X hs hn.symm (by omega) ⟨fun _ => hg.1, fun _ => rfl⟩ had (fun _ => hra) (fun _ hacc => ?_) (fun h => ?_)
  · rcases hr with ⟨_, h⟩ | ⟨h, _⟩
    · exact h
    · exact absurd hacc h
  · rcases hr with ⟨g, _⟩ | ⟨_, g⟩
    · rcases h with h | h
      · cases h
      · exact absurd g h
    · exact g
theorem fault_l {xs : List Wn} {rs : List Int} {n : Nat} {D : Nat → List Int} {ad size kind v r : Int} (hg : GOk xs rs n D) (h : RdP xs n D ad size kind v r) (hacc : AccP size kind) (a : Option Addr) (cap : Nat) (X : World) (hs : ASeg X a xs) (had : 0 ≤ ad ∧ ad < 4294967296) :
    Calls Try.prog 18 #[.slice a n cap, .int .u32 ad, .int .i64 size, .int .i64 kind] X fun e w' => e = .returned (.int .i64 r) ∧ Below X.heap.size X w' := by
  obtain ⟨ra, hra, hr, _⟩ := h
  have hn := hg.2.2.2.1
  rcases hr with ⟨_, h⟩ | ⟨h, _⟩
  · exact spec_l07fault a cap n xs ad ra size kind r X hs hn.symm hg.1 had hacc hra h
  · exact absurd hacc h
theorem load_i {xs : List Wn} {rs : List Int} {n : Nat} {D : Nat → List Int} {ad size kind v : Int} (hg : GOk xs rs n D) (h : RdP xs n D ad size kind v 0) (hb8 : ∀ i, i < n → ∀ z ∈ D i, (Lit.int .u8 z).wf = true) (a ra ma : Option Addr) (cap rl rc mc : Nat) (pc : Int) (X : World) (hs : ASeg X a xs) (hf : Fit xs) (hc : n ≤ cap) (hm : BSeg X ma n D) (had : 0 ≤ ad ∧ ad < 4294967296) :
    Calls Try.prog 47 #[gst ra rl rc pc ma n mc, .slice a n cap, .int .u32 ad, .int .i64 size, .int .i64 kind] X fun e w' => e = .returned (.int .u32 v) ∧ Below X.heap.size X w' := by
  have hft : ∀ Y, Below X.heap.size X Y → Calls Try.prog 9 #[.slice a n cap, .int .u32 ad, .int .i64 size, .int .i64 kind] Y fun e w' => e = .returned (.int .i64 0) ∧ Below Y.heap.size Y w' := fun Y hY => fault_i hg h a cap Y (hs.below hY) hf hc had
  obtain ⟨ra', hra, _, h⟩ := h
  have hn := hg.2.2.2.1
  have h4 := hg.1.1
  rcases h with ⟨h, _⟩ | ⟨_, K, fr, S, bs, rfl, hin, rfl⟩
  · exact absurd rfl h
  · obtain ⟨k1, k2, k3, k4, rfl, rfl, k7, k8, k9⟩ := hin
    have hat : ∀ Y, Below X.heap.size X Y → Calls Try.prog 26 #[.slice a n cap, .int .i64 (bs + (fr : Int))] Y fun e w' => e = .returned (.int .i64 (K : Int)) ∧ Below Y.heap.size Y w' := fun Y hY => impl_at a cap n xs true _ _ n Y (hs.below hY) hf hn.symm (by omega) hc ⟨fun _ => hg.1, fun _ => rfl⟩ (fun h => by cases h) (fun _ => rfl) hra
    obtain ⟨b1, o1, e, hbl1, p0, p1, p2⟩ := ASeg.at hs K (by omega)
    rw [k2] at p0
    obtain ⟨b2, o2, ai, ci, e2, hbl2, c2, s2, hlc⟩ := BSeg.at' hm K k1
    obtain ⟨bi, oi, e3, hbl3, hc3⟩ := s2 (by omega)
    subst e3 e2
    have hq : ∀ j, fr + j < (D K).length → X.cell? ⟨bi, oi + fr + j, none⟩ = some (.int .u8 (bt D K (fr + j))) := fun j hj => by rw [Nat.add_assoc]; exact hc3 (fr + j) hj
    have hy : ∀ j, fr + j < (D K).length → 0 ≤ bt D K (fr + j) ∧ bt D K (fr + j) ≤ 255 := fun j hj => bounds_u8 (hb8 K k1 _ (getD_mem (D K) (fr + j) hj))
    rcases k7 with rfl | rfl
    · have := load_ok1 a ra cap n rl rc n mc K fr b2 o2 bi oi (D K).length ci pc bs kind (bt D K fr) X hft hat ⟨b1, o1, e, p0⟩ c2 k1 k1 k3 k4 k8 hlc k9 (hq 0 (by omega)) (hy 0 (by omega)).1 (hy 0 (by omega)).2
      rw [getW, if_pos rfl]
      exact this
    · have := load_ok4 a ra cap n rl rc n mc K fr b2 o2 bi oi (D K).length ci pc bs kind (bt D K fr) (bt D K (fr + 1)) (bt D K (fr + 2)) (bt D K (fr + 3)) X hft hat ⟨b1, o1, e, p0⟩ c2 k1 k1 k3 k4 k8 hlc k9 (hq 0 (by omega)) (hy 0 (by omega)).1 (hy 0 (by omega)).2 (hq 1 (by omega)) (hy 1 (by omega)).1 (hy 1 (by omega)).2 (hq 2 (by omega)) (hy 2 (by omega)).1 (hy 2 (by omega)).2 (hq 3 (by omega)) (hy 3 (by omega)).1 (hy 3 (by omega)).2
      rw [getW, if_neg (by omega)]
      exact this
end Go.Proofs.Ytanffdedignegaa
