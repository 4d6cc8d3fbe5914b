
/-
  Writing into a guest, by the specification and by the program: the same guest, in memory of the call's own, and the same fault. Conditions: registers, rows and bytes are at most 1048576 together.
-/
import Derived.Test.YtanffdedignegaaBas
import Derived.Test.YtanffdedignegaaProg
import Derived.Test.YtanffdedignegaaSto
import Derived.Test.YtanffdedignegaaAlz
namespace Go.Proofs.Ytanffdedignegaa
open Go.ChangeShapes Go.WideShapes Go.ChangeAt Go.RowKit Go.Deep
set_option linter.unusedVariables false

def putD (D : Nat → List Int) (K fr S : Nat) (x : Int) : Nat → List Int := fun i => if i = K then putRow (D K) fr S x else D i
theorem putD_len (D : Nat → List Int) (K fr S : Nat) (x : Int) (i : Nat) : (putD D K fr S x i).length = (D i).length := by
  unfold putD
  by_cases e : i = K
  · subst e; rw [if_pos rfl, putRow_len]
  · rw [if_neg e]
/-- What writing comes to: the fault, and the memory behind it. -/
def PkP (xs : List Wn) (n : Nat) (D : Nat → List Int) (ad size x r : Int) (D1 : Nat → List Int) : Prop :=
  ∃ v, RdP xs n D ad size 2 v r ∧ ((¬ r = 0 ∧ D1 = D) ∨ (r = 0 ∧ ∃ K fr S bs, AtP xs n ad ((K : Nat) : Int) ∧ AccIn xs n D ad size K fr S bs ∧ D1 = putD D K fr S x))
theorem PkP.ex {xs : List Wn} {rs : List Int} {n : Nat} {D : Nat → List Int} (hg : GOk xs rs n D) (ad size x : Int) : ∃ r D1, PkP xs n D ad size x r D1 ∧ ∀ i, (D1 i).length = (D i).length := by
  obtain ⟨v, r, h⟩ := RdP.ex hg ad size 2
  by_cases h0 : r = 0
  · subst h0
    have h' := h
    obtain ⟨ra, hra, _, hw⟩ := h'
    rcases hw with ⟨hw, _⟩ | ⟨_, K, fr, S, bs, e, hin, _⟩
    · exact absurd rfl hw
    · subst e
      exact ⟨0, putD D K fr S x, ⟨v, h, .inr ⟨rfl, K, fr, S, bs, hra, hin, rfl⟩⟩, putD_len D K fr S x⟩
  · exact ⟨r, D, ⟨v, h, .inl ⟨h0, rfl⟩⟩, fun _ => rfl⟩
theorem brows_row {w : World} {lo hi : Nat} {ma : Option Addr} {n : Nat} {D : Nat → List Int} (h : BRows w lo hi ma n D) (K : Nat) (hK : K < n) (h0 : 0 < (D K).length) :
    ∃ b2 o2 bi oi ci, ma = some ⟨b2, o2, none⟩ ∧ w.cell? ⟨b2, o2 + K, none⟩ = some (.slice (some ⟨bi, oi, none⟩) (D K).length ci) ∧ (D K).length ≤ ci ∧ b2 ≠ bi ∧ lo ≤ bi ∧ bi < hi ∧ bi < w.heap.size ∧ ON .u8 w lo hi (some ⟨bi, oi, none⟩) (D K) bi ∧
      ∀ w' ws, ws.length = (D K).length → Betw bi (bi + 1) w w' → ON .u8 w' lo hi (some ⟨bi, oi, none⟩) ws bi → BRows w' lo hi ma n (fun i => if i = K then ws else D i) := by
  obtain ⟨B, off, A, C, R, h1, h2⟩ := h
  obtain ⟨e, g1, g2, g3⟩ := h1 (by omega)
  have hrow := h2.row K hK
  obtain ⟨oi, e1, k1, k2, k3, k4, k5⟩ := hrow h0
  have hb := h2.base K hK h0
  have hcl := h2.cell K hK
  rw [e1] at hcl hrow
  refine ⟨B, off, R K, oi, C K, e, hcl, h2.room K hK, fun c => hb c.symm, k1, k2, k3, hrow, fun w' ws hl hbt hon => ?_⟩
  refine ⟨B, off, A, C, R, fun _ => ⟨e, g1, g2, Nat.lt_of_lt_of_le g3 hbt.size⟩, h2.put K hK g3 ws hl hbt ?_ h0⟩
  rw [e1]
  exact hon
theorem betw00 {w w' : World} (h : Betw 0 0 w w') : Below w.heap.size w w' := ⟨h.os, h.tape, h.output, h.size, fun k hk => h.block k hk (.inr (Nat.zero_le _))⟩
theorem seg_lt2 {w : World} {a : Option Addr} {xs : List Wn} {K : Nat} (h : ASeg w a xs) (hK : K < xs.length) : ∃ b1 o1, a = some ⟨b1, o1, none⟩ ∧ b1 < w.heap.size ∧ w.cell? ⟨b1, o1 + K * 3, none⟩ = some (.int .i64 (xs.getD K wn0).1) := by
  obtain ⟨b1, o1, e, hbl, p0, _, _⟩ := ASeg.at h K hK
  exact ⟨b1, o1, e, hbl, p0⟩
def PAns (X : World) (rs : List Int) (rl : Nat) (pc : Int) (n : Nat) (D : Nat → List Int) (r : Int) (e : Ending) (w' : World) : Prop :=
  ∃ ra' ma' rc' mc', e = .returned (.tuple #[gst ra' rl rc' pc ma' n mc', .int .i64 r]) ∧ Below X.heap.size X w' ∧ Sep w' X.heap.size w'.heap.size ra' ma' rs n D
def QAns (X : World) (rs : List Int) (rl : Nat) (pc : Int) (n : Nat) (D : Nat → List Int) (r : Int) (e : Ending) (w' : World) : Prop :=
  ∃ ra' ma' rc' mc' m, e = .returned (.tuple #[gst ra' rl rc' pc ma' n mc', .int .i64 r]) ∧ Below X.heap.size X w' ∧ OGst w' X.heap.size m w'.heap.size ra' ma' rs n D ∧ X.heap.size ≤ m ∧ m ≤ w'.heap.size
theorem sep_no (w : World) (lo hi : Nat) (h : lo ≤ hi) : Sep w lo hi none none [] 0 noD := (og_no w lo lo hi).sep (Nat.le_refl _) h
end Go.Proofs.Ytanffdedignegaa
