
/-
  A register of a guest set, by the specification and by the program: the same guest, in memory of the call's own. Conditions: registers, rows and bytes are at most 1048576 together.
-/
import Derived.Test.YtanffdedignegaaBas
import Derived.Test.YtanffdedignegaaProg
import Derived.Test.YtanffdedignegaaGsc
namespace Go.Proofs.Ytanffdedignegaa
open Go.ChangeShapes Go.WideShapes Go.ChangeAt Go.RowKit Go.Deep
set_option linter.unusedVariables false

def setR (rs : List Int) (k : Nat) (x : Int) : List Int := if k = 0 then rs else rs.set k x
theorem setR_len (rs : List Int) (k : Nat) (x : Int) : (setR rs k x).length = rs.length := by unfold setR; split <;> simp
theorem ON.put {k : IntKind} {w : World} {lo hi : Nat} {a : Option Addr} {zs : List Int} {R : Nat} (h : ON k w lo hi a zs R) (i : Nat) (hi' : i < zs.length) (v : Int) :
    ∃ off, a = some ⟨R, off, none⟩ ∧ (∃ u, w.cell? ⟨R, off + i, none⟩ = some u) ∧ w.frozen? ⟨R, off + i, none⟩ = false ∧ Betw R (R + 1) w (w.setCell ⟨R, off + i, none⟩ (.int k v)) ∧ ON k (w.setCell ⟨R, off + i, none⟩ (.int k v)) lo hi a (zs.set i v) R := by
  obtain ⟨off, e, h1, h2, hlt, hc, hf⟩ := h (by omega)
  refine ⟨off, e, ⟨_, hc i hi'⟩, hf _, (Betw.refl _ _ _).setCell (p := ⟨R, off + i, none⟩) (Nat.le_refl _) (Nat.lt_succ_self _) _, fun _ => ⟨off, e, h1, h2, by simpa using hlt, fun j hj => ?_, fun j => by rw [World.frozen?_setCell]; exact hf j⟩⟩
  rw [List.length_set] at hj
  by_cases c : i = j
  · subst c
    rw [World.cell?_setCell_same _ _ _ (hc i hi')]
    simp [hi', List.getD]
  · rw [World.cell?_setCell_other _ _ _ _ (by intro c'; injection c' with c1 c2 c3; omega), hc j hj]
    simp [c, List.getD]
theorem Sep.set {w : World} {lo hi : Nat} {ra ma : Option Addr} {rs : List Int} {n : Nat} {D : Nat → List Int} (h : Sep w lo hi ra ma rs n D) (h0 : 0 < rs.length) :
    ∃ R, ON .u32 w lo hi ra rs R ∧ ∀ w' rs', Betw R (R + 1) w w' → ON .u32 w' lo hi ra rs' R → Sep w' lo hi ra ma rs' n D := by
  obtain ⟨l2, h2, g1, g2, hm, R, hr, g3⟩ := h
  exact ⟨R, hr, fun w' rs' hb hon => ⟨l2, h2, g1, g2, hm.betw hb (by have := g3 h0; omega), R, hon, fun _ => g3 h0⟩⟩
theorem OGst.set {w : World} {lo m hi : Nat} {ra ma : Option Addr} {rs : List Int} {n : Nat} {D : Nat → List Int} (h : OGst w lo m hi ra ma rs n D) (h0 : 0 < rs.length) :
    ∃ R, ON .u32 w lo m ra rs R ∧ ∀ w' rs', Betw R (R + 1) w w' → ON .u32 w' lo m ra rs' R → OGst w' lo m hi ra ma rs' n D := by
  obtain ⟨⟨R, hr⟩, hm⟩ := h
  exact ⟨R, hr, fun w' rs' hb hon => ⟨⟨R, hon⟩, hm.betw hb (by have := hr.range h0; omega)⟩⟩
def noD : Nat → List Int := fun _ => []
theorem btot_no (n : Nat) : btot noD n = 0 := by
  induction n with
  | zero => rfl
  | succ n ih => simp only [btot, ih, noD, List.length_nil]
theorem og_no (w : World) (lo m hi : Nat) : OGst w lo m hi none none [] 0 noD :=
  ⟨⟨0, ON.nil _ _ _ _ _ _⟩, 0, 0, fun _ => none, fun _ => 0, fun _ => 0, fun h => absurd h (by omega), ⟨fun i hi => absurd hi (by omega), fun i hi => absurd hi (by omega), fun i hi => absurd hi (by omega), fun i hi => absurd hi (by omega), fun i j hi => absurd hi (by omega)⟩⟩
/-- What a call that answers with a guest tells: the specification's, the program's own. -/
def GAns (X : World) (rs : List Int) (rl : Nat) (pc : Int) (n : Nat) (D : Nat → List Int) (e : Ending) (w' : World) : Prop :=
  ∃ ra' ma' rc' mc', e = .returned (gst ra' rl rc' pc ma' n mc') ∧ Below X.heap.size X w' ∧ XGSeg w' ra' ma' rs n D
def OAns (X : World) (rs : List Int) (rl : Nat) (pc : Int) (n : Nat) (D : Nat → List Int) (e : Ending) (w' : World) : Prop :=
  ∃ ra' ma' rc' mc' m, e = .returned (gst ra' rl rc' pc ma' n mc') ∧ Below X.heap.size X w' ∧ OGst w' X.heap.size m w'.heap.size ra' ma' rs n D ∧ X.heap.size ≤ m ∧ m ≤ w'.heap.size
end Go.Proofs.Ytanffdedignegaa
