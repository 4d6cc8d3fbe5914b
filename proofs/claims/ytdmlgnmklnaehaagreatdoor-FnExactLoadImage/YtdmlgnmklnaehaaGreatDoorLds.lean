
/-
  What the specification's LoadImage returns. Conditions: tables and words lie in memory.
-/
import Derived.Test.YtdmlgnmklnaehaaGreatDoorBas
import Derived.Test.YtdmlgnmklnaehaaGreatDoorLdp
namespace Go.Proofs.YtdmlgnmklnaehaaGreatDoor
open Go.ChangeShapes Go.WideShapes Go.ChangeAt Go.RowKit Go.Deep Go.Joins
set_option linter.unusedVariables false

/-- What LoadImage answers: rows of the call's own, and whether. -/
def LdAns (w : World) (n : Nat) (D : Nat → List Int) (q : Bool) (e : Ending) (w' : World) : Prop :=
  ∃ ia ic, e = .returned (.tuple #[.slice ia n ic, .bool q]) ∧ Below w.heap.size w w' ∧ BRows w' w.heap.size w'.heap.size ia n D
theorem brows_nil (w : World) (lo hi : Nat) (a : Option Addr) (D : Nat → List Int) : BRows w lo hi a 0 D := by
  exact ⟨0, 0, fun _ => none, fun _ => 0, fun _ => 0, fun h => absurd h (by omega), ⟨fun i h => absurd h (by omega), fun i h => absurd h (by omega), fun i h => absurd h (by omega), fun i h => absurd h (by omega), fun i j h => absurd h (by omega)⟩⟩
theorem ON.range {k : IntKind} {w : World} {lo hi : Nat} {a : Option Addr} {ws : List Int} {R : Nat} (h : ON k w lo hi a ws R) (h0 : 0 < ws.length) : lo ≤ R ∧ R < hi := by
  obtain ⟨_, _, h1, h2, _⟩ := h h0
  exact ⟨h1, h2⟩
structure LS (w wr : World) (T k : Nat) (D : Nat → List Int) (v : Value) (m : Nat) (A : Nat → Option Addr) (C R : Nat → Nat) : Prop where
  bel : Below w.heap.size w wr
  rows : Bla wr T m v k D A C R
  top : T ≤ wr.heap.size
  lt : w.heap.size < T
theorem LS.below {w wr w' : World} {T k : Nat} {D : Nat → List Int} {v : Value} {m : Nat} {A : Nat → Option Addr} {C R : Nat → Nat} (h : LS w wr T k D v m A C R) (hb : Below wr.heap.size wr w') : LS w w' T k D v m A C R :=
  ⟨h.bel.trans (hb.mono h.bel.size), h.rows.below hb, Nat.le_trans h.top hb.size, h.lt⟩
theorem LS.start (w wr : World) (T : Nat) (D : Nat → List Int) (hb : Below w.heap.size w wr) (ho : wr.ownsRow T 82 1 (.slice (some ⟨T, 0, none⟩) 0 0) 0 []) (ht : T < wr.heap.size) (hl : w.heap.size < T) : LS w wr T 0 D (.slice (some ⟨T, 0, none⟩) 0 0) (T + 1) (fun _ => none) (fun _ => 0) (fun _ => 0) :=
  ⟨hb, ⟨ht, ho, fun g h => by simp [Value.ownBlock] at h; omega, fun i hi => absurd hi (by omega), fun i hi => absurd hi (by omega), fun i hi => absurd hi (by omega), fun i j hi => absurd hi (by omega)⟩, by omega, hl⟩
theorem LS.push {w W w' : World} {T k : Nat} {D : Nat → List Int} {v : Value} {m : Nat} {A : Nat → Option Addr} {C R : Nat → Nat} (h : LS w W T k D v m A C R) (a : Option Addr) (ca Rk g cap : Nat) (how : ON .u8 W T W.heap.size a (D k) Rk) (hR : 0 < (D k).length → m ≤ Rk) (hca : (D k).length ≤ ca)
    (hown : w'.ownsRow T 82 1 (.slice (some ⟨g, 0, none⟩) (k + 1) cap) (k + 1) (browCells A C D k ++ [.slice a (D k).length ca])) (hgrow : W.grownBy w' v.ownBlock) (hat : v.ownBlock = some g ∨ g = W.heap.size) (hg : g < w'.heap.size) :
    ∃ m' A' C' R', LS w w' T (k + 1) D (.slice (some ⟨g, 0, none⟩) (k + 1) cap) m' A' C' R' := by
  have hbl : Below T W w' := grown_below hgrow (own_low h.rows.own) h.top
  have h2 := h.rows.step a ca Rk _ g cap how hR hca hown hgrow hat rfl hg
  exact ⟨_, _, _, _, h.bel.trans (hbl.mono (Nat.le_of_lt h.lt)), h2, Nat.le_trans h.top hbl.size, h.lt⟩
theorem take_map_snoc (l : List Int) (k : Nat) (b : Int) (h : l.take (k + 1) = l.take k ++ [b]) : (l.take k).map (Value.int .u8) ++ [Value.int .u8 b] = (l.take (k + 1)).map (Value.int .u8) := by
  rw [h, List.map_append]; rfl
end Go.Proofs.YtdmlgnmklnaehaaGreatDoor
