/-
  Lists of texts in memory, and the program's own reader of a word. Conditions: the list reads as texts that are at most 1048576 bytes long.
-/
import Derived.Test.YtdjapcfejmhjnaaGreatDoorRi
namespace Go.Proofs.YtdjapcfejmhjnaaGreatDoor
open Go.ChangeShapes Go.WideShapes Go.ChangeAt Go.RowKit
set_option linter.unusedVariables false
set_option maxRecDepth 20000

/-- A slice that begins at 'a' reads as the texts 'ws', its length theirs. -/
def Flds (w : World) (a : Option Addr) (ws : List ByteArray) : Prop :=
  0 < ws.length → ∃ b off, a = some ⟨b, off, none⟩ ∧ b < w.heap.size ∧ ∀ i x, ws[i]? = some x → w.cell? ⟨b, off + i, none⟩ = some (.string x)
theorem Flds.below {w w' : World} {a : Option Addr} {ws : List ByteArray} (h : Flds w a ws) (hb : Below w.heap.size w w') : Flds w' a ws := by
  intro h0
  obtain ⟨b, off, e, hlt, hc⟩ := h h0
  exact ⟨b, off, e, Nat.lt_of_lt_of_le hlt hb.size, fun i x hi => (hb.cell (p := ⟨b, off + i, none⟩) hlt).trans (hc i x hi)⟩
/-- The texts are of a length that the laws take. -/
def Short (ws : List ByteArray) : Prop := ∀ x ∈ ws, x.size ≤ 1048576
theorem Short.tail {x : ByteArray} {ws : List ByteArray} (h : Short (x :: ws)) : Short ws := fun y hy => h y (by simp [hy])
theorem Short.head {x : ByteArray} {ws : List ByteArray} (h : Short (x :: ws)) : x.size ≤ 1048576 := h x (by simp)
theorem Flds.tail {w : World} {b off : Nat} {x : ByteArray} {ws : List ByteArray} (h : Flds w (some ⟨b, off, none⟩) (x :: ws)) : Flds w (some ⟨b, off + 1, none⟩) ws := by
  intro h0
  obtain ⟨b', off', e, hlt, hc⟩ := h (by simp)
  injection e with e
  injection e with e1 e2
  subst e1 e2
  exact ⟨b, off + 1, rfl, hlt, fun i y hi => by rw [show off + 1 + i = off + (i + 1) by omega]; exact hc (i + 1) y (by simpa using hi)⟩
theorem Flds.head {w : World} {a : Option Addr} {x : ByteArray} {ws : List ByteArray} (h : Flds w a (x :: ws)) : ∃ b off, a = some ⟨b, off, none⟩ ∧ b < w.heap.size ∧ w.cell? ⟨b, off, none⟩ = some (.string x) := by
  obtain ⟨b, off, e, hlt, hc⟩ := h (by simp)
  exact ⟨b, off, e, hlt, by have := hc 0 x rfl; simpa using this⟩
/-- The list behind its first text. -/
def rest1 (a : Option Addr) (cap : Nat) : Option Addr := if cap = 1 then a else a.map (·.add 1)
theorem cut1 (a : Option Addr) (n cap : Nat) : sliced a (1 : Int).toNat n cap 1 = .slice (rest1 a cap) (n - 1) (cap - 1) := by
  unfold sliced rest1
  rfl
theorem Flds.rest {w : World} {a : Option Addr} {cap : Nat} {x : ByteArray} {ws : List ByteArray} (h : Flds w a (x :: ws)) (hc : (x :: ws).length ≤ cap) : Flds w (rest1 a cap) ws := by
  intro h0
  obtain ⟨b, off, rfl, hlt, hx⟩ := Flds.head h
  have e : rest1 (some ⟨b, off, none⟩) cap = some ⟨b, off + 1, none⟩ := by
    unfold rest1
    rw [if_neg (by simp at hc; omega)]
    rfl
  rw [e]
  exact h.tail h0
end Go.Proofs.YtdjapcfejmhjnaaGreatDoor
