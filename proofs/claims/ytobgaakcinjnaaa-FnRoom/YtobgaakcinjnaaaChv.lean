
/-
  Rows of channels and the two ends of a channel as values: how they come in, are turned into the program's own, held against one another, marked. Conditions: the words read as words; lengths are at most 1048576 where a list is copied, held or marked.
-/
import Derived.Test.YtobgaakcinjnaaaProg
import Derived.Test.YtobgaakcinjnaaaUls
import Derived.Below
import Derived.Lib.SmallJoins
import Derived.ProofKit
import Derived.OpenShut
import Derived.ChangeSlices
import Derived.Deep.SlicePairs
namespace Go.Proofs.Ytobgaakcinjnaaa
open Go.ChangeShapes Go.WideShapes Go.ChangeAt Go.RowKit Go.Joins Go.Deep
set_option linter.unusedVariables false

theorem laidOut : laidOutB Try.prog = true := by kernel_rfl
abbrev crw (k f t d : Int) : Value := .agg #[.int .i64 k, .int .i64 f, .int .i64 t, .int .i64 d]
abbrev crow (k f t d : Int) : Array Value := #[.int .i64 k, .int .i64 f, .int .i64 t, .int .i64 d]
abbrev oen (h : Int) (a : Option Addr) (n c : Nat) : Value := .agg #[.int .i64 h, .slice a n c]
abbrev orow (h : Int) (a : Option Addr) (n c : Nat) : Array Value := #[.int .i64 h, .slice a n c]
abbrev ien (a : Option Addr) (n c : Nat) : Value := .agg #[.slice a n c]
abbrev irow (a : Option Addr) (n c : Nat) : Array Value := #[.slice a n c]
theorem array4 {α : Type} {cs : Array α} (h : cs.size = 4) : ∃ c0 c1 c2 c3, cs = #[c0, c1, c2, c3] := by
  obtain ⟨l⟩ := cs
  match l, h with
  | [c0, c1, c2, c3], _ => exact ⟨c0, c1, c2, c3, rfl⟩
theorem list4 {α : Type} {cs : List α} (h : cs.length = 4) : ∃ c0 c1 c2 c3, cs = [c0, c1, c2, c3] := by
  match cs, h with
  | [c0, c1, c2, c3], _ => exact ⟨c0, c1, c2, c3, rfl⟩
theorem array2 {α : Type} {cs : Array α} (h : cs.size = 2) : ∃ c0 c1, cs = #[c0, c1] := by
  obtain ⟨l⟩ := cs
  match l, h with
  | [c0, c1], _ => exact ⟨c0, c1, rfl⟩
theorem list2 {α : Type} {cs : List α} (h : cs.length = 2) : ∃ c0 c1, cs = [c0, c1] := by
  match cs, h with
  | [c0, c1], _ => exact ⟨c0, c1, rfl⟩
theorem array1 {α : Type} {cs : Array α} (h : cs.size = 1) : ∃ c0, cs = #[c0] := by
  obtain ⟨l⟩ := cs
  match l, h with
  | [c0], _ => exact ⟨c0, rfl⟩
theorem list1 {α : Type} {cs : List α} (h : cs.length = 1) : ∃ c0, cs = [c0] := by
  match cs, h with
  | [c0], _ => exact ⟨c0, rfl⟩
abbrev crwD {H : Type} (k f t d : Int) : DataW H := .agg [.lit (.int .i64 k), .lit (.int .i64 f), .lit (.int .i64 t), .lit (.int .i64 d)]
abbrev crwW (k f t d : Int) : Prop := (Lit.int .i64 k).wf = true ∧ (Lit.int .i64 f).wf = true ∧ (Lit.int .i64 t).wf = true ∧ (Lit.int .i64 d).wf = true
theorem cells3 : Try.prog.cellsOf 3 = 1 := by kernel_rfl
theorem cellsU3 : Try.prog.cellsOf 33 = 1 := by kernel_rfl
theorem cellsUS : Try.prog.cellsOf 26 = 1 := by kernel_rfl
theorem nums_open {H : Type} {enc : TypeId × Value → H} {W : World} {base : Nat} {held : Bool} {fuel : Nat} {cs : List Value} {x : DataW H × List MemPlace} {t e : TypeId} {k : IntKind} (ht : Try.prog.underlying t = some (.slice e)) (he : Try.prog.underlying e = some (.int k)) (hc : Try.prog.cellsOf e = 1)
    (h : DataW.trod enc Try.prog W base (fun _ => true) held fuel t cs = some x) : ∃ a zs c, cs = [.slice a (List.length zs) c] ∧ Seg k W a zs ∧ (∀ z ∈ zs, (Lit.int k z).wf = true) ∧ zs.length ≤ 9223372036854775807 ∧ zs.length ≤ c := by
  rcases open_ints ht he hc h with ⟨rfl, _⟩ | ⟨a, l, c, zs, rfl, _, hl, hm, hz, _, hcell, hwz⟩
  · exact ⟨none, [], 0, rfl, fun h => absurd h (by simp), by simp, by simp, by simp⟩
  · obtain ⟨ys, hy1, hy2, hy3⟩ := seg_of_row (k := k) (w := W) (a := some a) (len := l) (cap := c) (zs := zs) (.inr ⟨a, rfl, hl, hm, by simpa using hz, hcell, hwz⟩)
    have : maxLen = 9223372036854775807 := rfl
    exact ⟨some a, ys, c, by rw [hy1], hy2, hy3, by omega, by omega⟩
/-- What is known of words that came in. -/
structure WIn (W : World) (a : Option Addr) (zs : List Int) : Prop where
  seg : Seg .u32 W a zs
  wf : ∀ z ∈ zs, (Lit.int .u32 z).wf = true
  len : zs.length ≤ 9223372036854775807
/-- Words in memory of the call's own. -/
def OE (w : World) (lo hi : Nat) (a : Option Addr) (zs : List Int) : Prop := ∃ R, ON .u32 w lo hi a zs R
theorem OE.seg {w : World} {lo hi : Nat} {a : Option Addr} {zs : List Int} (h : OE w lo hi a zs) : Seg .u32 w a zs := by obtain ⟨R, h⟩ := h; exact h.seg
theorem OE.below {w w' : World} {lo hi : Nat} {a : Option Addr} {zs : List Int} (h : OE w lo hi a zs) (hb : Below w.heap.size w w') : OE w' lo hi a zs := by obtain ⟨R, h⟩ := h; exact ⟨R, h.below hb⟩
theorem ON.rng {k : IntKind} {w : World} {lo hi : Nat} {a : Option Addr} {ws : List Int} {R : Nat} (h : ON k w lo hi a ws R) (h0 : 0 < ws.length) : lo ≤ R ∧ R < hi := by
  obtain ⟨off, _, h1, h2, _⟩ := h h0
  exact ⟨h1, h2⟩
theorem OE.betw {w w' : World} {lo hi l' h' : Nat} {a : Option Addr} {zs : List Int} (h : OE w lo hi a zs) (hb : Betw l' h' w w') (ho : hi ≤ l' ∨ h' ≤ lo) : OE w' lo hi a zs := by
  obtain ⟨R, h⟩ := h
  exact ⟨R, h.betw hb (fun h0 => by have := h.rng h0; omega)⟩
theorem OE.wide {w : World} {lo hi l' h' : Nat} {a : Option Addr} {zs : List Int} (h : OE w lo hi a zs) (g1 : l' ≤ lo) (g2 : hi ≤ h') : OE w l' h' a zs := by obtain ⟨R, h⟩ := h; exact ⟨R, h.wide g1 g2⟩
theorem OE.nil (w : World) (lo hi : Nat) (a : Option Addr) : OE w lo hi a [] := ⟨0, ON.nil .u32 w lo hi a 0⟩
end Go.Proofs.Ytobgaakcinjnaaa
