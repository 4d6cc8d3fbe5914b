
/-
  The lines of a cache: what the specification's own function hands back. Conditions: the rows and their ways are at most 1048576 together.
-/
import Derived.Test.YtmbpmhmehiiiaaaRows
import Derived.Test.YtmbpmhmehiiiaaaLin
import Derived.Test.YtmbpmhmehiiiaaaWap
import Derived.Deep.RegionHeldLaw
import Derived.Deep.QuietTactic
import Derived.BigQuiet
namespace Go.Proofs.Ytmbpmhmehiiiaaa
open Go.ChangeShapes Go.WideShapes Go.ChangeAt Go.RowKit Go.Deep
set_option linter.unusedVariables false

theorem info3 : (Try.prog.info? 3).map (fun i => (i.zero, i.size, i.bytes)) = some (some (.int .i64 0), 1, 8) := by kernel_rfl
theorem info3' : ∃ i, Try.prog.info? 3 = some i ∧ i.zero = some (.int .i64 0) ∧ i.size = 1 ∧ i.bytes = 8 := by
  obtain ⟨i, hi, h⟩ := Option.map_eq_some_iff.1 info3
  simp only [Prod.mk.injEq] at h
  exact ⟨i, hi, h.1, h.2.1, h.2.2⟩
/-- A list that the call owns, from block 'base' on. -/
def OwnL (w : World) (base : Nat) (v : Value) (zs : List Int) : Prop := w.ownsRow base 3 1 v zs.length (zs.map (Value.int .i64))
theorem OwnL.new (w : World) (B : Nat) (hB : B = w.heap.size) : OwnL (w.alloc (.cells #[] 3)) B (.slice (some ⟨B, 0, none⟩) 0 0) [] := by
  subst hB
  exact ⟨rfl, .inr ⟨w.heap.size, 0, #[], rfl, Nat.le_refl _, by show (w.heap.push _)[w.heap.size]? = _; simp, Nat.le_refl _, by simp, rfl, rfl⟩⟩
theorem OwnL.seg {w : World} {base : Nat} {v : Value} {zs : List Int} (h : OwnL w base v zs) : ∃ a cap, v = .slice a zs.length cap ∧ Seg .i64 w a zs := by
  rcases h.2 with ⟨h0, h1⟩ | ⟨g, cap, cur, rfl, hb, hg, h1, h2, h3, h4⟩
  · exact ⟨none, 0, by rw [h0, h1], fun h => absurd h (by omega)⟩
  · refine ⟨_, _, rfl, fun h0 => ⟨g, 0, rfl, ?_, fun i hi => ?_⟩⟩
    · rcases Nat.lt_or_ge g w.heap.size with hlt | hge
      · exact hlt
      · rw [Array.getElem?_eq_none hge] at hg; cases hg
    · rw [Nat.zero_add]
      have e : cur[i]? = some (.int .i64 (zs.getD i 0)) := by
        have := congrArg (·[i]?) h4
        simp only [Nat.mul_one] at this
        rw [List.getElem?_take, if_pos hi] at this
        simpa [hi, List.getD] using this
      simp [World.cell?, hg, e]
theorem OwnL.below {w w' : World} {base : Nat} {v : Value} {zs : List Int} (h : OwnL w base v zs) (hb : Below w.heap.size w w') : OwnL w' base v zs := ownsRow_below h hb
theorem OwnL.low {w : World} {base b' : Nat} {v : Value} {zs : List Int} (h : OwnL w base v zs) (hle : b' ≤ base) : OwnL w b' v zs := by
  refine ⟨h.1, ?_⟩
  rcases h.2 with hn | ⟨g, cap, cur, e, hb, rest⟩
  · exact .inl hn
  · exact .inr ⟨g, cap, cur, e, by omega, rest⟩
theorem OwnL.snoc {w : World} {base g cap : Nat} {zs : List Int} {r : Int} (h : w.ownsRow base 3 1 (.slice (some ⟨g, 0, none⟩) (zs.length + 1) cap) (zs.length + 1) (zs.map (Value.int .i64) ++ [.int .i64 r])) :
    OwnL w base (.slice (some ⟨g, 0, none⟩) (zs.length + 1) cap) (zs ++ [r]) := by
  unfold OwnL
  simpa using h
theorem OwnL.kept {w w' : World} {base : Nat} {v : Value} {zs : List Int} {row : Option Nat} (h : OwnL w base v zs) (hg : w.grownBy w' row) (hne : ∀ g, v.ownBlock = some g → row ≠ some g) : OwnL w' base v zs :=
  World.ownsRow.kept h hg (by
    cases hv : v.ownBlock with
    | none => exact .inl rfl
    | some g => exact .inr (fun e => hne g hv e.symm))
theorem news_int (w : World) (z : Int) (B : Nat) (hB : B = w.heap.size) : ∀ j u, [Value.int .i64 z][j]? = some u → (w.alloc (.cells #[.int .i64 z] 3)).cell? ((⟨B, 0, none⟩ : Addr).add j) = some u := news_at w _ 3 B hB
theorem one_int (r : Int) : ∀ u ∈ [Value.int .i64 r], u.oneCell' = true := by
  intro u hu
  simp only [List.mem_singleton] at hu
  subst hu
  rfl
theorem news_in {w : World} {z : Int} {B : Nat} (h : w.heap[B]? = some (.cells #[.int .i64 z] 3 (0, 0))) : ∀ j u, [Value.int .i64 z][j]? = some u → w.cell? ((⟨B, 0, none⟩ : Addr).add j) = some u :=
  World.news_of_block (cs := #[.int .i64 z]) (t := 3) (fr := (0, 0)) h
theorem OwnL.blk {w w' : World} {base B : Nat} {v : Value} {zs : List Int} (h : OwnL w base v zs) (hb : Below B w w') (hlt : ∀ g, v.ownBlock = some g → g < B) : OwnL w' base v zs := by
  refine ⟨h.1, ?_⟩
  rcases h.2 with hn | ⟨g, cap, cur, e, hbs, hg, rest⟩
  · exact .inl hn
  · exact .inr ⟨g, cap, cur, e, hbs, by rw [hb.block g (hlt g (by rw [e]; rfl))]; exact hg, rest⟩
theorem Seg.grown {w w' : World} {a : Option Addr} {zs : List Int} {row : Option Nat} (h : Seg .i64 w a zs) (hg : w.grownBy w' row) (hne : ∀ b off, a = some ⟨b, off, none⟩ → row ≠ some b) : Seg .i64 w' a zs := fun h0 => by
  obtain ⟨b, off, e, hlt, hc⟩ := h h0
  have hk := hg.block b hlt (fun c => hne b off e c.symm)
  exact ⟨b, off, e, Nat.lt_of_lt_of_le hlt hg.size, fun i hi => (World.cell?_of_block (a := ⟨b, off + i, none⟩) hk).trans (hc i hi)⟩
theorem grown_cell {X w9 : World} {row : Option Nat} {p : Addr} {v : Value} {lo : Nat} (hg : X.grownBy w9 row) (hlow : ∀ g, row = some g → lo ≤ g) (hp : p.block < lo) (h : X.cell? p = some v) : w9.cell? p = some v := by
  have hk := hg.block p.block (World.block_lt_of_cell? X _ h) (fun e => by have := hlow _ e.symm; omega)
  exact (World.cell?_of_block (a := p) hk).trans h
def slen : Value → Nat
  | .slice _ n _ => n
  | _ => 0
theorem line_wrap {t s r : Int} (ht : 0 ≤ t ∧ t ≤ 65535) (hs : 1 ≤ s ∧ s ≤ 16) (hr : 0 ≤ r ∧ r ≤ 16) : IntKind.i64.wrap (t * s) = t * s ∧ IntKind.i64.wrap (t * s + r) = t * s + r := by
  have m1 : 0 ≤ t * s := Int.mul_nonneg ht.1 (by omega)
  have m2 : t * s ≤ 65535 * s := Int.mul_le_mul_of_nonneg_right ht.2 (by omega)
  constructor <;> (rw [IntKind.wrap_i64]; omega)
end Go.Proofs.Ytmbpmhmehiiiaaa
