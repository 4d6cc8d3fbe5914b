/-
  Lists of spans in memory: copies, likeness, the measure; how a list that came in is read. Conditions: lengths are at most 1048576 where a copy is made.
  The spans of the cycles of sound tables, on plain numbers: the longest runs of cycles in one slot and one phase, found cycle by cycle or by their ends. No function of the program in sight; no conditions but those that each fact names.
  What a span still has from a cycle on: the program's walk. Conditions: the lists lie in memory, the tables are sound.
  Spans one a call: the iterator's state in memory and what a call makes of it. Conditions: the lists lie in memory, the tables are sound.
  Lists of spans that a call owns, their marks, and whether they still hold them. Conditions: the lists lie in memory that may be written; lengths are at most 1048576.
  The spans of the cycles between two: the program's walk. Conditions: the lists lie in memory; the program's table of extras holds what the program's text lays.
-/
import Derived.Test.YtlomcdgfcocmmaaGreatDoorBas
import Derived.Test.YtlomcdgfcocmmaaGreatDoorGen
import Derived.Deep.RegionHeld3
import Derived.Deep.RegionHeldLaw
import Derived.Deep.QuietTactic
import Derived.BigQuiet
import Derived.Deep.SlicePairs
import Derived.OwnWalk
import Derived.Lib.SmallJoins
import Derived.Test.YtlomcdgfcocmmaaGreatDoorTin
import Derived.Test.YtlomcdgfcocmmaaGreatDoorTid
import Derived.Test.YtlomcdgfcocmmaaGreatDoorTio
import Derived.Test.YtlomcdgfcocmmaaGreatDoorLsw
import Derived.Test.YtlomcdgfcocmmaaGreatDoorDraws
import Derived.Test.YtlomcdgfcocmmaaGreatDoorMkt
import Derived.Deep.AppendLies
import Derived.Test.YtlomcdgfcocmmaaGreatDoorTia
import Derived.Test.YtlomcdgfcocmmaaGreatDoorOni
namespace Go.Proofs.YtlomcdgfcocmmaaGreatDoor
open Go.ChangeShapes Go.WideShapes Go.ChangeAt Go.RowKit Go.Deep Go.Joins
set_option linter.unusedVariables false

abbrev saT := Int × Int × Int × Int
abbrev sa0 : saT := (0, 0, 0, 0)
def saL (x : saT) : List Value := [.int .i64 x.1, .int .i64 x.2.1, .int .i64 x.2.2.1, .int .i64 x.2.2.2]
def saX (xs : List saT) : Nat → List Value := fun i => saL (xs.getD i sa0)
abbrev saV (x : saT) : Value := .agg #[.int .i64 x.1, .int .i64 x.2.1, .int .i64 x.2.2.1, .int .i64 x.2.2.2]
theorem sa_list4 {α : Type} {cs : List α} (h : cs.length = 4) : ∃ c0 c1 c2 c3, cs = [c0, c1, c2, c3] := by
  match cs, h with
  | [c0, c1, c2, c3], _ => exact ⟨c0, c1, c2, c3, rfl⟩
theorem sa_cells {w : World} {b o : Nat} {x : saT} (h : CellsAt w b o (saL x)) : w.cell? ⟨b, o, none⟩ = some (.int .i64 x.1) ∧ w.cell? ⟨b, o + 1, none⟩ = some (.int .i64 x.2.1) ∧ w.cell? ⟨b, o + 2, none⟩ = some (.int .i64 x.2.2.1) ∧ w.cell? ⟨b, o + 3, none⟩ = some (.int .i64 x.2.2.2) :=
  ⟨h 0 _ rfl, h 1 _ rfl, h 2 _ rfl, h 3 _ rfl⟩
theorem sa_info : (Tryz.prog.info? 50).map (fun i => (i.zero, i.size, i.bytes)) = some (some (.agg #[.int .i64 0, .int .i64 0, .int .i64 0, .int .i64 0]), 4, 32) := by kernel_rfl
theorem sa_make (n : Nat) (hn : n ≤ 1048576) (w : World) : (Instr.makeSlice 45 (.int .i64 (n : Int)) (.int .i64 (n : Int))).run Tryz.prog w = .ok (.slice (some ⟨w.heap.size, 0, none⟩) n n) (w.alloc (.cells (madeCells #[.int .i64 0, .int .i64 0, .int .i64 0, .int .i64 0] (n * 4)) 50)) := by
  obtain ⟨i, hi, hzz⟩ := Option.map_eq_some_iff.1 sa_info
  simp only [Prod.mk.injEq] at hzz
  obtain ⟨hz, hs, hb⟩ := hzz
  have := run_make (P := Tryz.prog) w 45 50 i _ Tryz.underlying45 hi hz .i64 .i64 n n (by omega) (Int.le_refl _) (by rw [hb]; omega) (by omega)
  rw [hs, Int.toNat_natCast] at this
  exact this
theorem sa_cellsU : Tryz.prog.cellsOf 177 = 1 := by kernel_rfl
end Go.Proofs.YtlomcdgfcocmmaaGreatDoor
namespace Go.Proofs.YtlomcdgfcocmmaaGreatDoor
open Go.ChangeShapes Go.WideShapes Go.ChangeAt Go.RowKit Go.Deep Go.Joins
set_option linter.unusedVariables false

/-- The partition of the slot that has a place, or -1. -/
def whoV (t : Tb) (p : Int) : Int := if slotV t p < 0 then -1 else (t.ss.getD (slotV t p).toNat sl0).1
/-- A cycle goes on with what the one before is in. -/
def Same (t : Tb) (d : Int) : Prop := d % t.maj ≠ 0 ∧ phaseV t (d % t.maj) = phaseV t ((d - 1) % t.maj) ∧ slotV t (d % t.maj) = slotV t ((d - 1) % t.maj)
instance (t : Tb) (d : Int) : Decidable (Same t d) := by unfold Same; infer_instance
/-- From cycle c on it stays the same up to the one before r, and no longer. -/
structure RT (t : Tb) (c r : Int) : Prop where
  lt : c < r
  le : r ≤ c + 5000
  go : ∀ d, c < d → d < r → Same t d
  en : ¬ Same t r
theorem rt_mk {t : Tb} (h : Tm t) {c e f s : Int} (hc : 0 ≤ c) (h1 : c % t.maj < e) (h2 : e ≤ t.maj) (hq : ∀ q, c % t.maj ≤ q → q < e → phaseV t q = f ∧ slotV t q = s) (he : e = t.maj ∨ (e < t.maj ∧ (phaseV t e ≠ f ∨ slotV t e ≠ s))) : RT t c (c - c % t.maj + e) := by
  have hp0 : 0 ≤ c % t.maj := Int.emod_nonneg _ (by have := h.maj1; omega)
  have hm1 := h.maj1
  have hm2 := h.maj2
  have hbm : (c - c % t.maj) % t.maj = 0 := border_mod
  obtain ⟨p, hp⟩ : ∃ p, c % t.maj = p := ⟨_, rfl⟩
  rw [hp] at h1 hq hp0 hbm ⊢
  have hpl : ∀ q, 0 ≤ q → q < t.maj → (c - p + q) % t.maj = q := fun q g1 g2 => place_border hm1 hbm g1 g2
  have hqe := hq (e - 1) (by omega) (by omega)
  refine ⟨by omega, by omega, fun d g1 g2 => ?_, fun g => ?_⟩
  · obtain ⟨q, rfl⟩ : ∃ q, d = c - p + q := ⟨d - (c - p), by omega⟩
    have e1 := hpl q (by omega) (by omega)
    have e2 := hpl (q - 1) (by omega) (by omega)
    rw [show c - p + (q - 1) = c - p + q - 1 by omega] at e2
    have k1 := hq q (by omega) (by omega)
    have k2 := hq (q - 1) (by omega) (by omega)
    refine ⟨by rw [e1]; omega, ?_, ?_⟩
    · rw [e1, e2, k1.1, k2.1]
    · rw [e1, e2, k1.2, k2.2]
  · rcases he with rfl | ⟨he1, he2⟩
    · exact g.1 (by rw [Int.add_emod_right]; exact hbm)
    · have e1 := hpl e (by omega) he1
      have e2 := hpl (e - 1) (by omega) (by omega)
      rw [show c - p + (e - 1) = c - p + e - 1 by omega] at e2
      have g2 := g.2
      rw [e1, e2, hqe.1, hqe.2] at g2
      rcases he2 with he2 | he2
      · exact he2 g2.1
      · exact he2 g2.2
theorem rt_free {t : Tb} (h : Tm t) {c r : Int} {i : Nat} (hc : 0 ≤ c) (hs : slotV t (c % t.maj) = -1) (hn : TN t c i r) : RT t c (min r (c - c % t.maj + t.maj)) := by
  obtain ⟨hi, hst, ⟨hcr, _, hno⟩, hrm⟩ := hn
  have hm1 := h.maj1
  have hp0 : 0 ≤ c % t.maj ∧ c % t.maj < t.maj := mod_lt hm1
  have hbm : (c - c % t.maj) % t.maj = 0 := border_mod
  obtain ⟨p, hp⟩ : ∃ p, c % t.maj = p := ⟨_, rfl⟩
  rw [hp] at hs hp0 hbm ⊢
  have hpl : ∀ q, 0 ≤ q → q < t.maj → (c - p + q) % t.maj = q := fun q g1 g2 => place_border hm1 hbm g1 g2
  have hnp : ∀ j, j < t.ss.length → ¬ HasP (t.ss.getD j sl0) p := fun j hj g => by
    have := slotV_at h hj g
    omega
  have hrc : c < r := by
    rcases Int.lt_or_eq_of_le hcr with g | g
    · exact g
    · exfalso
      rw [← g, hp] at hst
      have := h.ln i hi
      have := h.pad1
      have := h.grd1
      exact hnp i hi ⟨by omega, by omega⟩
  have hq : ∀ q, p ≤ q → q < min r (c - p + t.maj) - (c - p) → phaseV t q = 0 ∧ slotV t q = -1 := fun q g1 g2 => by
    have hsn : slotV t q = -1 := slotV_none (fun j hj g => by
      have k1 := h.st j hj
      have k2 := h.en j hj
      have g' := g
      unfold HasP at g'
      by_cases k : (t.ss.getD j sl0).2.1 ≤ p
      · exact hnp j hj ⟨k, by omega⟩
      · refine hno (c - p + (t.ss.getD j sl0).2.1) (by omega) (by omega) j hj ?_
        rw [hpl _ k1 (by omega)])
    exact ⟨phaseV_free hsn, hsn⟩
  have hE : min r (c - p + t.maj) = c - p + (min r (c - p + t.maj) - (c - p)) := by omega
  rw [hE]
  have := rt_mk h (c := c) (e := min r (c - p + t.maj) - (c - p)) (f := 0) (s := -1) hc (by rw [hp]; omega) (by omega) (by rw [hp]; exact hq) (by
    by_cases g : r - (c - p) < t.maj
    · refine .inr ⟨by omega, .inr ?_⟩
      have e1 : min r (c - p + t.maj) - (c - p) = r - (c - p) := by omega
      have e2 := hpl (r - (c - p)) (by omega) g
      rw [show c - p + (r - (c - p)) = r by omega] at e2
      rw [e2] at hst
      rw [e1]
      have := h.ln i hi
      have := h.pad1
      have := h.grd1
      rw [slotV_at h hi ⟨by omega, by omega⟩]
      omega
    · exact .inl (by omega))
  rw [hp] at this
  exact this
/-- The end of what a slot's cycle is in. -/
def rsV (t : Tb) (y : slT) (f : Int) : Int := if f = 1 then y.2.1 + t.pad else if f = 2 then y.2.1 + y.2.2 - t.grd else y.2.1 + y.2.2
theorem rt_slot {t : Tb} (h : Tm t) {c : Int} {i : Nat} (hc : 0 ≤ c) (hi : i < t.ss.length) (hs : slotV t (c % t.maj) = (i : Int)) : RT t c (c - c % t.maj + rsV t (t.ss.getD i sl0) (phaseV t (c % t.maj))) := by
  have hm1 := h.maj1
  have hp0 : 0 ≤ c % t.maj ∧ c % t.maj < t.maj := mod_lt hm1
  have hh : HasP (t.ss.getD i sl0) (c % t.maj) := by
    rcases slotV_cases t (c % t.maj) with ⟨g, _⟩ | ⟨j, hj, g, k⟩
    · omega
    · have : j = i := by omega
      subst this
      exact k
  have hpa := phaseV_at hs
  obtain ⟨p, hp⟩ : ∃ p, c % t.maj = p := ⟨_, rfl⟩
  have hst := h.st i hi
  have hln := h.ln i hi
  have hen := h.en i hi
  have hp1 := h.pad1
  have hg1 := h.grd1
  have hsl : ∀ q, HasP (t.ss.getD i sl0) q → slotV t q = (i : Int) ∧ phaseV t q = (if q - (t.ss.getD i sl0).2.1 < t.pad then 1 else if (t.ss.getD i sl0).2.2 - t.grd ≤ q - (t.ss.getD i sl0).2.1 then 3 else 2) := fun q g => ⟨slotV_at h hi g, phaseV_at (slotV_at h hi g)⟩
  have hsn : ∀ q, slotV t q = (i : Int) → HasP (t.ss.getD i sl0) q := fun q g => by
    rcases slotV_cases t q with ⟨g2, _⟩ | ⟨j, hj, g2, k⟩
    · omega
    · have : j = i := by omega
      subst this
      exact k
  rw [hp] at hpa hh hp0 hs
  unfold HasP at hh hsl hsn
  generalize t.ss.getD i sl0 = y at *
  by_cases g1 : p - y.2.1 < t.pad
  · rw [if_pos g1] at hpa
    rw [hp, hpa]
    have : rsV t y 1 = y.2.1 + t.pad := by unfold rsV; rw [if_pos rfl]
    rw [this, ← hp]
    refine rt_mk h hc (by omega) (by omega) (f := 1) (s := i) (fun q k1 k2 => ?_) (.inr ⟨by omega, .inl ?_⟩)
    · have := hsl q ⟨by omega, by omega⟩
      exact ⟨by rw [this.2, if_pos (by omega)], this.1⟩
    · rw [(hsl (y.2.1 + t.pad) ⟨by omega, by omega⟩).2, if_neg (by omega), if_neg (by omega)]
      decide
  rw [if_neg g1] at hpa
  by_cases g2 : y.2.2 - t.grd ≤ p - y.2.1
  · rw [if_pos g2] at hpa
    rw [hp, hpa]
    have : rsV t y 3 = y.2.1 + y.2.2 := by unfold rsV; rw [if_neg (by decide), if_neg (by decide)]
    rw [this, ← hp]
    refine rt_mk h hc (by omega) (by omega) (f := 3) (s := i) (fun q k1 k2 => ?_) ?_
    · have := hsl q ⟨by omega, by omega⟩
      exact ⟨by rw [this.2, if_neg (by omega), if_pos (by omega)], this.1⟩
    · by_cases g3 : y.2.1 + y.2.2 = t.maj
      · exact .inl g3
      · refine .inr ⟨by omega, .inr (fun k => ?_)⟩
        have := hsn _ k
        omega
  · rw [if_neg g2] at hpa
    rw [hp, hpa]
    have : rsV t y 2 = y.2.1 + y.2.2 - t.grd := by unfold rsV; rw [if_neg (by decide), if_pos rfl]
    rw [this, ← hp]
    refine rt_mk h hc (by omega) (by omega) (f := 2) (s := i) (fun q k1 k2 => ?_) (.inr ⟨by omega, .inl ?_⟩)
    · have := hsl q ⟨by omega, by omega⟩
      exact ⟨by rw [this.2, if_neg (by omega), if_neg (by omega)], this.1⟩
    · rw [(hsl (y.2.1 + y.2.2 - t.grd) ⟨by omega, by omega⟩).2, if_neg (by omega), if_pos (by omega)]
      decide
theorem rt_const {t : Tb} {c r : Int} (h : RT t c r) : ∀ (k : Nat), c + (k : Int) < r → phaseV t ((c + (k : Int)) % t.maj) = phaseV t (c % t.maj) ∧ slotV t ((c + (k : Int)) % t.maj) = slotV t (c % t.maj) := by
  intro k
  induction k with
  | zero => intro _; simp
  | succ k ih =>
    intro hk
    have g := ih (by omega)
    have s := h.go (c + ((k + 1 : Nat) : Int)) (by omega) hk
    have e : c + ((k + 1 : Nat) : Int) - 1 = c + (k : Int) := by omega
    have s2 := s.2
    rw [e] at s2
    exact ⟨s2.1.trans g.1, s2.2.trans g.2⟩
/-- The spans behind k cycles: those that are closed, and the open one. -/
def spDC (t : Tb) (f : Int) : Nat → List saT × saT
  | 0 => ([], sa0)
  | k + 1 => if k ≠ 0 ∧ Same t (f + (k : Int)) then ((spDC t f k).1, ((spDC t f k).2.1, f + (k : Int) + 1, (spDC t f k).2.2.2.1, (spDC t f k).2.2.2.2)) else (if k = 0 then [] else (spDC t f k).1 ++ [(spDC t f k).2], (f + (k : Int), f + (k : Int) + 1, whoV t ((f + (k : Int)) % t.maj), phaseV t ((f + (k : Int)) % t.maj)))
def spL (t : Tb) (f : Int) (k : Nat) : List saT := if k = 0 then [] else (spDC t f k).1 ++ [(spDC t f k).2]
theorem spL_some {t : Tb} {f : Int} {k : Nat} (h : k ≠ 0) : spL t f k = (spDC t f k).1 ++ [(spDC t f k).2] := by unfold spL; rw [if_neg h]
theorem spDC_new {t : Tb} {f : Int} {k : Nat} (h : ¬ (k ≠ 0 ∧ Same t (f + (k : Int)))) : spDC t f (k + 1) = (spL t f k, (f + (k : Int), f + (k : Int) + 1, whoV t ((f + (k : Int)) % t.maj), phaseV t ((f + (k : Int)) % t.maj))) := by
  rw [spDC, if_neg h]
  rfl
theorem spDC_on {t : Tb} {f : Int} {k : Nat} (h : k ≠ 0 ∧ Same t (f + (k : Int))) : spDC t f (k + 1) = ((spDC t f k).1, ((spDC t f k).2.1, f + (k : Int) + 1, (spDC t f k).2.2.2.1, (spDC t f k).2.2.2.2)) := by
  rw [spDC, if_pos h]
theorem spL_new {t : Tb} {f : Int} {k : Nat} (h : ¬ (k ≠ 0 ∧ Same t (f + (k : Int)))) : spL t f (k + 1) = spL t f k ++ [(f + (k : Int), f + (k : Int) + 1, whoV t ((f + (k : Int)) % t.maj), phaseV t ((f + (k : Int)) % t.maj))] := by
  rw [spL_some (by omega), spDC_new h]
theorem spL_len (t : Tb) (f : Int) : ∀ k, (spL t f k).length ≤ k ∧ (k ≠ 0 → (spDC t f k).1.length < k) := by
  intro k
  induction k with
  | zero => exact ⟨by simp [spL], fun h => absurd rfl h⟩
  | succ k ih =>
    have h2 : (spDC t f (k + 1)).1.length < k + 1 := by
      by_cases g : k ≠ 0 ∧ Same t (f + (k : Int))
      · rw [spDC_on g]
        have := ih.2 g.1
        show (spDC t f k).1.length < k + 1
        omega
      · rw [spDC_new g]
        have := ih.1
        show (spL t f k).length < k + 1
        omega
    refine ⟨?_, fun _ => h2⟩
    rw [spL_some (by omega), List.length_append]
    simp only [List.length_cons, List.length_nil]
    omega
theorem spDC_phase (t : Tb) (f : Int) (k : Nat) (hk : k ≠ 0) : (spDC t f k).2.2.2.2 = phaseV t ((f + (k : Int) - 1) % t.maj) := by
  induction k with
  | zero => exact absurd rfl hk
  | succ k ih =>
    have e : f + ((k + 1 : Nat) : Int) - 1 = f + (k : Int) := by omega
    rw [e]
    by_cases g : k ≠ 0 ∧ Same t (f + (k : Int))
    · rw [spDC_on g]
      show (spDC t f k).2.2.2.2 = _
      rw [ih g.1]
      exact g.2.2.1.symm
    · rw [spDC_new g]
theorem sp_run {t : Tb} {f : Int} {k : Nat} {r : Int} (h : RT t (f + (k : Int)) r) (hk : ¬ (k ≠ 0 ∧ Same t (f + (k : Int)))) : ∀ j : Nat, f + (k : Int) + ((j : Int) + 1) ≤ r → spDC t f (k + (j + 1)) = (spL t f k, (f + (k : Int), f + (k : Int) + ((j : Int) + 1), whoV t ((f + (k : Int)) % t.maj), phaseV t ((f + (k : Int)) % t.maj))) := by
  intro j
  induction j with
  | zero => intro _; rw [show k + (0 + 1) = k + 1 by omega, spDC_new hk]; simp
  | succ j ih =>
    intro hj
    have g := ih (by omega)
    have e : ((k + (j + 1) : Nat) : Int) = (k : Int) + ((j : Int) + 1) := by omega
    have s := h.go (f + ((k + (j + 1) : Nat) : Int)) (by omega) (by omega)
    rw [show k + (j + 1 + 1) = k + (j + 1) + 1 by omega, spDC_on ⟨by omega, s⟩, g]
    simp only [Prod.mk.injEq, true_and]
    refine ⟨?_, trivial⟩
    omega
theorem spL_run {t : Tb} {f : Int} {k : Nat} {r : Int} (h : RT t (f + (k : Int)) r) (hk : ¬ (k ≠ 0 ∧ Same t (f + (k : Int)))) (j : Nat) (hj : 1 ≤ j) (hj2 : f + (k : Int) + (j : Int) ≤ r) : spL t f (k + j) = spL t f k ++ [(f + (k : Int), f + (k : Int) + (j : Int), whoV t ((f + (k : Int)) % t.maj), phaseV t ((f + (k : Int)) % t.maj))] := by
  obtain ⟨i, rfl⟩ : ∃ i, j = i + 1 := ⟨j - 1, by omega⟩
  rw [spL_some (by omega), sp_run h hk i (by omega)]
  simp
end Go.Proofs.YtlomcdgfcocmmaaGreatDoor
namespace Go.Proofs.YtlomcdgfcocmmaaGreatDoor
open Go.ChangeShapes Go.WideShapes Go.ChangeAt Go.RowKit Go.Deep Go.Joins
set_option linter.unusedVariables false

theorem r3_set {V : World} {B : Nat} {cs cs' : Array Value} {T : TypeId} (h : V.heap[B]? = some (.cells cs T (0, 0))) (j : Nat) (v : Value) (he : cs.setIfInBounds j v = cs') : (V.setCell ⟨B, j, none⟩ v).heap[B]? = some (.cells cs' T (0, 0)) := by
  rw [setCell_eq_setRow V B j cs T (0, 0) v h, setRow_heap V B _ _ T (0, 0) h, he]
theorem row_cell {V : World} {B : Nat} {cs : Array Value} {T : TypeId} (h : V.heap[B]? = some (.cells cs T (0, 0))) (j : Nat) (v : Value) (hj : cs[j]? = some v) : V.cell? ⟨B, j, none⟩ = some v := by simp [World.cell?, h, hj]
theorem row_free {V : World} {B : Nat} {cs : Array Value} {T : TypeId} (h : V.heap[B]? = some (.cells cs T (0, 0))) (j : Nat) : V.frozen? ⟨B, j, none⟩ = false := by simp [World.frozen?, h]
theorem row_lt {V : World} {B : Nat} {cs : Array Value} {T : TypeId} (h : V.heap[B]? = some (.cells cs T (0, 0))) : B < V.heap.size := (Array.getElem?_eq_some_iff.1 h).1
theorem row_other {V : World} {B C j : Nat} {v : Value} {cs : Array Value} {T : TypeId} (h : V.heap[B]? = some (.cells cs T (0, 0))) (hn : B ≠ C) : (V.setCell ⟨C, j, none⟩ v).heap[B]? = some (.cells cs T (0, 0)) := (Below.heap_setCell _ _ _ _ hn).trans h
theorem tn_ex {t : Tb} (h : Tm t) (c : Int) : ∃ (i : Nat) (r : Int), TN t c i r := by
  obtain ⟨r, hr, hk⟩ := start_first h (c % t.maj)
  by_cases e : r < t.ss.length
  · exact ⟨r, _, next_here h e hk⟩
  · exact ⟨0, _, next_later h (fun k hkl g => by have := (hk k hkl).1 g; omega)⟩
theorem tn_uni {t : Tb} (h : Tm t) {c r s : Int} {i j : Nat} (g : TN t c i r) (k : TN t c j s) : i = j ∧ r = s := by
  have e : r = s := NX.unique g.2.2.1 k.2.2.1
  subst e
  refine ⟨?_, rfl⟩
  have h1 := g.2.1
  have h2 := k.2.1
  have hp := h.pad1
  have hg := h.grd1
  rcases Nat.lt_trichotomy i j with q | q | q
  · have := h.od i j q k.1; have := h.ln i g.1; omega
  · exact q
  · have := h.od j i q g.1; have := h.ln j k.1; omega
theorem res_rest {W : World} {B : Nat} {cs : Array Value} {tmps : Array Value} (h : W.heap[B]? = some (.cells cs 50 (0, 0))) (hl : cs.size = 4) (ht : tmps[4]? = some (.pointer (some ⟨B, 0, none⟩))) : (results Tryz.f82 tmps).run Tryz.prog W = .ok (.agg cs) W := by
  have hld : (loadVar 50 ⟨B, 0, none⟩).run Tryz.prog W = .ok (.agg cs) W := run_loadVar_row (P := Tryz.prog) W B 50 50 cs (0, 0) _ h Tryz.underlying50 rfl (by rw [hl]; kernel_rfl)
  unfold results
  rw [Tryz.results82]
  simp [ht, asAddr, hld]
structure R4 (W0 : World) (Z C : Array Value) (N : Nat) (v0 : Value) (v1 : Value) (v2 : Value) (v3 : Value) (v4 : Value) (v5 : Value) (v6 : Value) (v7 : Value) (v8 : Value) (v9 : Value) (w' : World) (b0 b1 b2 b3 b4 b5 b6 b7 b8 b9 b10 : Bool) (x23 x24 x25 x26 x27 x28 x29 x30 x31 x32 : Value) : Prop where
  cs : b10 = true → b0 = true ∧ b1 = true ∧ b2 = true ∧ b3 = true ∧ b4 = true ∧ b5 = true ∧ b6 = true ∧ b7 = true ∧ b8 = true ∧ b9 = true ∧ True
  gb : Below N W0 w'
  pre : b10 = false → Below W0.heap.size W0 w'
  r0 : b10 = false → w'.heap[N]? = some (.cells Z 50 (0, 0))
  r1 : b10 = true → w'.heap[N]? = some (.cells C 50 (0, 0))
  f0 : b0 = true → x23 = v0
  f1 : b1 = true → x24 = v1
  f2 : b2 = true → x25 = v2
  f3 : b3 = true → x26 = v3
  f4 : b4 = true → x27 = v4
  f5 : b5 = true → x28 = v5
  f6 : b6 = true → x29 = v6
  f7 : b7 = true → x30 = v7
  f8 : b8 = true → x31 = v8
  f9 : b9 = true → x32 = v9
theorem R4.below {W0 : World} {Z C : Array Value} {N : Nat} {v0 : Value} {v1 : Value} {v2 : Value} {v3 : Value} {v4 : Value} {v5 : Value} {v6 : Value} {v7 : Value} {v8 : Value} {v9 : Value} {w' w9 : World} {b0 b1 b2 b3 b4 b5 b6 b7 b8 b9 b10 : Bool} {x23 x24 x25 x26 x27 x28 x29 x30 x31 x32 : Value} (h : R4 W0 Z C N v0 v1 v2 v3 v4 v5 v6 v7 v8 v9 w' b0 b1 b2 b3 b4 b5 b6 b7 b8 b9 b10 x23 x24 x25 x26 x27 x28 x29 x30 x31 x32) (hb : Below w'.heap.size w' w9) (hN : N ≤ w'.heap.size) : R4 W0 Z C N v0 v1 v2 v3 v4 v5 v6 v7 v8 v9 w9 b0 b1 b2 b3 b4 b5 b6 b7 b8 b9 b10 x23 x24 x25 x26 x27 x28 x29 x30 x31 x32 :=
  ⟨h.cs, h.gb.trans (hb.mono hN), fun g => (h.pre g).trans (hb.mono (h.pre g).size), fun g => row_below (h.r0 g) hb, fun g => row_below (h.r1 g) hb, h.f0, h.f1, h.f2, h.f3, h.f4, h.f5, h.f6, h.f7, h.f8, h.f9⟩
structure R6 (W0 : World) (Z C : Array Value) (v0 : Value) (v1 : Value) (v2 : Value) (v3 : Value) (v4 : Value) (v5 : Value) (v6 : Value) (w' : World) (b0 b1 b2 b3 b4 b5 b6 b7 b8 : Bool) (x34 x35 x36 x37 x38 x39 x40 x7 : Value) : Prop where
  cs : b8 = true → b0 = true ∧ b1 = true ∧ b2 = true ∧ b3 = true ∧ b4 = true ∧ b5 = true ∧ b6 = true ∧ b7 = true ∧ True
  gb : Below W0.heap.size W0 w'
  f0 : b0 = true → x34 = v0
  f1 : b1 = true → x35 = v1
  f2 : b2 = true → x36 = v2
  f3 : b3 = true → x37 = v3
  f4 : b4 = true → x38 = v4
  f5 : b5 = true → x39 = v5
  f6 : b6 = true → x40 = v6
  f7 : b7 = true → ∃ N, x7 = .pointer (some ⟨N, 0, none⟩) ∧ W0.heap.size ≤ N ∧ (b8 = false → w'.heap[N]? = some (.cells Z 42 (0, 0))) ∧ (b8 = true → w'.heap[N]? = some (.cells C 42 (0, 0)))
theorem R6.below {W0 : World} {Z C : Array Value} {v0 : Value} {v1 : Value} {v2 : Value} {v3 : Value} {v4 : Value} {v5 : Value} {v6 : Value} {w' w9 : World} {b0 b1 b2 b3 b4 b5 b6 b7 b8 : Bool} {x34 x35 x36 x37 x38 x39 x40 x7 : Value} (h : R6 W0 Z C v0 v1 v2 v3 v4 v5 v6 w' b0 b1 b2 b3 b4 b5 b6 b7 b8 x34 x35 x36 x37 x38 x39 x40 x7) (hb : Below w'.heap.size w' w9) : R6 W0 Z C v0 v1 v2 v3 v4 v5 v6 w9 b0 b1 b2 b3 b4 b5 b6 b7 b8 x34 x35 x36 x37 x38 x39 x40 x7 :=
  ⟨h.cs, h.gb.trans (hb.mono h.gb.size), h.f0, h.f1, h.f2, h.f3, h.f4, h.f5, h.f6, fun g => (h.f7 g).imp fun N k => ⟨k.1, k.2.1, fun s => row_below (k.2.2.1 s) hb, fun s => row_below (k.2.2.2 s) hb⟩⟩
set_option maxRecDepth 40000 in
set_option maxHeartbeats 8000000 in
theorem rest_from (t : Tb) (a : Ad) (c : Int) (w : World) (hm : TM 0 w t a) (hw : TW t a) (hs : TS a) (hcs : a.sn ≤ a.sc) (ht : Tm t) (hc : 0 ≤ c) (hc2 : c ≤ 1000000) :
    Calls Tryz.prog 82 #[tbV t a, .int .i64 c] w fun e w' => ∃ r, e = .returned (.agg #[.int .i64 c, .int .i64 r, .int .i64 (whoV t (c % t.maj)), .int .i64 (phaseV t (c % t.maj))]) ∧ RT t c r ∧ Below w.heap.size w w' := by
  have HTM : Hid (Tm t) := ht
  have hmj := ht.maj2
  have hpp : 0 ≤ c % t.maj ∧ c % t.maj < t.maj := mod_lt ht.maj1
  have hpl : c % t.maj ≤ c := by
    by_cases g : c < t.maj
    · rw [Int.emod_eq_of_lt hc g]; exact Int.le_refl _
    · omega
  have HCP : Hid (∀ X, Calls Tryz.prog 87 #[tbV t a, .int .i64 c] X fun e w' => e = .returned (.int .i64 (c % t.maj)) ∧ Below X.heap.size X w') := fun X => place_of t a c _ X ht.maj1 hc hc2 rfl
  have HPH : Hid (∀ X, Below w.heap.size w X → Calls Tryz.prog 106 #[tbV t a, .int .i64 c] X fun e w' => e = .returned (.int .i64 (phaseV t (c % t.maj))) ∧ Below X.heap.size X w') := fun X hX => phase_at t a c X (hm.below hX) hw hs hcs ht hc hc2
  have HNX : Hid (∀ X, Below w.heap.size w X → Calls Tryz.prog 79 #[tbV t a, .int .i64 c] X fun e w' => (∃ (i : Nat) (r : Int), e = .returned (.agg #[.int .i64 (t.ss.getD i sl0).1, .int .i64 r, .int .i64 (t.ss.getD i sl0).2.2]) ∧ TN t c i r) ∧ Below X.heap.size X w') := fun X hX => next_turn t a c X (hm.below hX) hw hs hcs ht hc hc2
  have HSX : Hid (∀ X, Below w.heap.size w X → Calls Tryz.prog 107 #[tbV t a, .int .i64 c] X fun e w' => e = .returned (.int .i64 (slotV t (c % t.maj))) ∧ Below X.heap.size X w') := fun X hX => slot_at t a c X (hm.below hX) hw hs hcs ht hc hc2
  have HSL : Hid (∀ X, Below w.heap.size w X → GSeg 3 X a.sa a.sn (slX t.ss)) := fun X hX => (hm.below hX).s.seg
  have hL : t.ss.length = a.sn := hw.sl
  have hn : a.sn ≤ 1048576 := hs.s
  have HRF : Hid (∀ i r, slotV t (c % t.maj) = -1 → TN t c i r → RT t c (min r (c - c % t.maj + t.maj))) := fun i r h1 h2 => rt_free ht hc h1 h2
  have HRS : Hid (∀ i : Nat, i < t.ss.length → slotV t (c % t.maj) = (i : Int) → RT t c (c - c % t.maj + rsV t (t.ss.getD i sl0) (phaseV t (c % t.maj)))) := fun i h1 h2 => rt_slot ht hc h1 h2
  have HPS : Hid (phaseV t (c % t.maj) ≠ 0 → ∃ i : Nat, i < t.ss.length ∧ slotV t (c % t.maj) = (i : Int) ∧ HasP (t.ss.getD i sl0) (c % t.maj)) := phaseV_slot
  have HPN : Hid (∀ i : Nat, slotV t (c % t.maj) = (i : Int) → phaseV t (c % t.maj) ≠ 0) := fun i h => by
    rw [phaseV_at h]
    split
    · omega
    · split <;> omega
  have HPC := phaseV_cases t (c % t.maj)
  have HB2 : Hid (Below w.heap.size w ((w.alloc (.cells (tbA t a) 33)).alloc (.cells #[.int .i64 0, .int .i64 0, .int .i64 0, .int .i64 0] 50))) := ((Below.refl _ _).alloc (Nat.le_refl _) _).alloc (by simp) _
  have HX2 : Hid (TBx ((w.alloc (.cells (tbA t a) 33)).alloc (.cells #[.int .i64 0, .int .i64 0, .int .i64 0, .int .i64 0] 50)) w.heap.size t a) := (TBx.new w t a _ rfl).below ((Below.refl _ _).alloc (Nat.le_refl _) _)
  have HR2 : Hid (((w.alloc (.cells (tbA t a) 33)).alloc (.cells #[.int .i64 0, .int .i64 0, .int .i64 0, .int .i64 0] 50)).heap[w.heap.size + 1]? = some (.cells #[.int .i64 0, .int .i64 0, .int .i64 0, .int .i64 0] 50 (0, 0))) := new_row (w.alloc (.cells (tbA t a) 33)) _ _ _ (by simp)
  obtain ⟨p, HP⟩ : ∃ p, Hid (c % t.maj = p) := ⟨_, rfl⟩
  rw [HP.out] at HCP HPH HSX HRF HRS HPS HPN hpp hpl HPC ⊢
  obtain ⟨f, HF⟩ : ∃ f, Hid (phaseV t p = f) := ⟨_, rfl⟩
  obtain ⟨wo, HWO⟩ : ∃ x, Hid (whoV t p = x) := ⟨_, rfl⟩
  rw [HWO.out]
  rw [HF.out] at HPH HRS HPS HPN HPC ⊢
  obtain ⟨bd, HBD⟩ : ∃ bd, Hid (c - p = bd) := ⟨_, rfl⟩
  have hbd : 0 ≤ bd ∧ bd ≤ 1000000 := by have := HBD.out; omega
  rw [HBD.out] at HRF HRS
  have hwb : IntKind.i64.wrap (c - p) = bd := by rw [IntKind.wrap_i64]; have := HBD.out; omega
  clear hm hw hs ht hcs
  go_enter Tryz.func82, Tryz.ntmps82
  go_wp2_with (first | (refine wpList_load_row rfl 33 (.tmp 2) rfl w.heap.size rfl 33 (tbA t a) (0, 0) _ HX2.out Tryz.underlying33 rfl (by kernel_rfl) ?_) | fail)
  refine Calls.mono (HCP.out _) ?_
  rintro e w1 ⟨rfl, hb1⟩
  have HB1 : Hid (Below w.heap.size w w1) := HB2.out.trans (hb1.mono HB2.out.size)
  have HX1 : Hid (TBx w1 w.heap.size t a) := HX2.out.below hb1
  have HR1 : Hid (w1.heap[w.heap.size + 1]? = some (.cells #[.int .i64 0, .int .i64 0, .int .i64 0, .int .i64 0] 50 (0, 0))) := row_below HR2.out hb1
  clear hb1 HB2 HX2 HR2 HCP
  go_wp2_with (first | (refine wpList_load_row rfl 33 (.tmp 2) rfl w.heap.size rfl 33 (tbA t a) (0, 0) _ HX1.out Tryz.underlying33 rfl (by kernel_rfl) ?_) | fail)
  refine Calls.mono (HPH.out _ HB1.out) ?_
  rintro e w2 ⟨rfl, hb2⟩
  have HB3 : Hid (Below w.heap.size w w2) := HB1.out.trans (hb2.mono HB1.out.size)
  have HX3 : Hid (TBx w2 w.heap.size t a) := HX1.out.below hb2
  have HR3 : Hid (w2.heap[w.heap.size + 1]? = some (.cells #[.int .i64 0, .int .i64 0, .int .i64 0, .int .i64 0] 50 (0, 0))) := row_below HR1.out hb2
  clear hb2 HB1 HX1 HR1 HPH
  have hb4 : Below w2.heap.size w2 (w2.alloc (.cells #[.int .i64 c, .int .i64 0, .int .i64 (-1), .int .i64 f] 50)) := (Below.refl _ _).alloc (Nat.le_refl _) _
  have HB : Hid (Below w.heap.size w (w2.alloc (.cells #[.int .i64 c, .int .i64 0, .int .i64 (-1), .int .i64 f] 50))) := HB3.out.trans (hb4.mono HB3.out.size)
  have HX : Hid (TBx (w2.alloc (.cells #[.int .i64 c, .int .i64 0, .int .i64 (-1), .int .i64 f] 50)) w.heap.size t a) := HX3.out.below hb4
  have H4 : Hid ((w2.alloc (.cells #[.int .i64 c, .int .i64 0, .int .i64 (-1), .int .i64 f] 50)).heap[w.heap.size + 1]? = some (.cells #[.int .i64 0, .int .i64 0, .int .i64 0, .int .i64 0] 50 (0, 0))) := row_below HR3.out hb4
  have HRZ : Hid ((w2.alloc (.cells #[.int .i64 c, .int .i64 0, .int .i64 (-1), .int .i64 f] 50)).heap[w2.heap.size]? = some (.cells #[.int .i64 c, .int .i64 0, .int .i64 (-1), .int .i64 f] 50 (0, 0))) := new_row w2 _ _ _ rfl
  have HN6 : Hid (w.heap.size ≤ (w2.alloc (.cells #[.int .i64 c, .int .i64 0, .int .i64 (-1), .int .i64 f] 50)).heap.size ∧ w.heap.size + 1 < w2.heap.size) := ⟨HB.out.size, row_lt HR3.out⟩
  have HNW : Hid (w2.heap.size ≤ (w2.alloc (.cells #[.int .i64 c, .int .i64 0, .int .i64 (-1), .int .i64 f] 50)).heap.size) := hb4.size
  clear hb4 HB3 HX3 HR3
  have c3 := row_cell HRZ.out 3 _ rfl
  rcases HPC with hf | hf | hf | hf
  all_goals subst hf
  · go_wp2
    revert HB HX H4 HRZ HN6 HNW
    generalize (w2.alloc (.cells #[.int .i64 c, .int .i64 0, .int .i64 (-1), .int .i64 0] 50)) = WB
    generalize w2.heap.size = N6
    intro HB HX H4 HRZ HN6 HNW
    clear c3
    have HXB : Hid (∀ X, Below WB.heap.size WB X → TBx X w.heap.size t a) := fun X hX => HX.out.below hX
    obtain ⟨i0, r0, hTN⟩ := tn_ex HTM.out c
    have hs1 : slotV t p = -1 := by
      rcases slotV_cases t p with ⟨g, _⟩ | ⟨j, _, g, _⟩
      · exact g
      · exact absurd rfl (HPN.out j g)
    have HRT : Hid (RT t c (min r0 (bd + t.maj))) := HRF.out i0 r0 hs1 hTN
    have HUN : Hid (∀ (i : Nat) (r : Int), TN t c i r → i = i0 ∧ r = r0) := fun i r g => tn_uni HTM.out g hTN
    have HWE : Hid (wo = -1) := by show _ = _; rw [← HWO.out]; unfold whoV; rw [hs1, if_pos (by decide)]
    have HMJ : Hid (∀ X, Below WB.heap.size WB X → X.cell? ⟨w.heap.size, 14, none⟩ = some (.int .i64 t.maj)) := fun X hX => (HXB.out X hX).cell 14 rfl
    obtain ⟨y1, hy1⟩ : ∃ y, (t.ss.getD i0 sl0).1 = y := ⟨_, rfl⟩
    obtain ⟨y3, hy3⟩ : ∃ y, (t.ss.getD i0 sl0).2.2 = y := ⟨_, rfl⟩
    have HNT : Hid (∀ X, Below WB.heap.size WB X → Calls Tryz.prog 79 #[tbV t a, .int .i64 c] X fun e w' => e = .returned (.agg #[.int .i64 y1, .int .i64 r0, .int .i64 y3]) ∧ Below X.heap.size X w') := fun X hX =>
      (HNX.out X (HB.out.trans (hX.mono HN6.out.1))).mono fun e w' ⟨⟨i, r, e1, e2⟩, hb⟩ => by
        obtain ⟨rfl, rfl⟩ := HUN.out i r e2
        rw [← hy1, ← hy3]
        exact ⟨e1, hb⟩
    have HWR : Hid (IntKind.i64.wrap (bd + t.maj) = bd + t.maj) := by
      have := HTM.out.maj1
      show _ = _
      rw [IntKind.wrap_i64]; omega
    have hr0 : -1000000 ≤ r0 ∧ r0 ≤ 2000000 := by have := hTN.2.2.1.1; have := hTN.2.2.2; omega
    clear HNX HSX HSL HRF HRS HPS HPN HUN hTN hs1 HWO hy1 hy3 HX
    generalize t.maj = mj at *
    refine wp_region_inv (by kernel_rfl) (by kernel_rfl) (fun A ℓ a' w' => ∃ (x23 x24 x25 x26 x27 x28 x29 x30 x31 x32 : Value), a' = ((((((((((A.put (some 23) x23).put (some 24) x24).put (some 25) x25).put (some 26) x26).put (some 27) x27).put (some 28) x28).put (some 29) x29).put (some 30) x30).put (some 31) x31).put (some 32) x32) ∧ R4 (WB) (#[.int .i64 c, .int .i64 0, .int .i64 (-1), .int .i64 0]) (#[.int .i64 c, .int .i64 (min r0 (bd + mj)), .int .i64 (-1), .int .i64 0]) (N6) (tbV t a) (.int .i64 c) (.agg #[.int .i64 y1, .int .i64 r0, .int .i64 y3]) (.int .i64 r0) (.int .i64 bd) (.pointer (some ⟨w.heap.size, 14, none⟩)) (.int .i64 mj) (.int .i64 (bd + mj)) (.int .i64 (min r0 (bd + mj))) (.pointer (some ⟨N6, 1, none⟩)) w' (ℓ 0) (ℓ 1) (ℓ 2) (ℓ 3) (ℓ 4) (ℓ 5) (ℓ 6) (ℓ 7) (ℓ 8) (ℓ 9) (ℓ 10) x23 x24 x25 x26 x27 x28 x29 x30 x31 x32) ?_ ?_ ?_ ?_
    · exact ⟨undef, undef, undef, undef, undef, undef, undef, undef, undef, undef, (by simp only [Act.put, List.setIfInBounds_toArray, List.set_cons_zero, List.set_cons_succ]), ⟨(fun g => by cases g), ((Below.refl _ _).mono HNW.out).drew, (fun _ => (Below.refl _ _).drew), (fun _ => HRZ.out), (fun g => by cases g), (fun g => by cases g), (fun g => by cases g), (fun g => by cases g), (fun g => by cases g), (fun g => by cases g), (fun g => by cases g), (fun g => by cases g), (fun g => by cases g), (fun g => by cases g), (fun g => by cases g)⟩⟩
    · intro ℓ a' w' hI hall
      obtain ⟨x23, x24, x25, x26, x27, x28, x29, x30, x31, x32, rfl, hr⟩ := hI
      have hall' : ∀ i, i < 11 → ℓ i = true := hall
      obtain rfl := hr.f0 (hall' 0 (by decide))
      obtain rfl := hr.f1 (hall' 1 (by decide))
      obtain rfl := hr.f2 (hall' 2 (by decide))
      obtain rfl := hr.f3 (hall' 3 (by decide))
      obtain rfl := hr.f4 (hall' 4 (by decide))
      obtain rfl := hr.f5 (hall' 5 (by decide))
      obtain rfl := hr.f6 (hall' 6 (by decide))
      obtain rfl := hr.f7 (hall' 7 (by decide))
      obtain rfl := hr.f8 (hall' 8 (by decide))
      obtain rfl := hr.f9 (hall' 9 (by decide))
      have hrow := hr.r1 (hall' 10 (by decide))
      have hgb := hr.gb
      clear hall hall' hr
      simp only [Act.put, List.setIfInBounds_toArray, List.set_cons_zero, List.set_cons_succ]
      have HB9 : Hid (Below w.heap.size w w') := HB.out.trans (hgb.mono (by have := HN6.out.2; omega))
      have HR9 : Hid (w'.heap[N6]? = some (.cells #[.int .i64 c, .int .i64 (min r0 (bd + mj)), .int .i64 (-1), .int .i64 0] 50 (0, 0))) := hrow
      have H49 : Hid (w'.heap[w.heap.size + 1]? = some (.cells #[.int .i64 0, .int .i64 0, .int .i64 0, .int .i64 0] 50 (0, 0))) := (hgb.block _ HN6.out.2).trans H4.out
      clear hrow hgb
      go_wp2_with (first | (refine wpList_load_row rfl 50 (.tmp 6) rfl N6 rfl 50 (#[.int .i64 c, .int .i64 (min r0 (bd + mj)), .int .i64 (-1), .int .i64 0]) (0, 0) _ HR9.out Tryz.underlying50 rfl (by kernel_rfl) ?_) | (refine wpList_store_row rfl 50 (.tmp 4) (.tmp 33) rfl (w.heap.size + 1) (#[.int .i64 c, .int .i64 (min r0 (bd + mj)), .int .i64 (-1), .int .i64 0]) rfl rfl 50 (#[.int .i64 0, .int .i64 0, .int .i64 0, .int .i64 0]) H49.out (by kernel_rfl) rfl (by simp [Value.oneCell']) ?_) | fail)
      exact bodyPost_ret (v := .agg #[.int .i64 c, .int .i64 (min r0 (bd + mj)), .int .i64 (-1), .int .i64 0]) (res_rest (setRow_heap _ _ _ _ _ _ H49.out) rfl rfl) rfl ⟨_, by rw [HWE.out], HRT.out, below_setRow HB9.out (Nat.le_succ _) _⟩
    · intro ℓ a' w' i o hI ho hi hL hdep K hK
      obtain ⟨x23, x24, x25, x26, x27, x28, x29, x30, x31, x32, rfl, hr⟩ := hI
      have hi7 : i < 11 := hi
      have hcs : i = 0 ∨ i = 1 ∨ i = 2 ∨ i = 3 ∨ i = 4 ∨ i = 5 ∨ i = 6 ∨ i = 7 ∨ i = 8 ∨ i = 9 ∨ i = 10 := by omega
      clear hi hi7
      rcases hcs with rfl | rfl | rfl | rfl | rfl | rfl | rfl | rfl | rfl | rfl | rfl
      · replace ho : some ({ dst := some 23, op := .load 33 (.tmp 2), type := 33, pos := "l24_audit.go:25", after := #[], guard := none } : Oper) = some o := ho
        revert hK
        obtain rfl := Option.some.inj ho
        clear hdep ho
        have hl : ℓ 10 = false := by
          cases h7 : ℓ 10
          · rfl
          · have := (hr.cs h7).1; rw [this] at hL; cases hL
        have hgb : Below (WB).heap.size (WB) w' := hr.pre hl
        intro hK
        rw [if_pos (by rfl)]
        try simp only [Act.put, List.setIfInBounds_toArray, List.set_cons_zero, List.set_cons_succ]
        refine wp_load_row (P := Tryz.prog) 33 (.tmp 2) rfl w.heap.size rfl 33 (tbA t a) (0, 0) _ ((HXB.out _ hgb)) Tryz.underlying33 rfl (by kernel_rfl) ?_
        exact hK.out _ _ (fun j => if j = 0 then true else ℓ j) ⟨(tbV t a), x24, x25, x26, x27, x28, x29, x30, x31, x32, (by first | (simp only [Act.put, List.setIfInBounds_toArray, List.set_cons_zero, List.set_cons_succ]; done) | (simp only [Act.put, List.setIfInBounds_toArray, List.set_cons_zero, List.set_cons_succ]; rfl)), ⟨(fun g => ⟨rfl, (hr.cs g).2.1, (hr.cs g).2.2.1, (hr.cs g).2.2.2.1, (hr.cs g).2.2.2.2.1, (hr.cs g).2.2.2.2.2.1, (hr.cs g).2.2.2.2.2.2.1, (hr.cs g).2.2.2.2.2.2.2.1, (hr.cs g).2.2.2.2.2.2.2.2.1, (hr.cs g).2.2.2.2.2.2.2.2.2.1, trivial⟩), hr.gb, hr.pre, hr.r0, hr.r1, (fun _ => rfl), hr.f1, hr.f2, hr.f3, hr.f4, hr.f5, hr.f6, hr.f7, hr.f8, hr.f9⟩⟩ (if_pos rfl) (fun j hj => if_neg hj)
      · revert hK
        obtain rfl := Option.some.inj ho
        clear hdep ho
        intro hK
        rw [if_pos (by rfl)]
        try simp only [Act.put, List.setIfInBounds_toArray, List.set_cons_zero, List.set_cons_succ]
        go_simp
        exact hK.out _ _ (fun j => if j = 1 then true else ℓ j) ⟨x23, (.int .i64 c), x25, x26, x27, x28, x29, x30, x31, x32, (by first | (simp only [Act.put, List.setIfInBounds_toArray, List.set_cons_zero, List.set_cons_succ]; done) | (simp only [Act.put, List.setIfInBounds_toArray, List.set_cons_zero, List.set_cons_succ]; rfl)), ⟨(fun g => ⟨(hr.cs g).1, rfl, (hr.cs g).2.2.1, (hr.cs g).2.2.2.1, (hr.cs g).2.2.2.2.1, (hr.cs g).2.2.2.2.2.1, (hr.cs g).2.2.2.2.2.2.1, (hr.cs g).2.2.2.2.2.2.2.1, (hr.cs g).2.2.2.2.2.2.2.2.1, (hr.cs g).2.2.2.2.2.2.2.2.2.1, trivial⟩), hr.gb, hr.pre, hr.r0, hr.r1, hr.f0, (fun _ => rfl), hr.f2, hr.f3, hr.f4, hr.f5, hr.f6, hr.f7, hr.f8, hr.f9⟩⟩ (if_pos rfl) (fun j hj => if_neg hj)
      · revert hK
        obtain rfl := Option.some.inj ho
        have g0 : ℓ 0 = true := hdep { on := 0, ground := Ground.data } (by simp) rfl
        have g1 : ℓ 1 = true := hdep { on := 1, ground := Ground.data } (by simp) rfl
        clear hdep ho
        have hl : ℓ 10 = false := by
          cases h7 : ℓ 10
          · rfl
          · have := (hr.cs h7).2.2.1; rw [this] at hL; cases hL
        have hgb : Below (WB).heap.size (WB) w' := hr.pre hl
        obtain rfl := hr.f0 g0
        obtain rfl := hr.f1 g1
        intro hK
        rw [if_pos (by rfl)]
        try simp only [Act.put, List.setIfInBounds_toArray, List.set_cons_zero, List.set_cons_succ]
        go_simp
        refine Calls.mono (HNT.out _ hgb) ?_
        rintro e w9 ⟨rfl, hb9⟩
        have hr9 := hr.below hb9 (Nat.le_trans HNW.out hgb.size)
        exact hK.out _ _ (fun j => if j = 2 then true else ℓ j) ⟨(tbV t a), (.int .i64 c), (.agg #[.int .i64 y1, .int .i64 r0, .int .i64 y3]), x26, x27, x28, x29, x30, x31, x32, (by first | (simp only [Act.put, List.setIfInBounds_toArray, List.set_cons_zero, List.set_cons_succ]; done) | (simp only [Act.put, List.setIfInBounds_toArray, List.set_cons_zero, List.set_cons_succ]; rfl)), ⟨(fun g => ⟨(hr9.cs g).1, (hr9.cs g).2.1, rfl, (hr9.cs g).2.2.2.1, (hr9.cs g).2.2.2.2.1, (hr9.cs g).2.2.2.2.2.1, (hr9.cs g).2.2.2.2.2.2.1, (hr9.cs g).2.2.2.2.2.2.2.1, (hr9.cs g).2.2.2.2.2.2.2.2.1, (hr9.cs g).2.2.2.2.2.2.2.2.2.1, trivial⟩), hr9.gb, hr9.pre, hr9.r0, hr9.r1, hr9.f0, hr9.f1, (fun _ => rfl), hr9.f3, hr9.f4, hr9.f5, hr9.f6, hr9.f7, hr9.f8, hr9.f9⟩⟩ (if_pos rfl) (fun j hj => if_neg hj)
      · revert hK
        obtain rfl := Option.some.inj ho
        have g2 : ℓ 2 = true := hdep { on := 2, ground := Ground.data } (by simp) rfl
        clear hdep ho
        obtain rfl := hr.f2 g2
        intro hK
        rw [if_pos (by rfl)]
        try simp only [Act.put, List.setIfInBounds_toArray, List.set_cons_zero, List.set_cons_succ]
        go_simp
        exact hK.out _ _ (fun j => if j = 3 then true else ℓ j) ⟨x23, x24, (.agg #[.int .i64 y1, .int .i64 r0, .int .i64 y3]), (.int .i64 r0), x27, x28, x29, x30, x31, x32, (by first | (simp only [Act.put, List.setIfInBounds_toArray, List.set_cons_zero, List.set_cons_succ]; done) | (simp only [Act.put, List.setIfInBounds_toArray, List.set_cons_zero, List.set_cons_succ]; rfl)), ⟨(fun g => ⟨(hr.cs g).1, (hr.cs g).2.1, (hr.cs g).2.2.1, rfl, (hr.cs g).2.2.2.2.1, (hr.cs g).2.2.2.2.2.1, (hr.cs g).2.2.2.2.2.2.1, (hr.cs g).2.2.2.2.2.2.2.1, (hr.cs g).2.2.2.2.2.2.2.2.1, (hr.cs g).2.2.2.2.2.2.2.2.2.1, trivial⟩), hr.gb, hr.pre, hr.r0, hr.r1, hr.f0, hr.f1, hr.f2, (fun _ => rfl), hr.f4, hr.f5, hr.f6, hr.f7, hr.f8, hr.f9⟩⟩ (if_pos rfl) (fun j hj => if_neg hj)
      · revert hK
        obtain rfl := Option.some.inj ho
        clear hdep ho
        intro hK
        rw [if_pos (by rfl)]
        try simp only [Act.put, List.setIfInBounds_toArray, List.set_cons_zero, List.set_cons_succ]
        go_simp
        exact hK.out _ _ (fun j => if j = 4 then true else ℓ j) ⟨x23, x24, x25, x26, (.int .i64 bd), x28, x29, x30, x31, x32, (by first | (simp only [Act.put, List.setIfInBounds_toArray, List.set_cons_zero, List.set_cons_succ]; done) | (simp only [Act.put, List.setIfInBounds_toArray, List.set_cons_zero, List.set_cons_succ]; rfl)), ⟨(fun g => ⟨(hr.cs g).1, (hr.cs g).2.1, (hr.cs g).2.2.1, (hr.cs g).2.2.2.1, rfl, (hr.cs g).2.2.2.2.2.1, (hr.cs g).2.2.2.2.2.2.1, (hr.cs g).2.2.2.2.2.2.2.1, (hr.cs g).2.2.2.2.2.2.2.2.1, (hr.cs g).2.2.2.2.2.2.2.2.2.1, trivial⟩), hr.gb, hr.pre, hr.r0, hr.r1, hr.f0, hr.f1, hr.f2, hr.f3, (fun _ => rfl), hr.f5, hr.f6, hr.f7, hr.f8, hr.f9⟩⟩ (if_pos rfl) (fun j hj => if_neg hj)
      · revert hK
        obtain rfl := Option.some.inj ho
        clear hdep ho
        intro hK
        rw [if_pos (by rfl)]
        try simp only [Act.put, List.setIfInBounds_toArray, List.set_cons_zero, List.set_cons_succ]
        go_simp
        exact hK.out _ _ (fun j => if j = 5 then true else ℓ j) ⟨x23, x24, x25, x26, x27, (.pointer (some ⟨w.heap.size, 14, none⟩)), x29, x30, x31, x32, (by first | (simp only [Act.put, List.setIfInBounds_toArray, List.set_cons_zero, List.set_cons_succ]; done) | (simp only [Act.put, List.setIfInBounds_toArray, List.set_cons_zero, List.set_cons_succ]; rfl)), ⟨(fun g => ⟨(hr.cs g).1, (hr.cs g).2.1, (hr.cs g).2.2.1, (hr.cs g).2.2.2.1, (hr.cs g).2.2.2.2.1, rfl, (hr.cs g).2.2.2.2.2.2.1, (hr.cs g).2.2.2.2.2.2.2.1, (hr.cs g).2.2.2.2.2.2.2.2.1, (hr.cs g).2.2.2.2.2.2.2.2.2.1, trivial⟩), hr.gb, hr.pre, hr.r0, hr.r1, hr.f0, hr.f1, hr.f2, hr.f3, hr.f4, (fun _ => rfl), hr.f6, hr.f7, hr.f8, hr.f9⟩⟩ (if_pos rfl) (fun j hj => if_neg hj)
      · revert hK
        obtain rfl := Option.some.inj ho
        have g5 : ℓ 5 = true := hdep { on := 5, ground := Ground.data } (by simp) rfl
        clear hdep ho
        have hl : ℓ 10 = false := by
          cases h7 : ℓ 10
          · rfl
          · have := (hr.cs h7).2.2.2.2.2.2.1; rw [this] at hL; cases hL
        have hgb : Below (WB).heap.size (WB) w' := hr.pre hl
        obtain rfl := hr.f5 g5
        intro hK
        rw [if_pos (by rfl)]
        try simp only [Act.put, List.setIfInBounds_toArray, List.set_cons_zero, List.set_cons_succ]
        have cc := (HMJ.out _ hgb)
        go_simp
        exact hK.out _ _ (fun j => if j = 6 then true else ℓ j) ⟨x23, x24, x25, x26, x27, (.pointer (some ⟨w.heap.size, 14, none⟩)), (.int .i64 mj), x30, x31, x32, (by first | (simp only [Act.put, List.setIfInBounds_toArray, List.set_cons_zero, List.set_cons_succ]; done) | (simp only [Act.put, List.setIfInBounds_toArray, List.set_cons_zero, List.set_cons_succ]; rfl)), ⟨(fun g => ⟨(hr.cs g).1, (hr.cs g).2.1, (hr.cs g).2.2.1, (hr.cs g).2.2.2.1, (hr.cs g).2.2.2.2.1, (hr.cs g).2.2.2.2.2.1, rfl, (hr.cs g).2.2.2.2.2.2.2.1, (hr.cs g).2.2.2.2.2.2.2.2.1, (hr.cs g).2.2.2.2.2.2.2.2.2.1, trivial⟩), hr.gb, hr.pre, hr.r0, hr.r1, hr.f0, hr.f1, hr.f2, hr.f3, hr.f4, hr.f5, (fun _ => rfl), hr.f7, hr.f8, hr.f9⟩⟩ (if_pos rfl) (fun j hj => if_neg hj)
      · revert hK
        obtain rfl := Option.some.inj ho
        have g4 : ℓ 4 = true := hdep { on := 4, ground := Ground.data } (by simp) rfl
        have g6 : ℓ 6 = true := hdep { on := 6, ground := Ground.data } (by simp) rfl
        clear hdep ho
        obtain rfl := hr.f4 g4
        obtain rfl := hr.f6 g6
        intro hK
        rw [if_pos (by rfl)]
        try simp only [Act.put, List.setIfInBounds_toArray, List.set_cons_zero, List.set_cons_succ]
        have hwr := HWR.out
        go_simp
        exact hK.out _ _ (fun j => if j = 7 then true else ℓ j) ⟨x23, x24, x25, x26, (.int .i64 bd), x28, (.int .i64 mj), (.int .i64 (bd + mj)), x31, x32, (by first | (simp only [Act.put, List.setIfInBounds_toArray, List.set_cons_zero, List.set_cons_succ]; done) | (simp only [Act.put, List.setIfInBounds_toArray, List.set_cons_zero, List.set_cons_succ]; rfl)), ⟨(fun g => ⟨(hr.cs g).1, (hr.cs g).2.1, (hr.cs g).2.2.1, (hr.cs g).2.2.2.1, (hr.cs g).2.2.2.2.1, (hr.cs g).2.2.2.2.2.1, (hr.cs g).2.2.2.2.2.2.1, rfl, (hr.cs g).2.2.2.2.2.2.2.2.1, (hr.cs g).2.2.2.2.2.2.2.2.2.1, trivial⟩), hr.gb, hr.pre, hr.r0, hr.r1, hr.f0, hr.f1, hr.f2, hr.f3, hr.f4, hr.f5, hr.f6, (fun _ => rfl), hr.f8, hr.f9⟩⟩ (if_pos rfl) (fun j hj => if_neg hj)
      · revert hK
        obtain rfl := Option.some.inj ho
        have g3 : ℓ 3 = true := hdep { on := 3, ground := Ground.data } (by simp) rfl
        have g7 : ℓ 7 = true := hdep { on := 7, ground := Ground.data } (by simp) rfl
        clear hdep ho
        obtain rfl := hr.f3 g3
        obtain rfl := hr.f7 g7
        intro hK
        rw [if_pos (by rfl)]
        try simp only [Act.put, List.setIfInBounds_toArray, List.set_cons_zero, List.set_cons_succ]
        go_simp
        exact hK.out _ _ (fun j => if j = 8 then true else ℓ j) ⟨x23, x24, x25, (.int .i64 r0), x27, x28, x29, (.int .i64 (bd + mj)), (.int .i64 (min r0 (bd + mj))), x32, (by first | (simp only [Act.put, List.setIfInBounds_toArray, List.set_cons_zero, List.set_cons_succ]; done) | (simp only [Act.put, List.setIfInBounds_toArray, List.set_cons_zero, List.set_cons_succ]; rfl)), ⟨(fun g => ⟨(hr.cs g).1, (hr.cs g).2.1, (hr.cs g).2.2.1, (hr.cs g).2.2.2.1, (hr.cs g).2.2.2.2.1, (hr.cs g).2.2.2.2.2.1, (hr.cs g).2.2.2.2.2.2.1, (hr.cs g).2.2.2.2.2.2.2.1, rfl, (hr.cs g).2.2.2.2.2.2.2.2.2.1, trivial⟩), hr.gb, hr.pre, hr.r0, hr.r1, hr.f0, hr.f1, hr.f2, hr.f3, hr.f4, hr.f5, hr.f6, hr.f7, (fun _ => rfl), hr.f9⟩⟩ (if_pos rfl) (fun j hj => if_neg hj)
      · revert hK
        obtain rfl := Option.some.inj ho
        clear hdep ho
        intro hK
        rw [if_pos (by rfl)]
        try simp only [Act.put, List.setIfInBounds_toArray, List.set_cons_zero, List.set_cons_succ]
        go_simp
        exact hK.out _ _ (fun j => if j = 9 then true else ℓ j) ⟨x23, x24, x25, x26, x27, x28, x29, x30, x31, (.pointer (some ⟨N6, 1, none⟩)), (by first | (simp only [Act.put, List.setIfInBounds_toArray, List.set_cons_zero, List.set_cons_succ]; done) | (simp only [Act.put, List.setIfInBounds_toArray, List.set_cons_zero, List.set_cons_succ]; rfl)), ⟨(fun g => ⟨(hr.cs g).1, (hr.cs g).2.1, (hr.cs g).2.2.1, (hr.cs g).2.2.2.1, (hr.cs g).2.2.2.2.1, (hr.cs g).2.2.2.2.2.1, (hr.cs g).2.2.2.2.2.2.1, (hr.cs g).2.2.2.2.2.2.2.1, (hr.cs g).2.2.2.2.2.2.2.2.1, rfl, trivial⟩), hr.gb, hr.pre, hr.r0, hr.r1, hr.f0, hr.f1, hr.f2, hr.f3, hr.f4, hr.f5, hr.f6, hr.f7, hr.f8, (fun _ => rfl)⟩⟩ (if_pos rfl) (fun j hj => if_neg hj)
      · revert hK
        obtain rfl := Option.some.inj ho
        have g9 : ℓ 9 = true := hdep { on := 9, ground := Ground.data } (by simp) rfl
        have g8 : ℓ 8 = true := hdep { on := 8, ground := Ground.data } (by simp) rfl
        have g0 : ℓ 0 = true := hdep { on := 0, ground := Ground.phase } (by simp) rfl
        have g1 : ℓ 1 = true := hdep { on := 1, ground := Ground.phase } (by simp) rfl
        have g2 : ℓ 2 = true := hdep { on := 2, ground := Ground.phase } (by simp) rfl
        have g3 : ℓ 3 = true := hdep { on := 3, ground := Ground.phase } (by simp) rfl
        have g4 : ℓ 4 = true := hdep { on := 4, ground := Ground.phase } (by simp) rfl
        have g5 : ℓ 5 = true := hdep { on := 5, ground := Ground.phase } (by simp) rfl
        have g6 : ℓ 6 = true := hdep { on := 6, ground := Ground.phase } (by simp) rfl
        have g7 : ℓ 7 = true := hdep { on := 7, ground := Ground.phase } (by simp) rfl
        clear hdep ho
        obtain rfl := hr.f9 g9
        obtain rfl := hr.f8 g8
        intro hK
        rw [if_pos (by rfl)]
        try simp only [Act.put, List.setIfInBounds_toArray, List.set_cons_zero, List.set_cons_succ]
        have hz := hr.r0 hL
        have cc := row_cell hz 1 _ rfl
        have cf := row_free hz 1
        go_simp
        exact hK.out _ _ (fun j => if j = 10 then true else ℓ j) ⟨x23, x24, x25, x26, x27, x28, x29, x30, (.int .i64 (min r0 (bd + mj))), (.pointer (some ⟨N6, 1, none⟩)), (by first | (simp only [Act.put, List.setIfInBounds_toArray, List.set_cons_zero, List.set_cons_succ]; done) | (simp only [Act.put, List.setIfInBounds_toArray, List.set_cons_zero, List.set_cons_succ]; rfl)), ⟨(fun _ => ⟨g0, g1, g2, g3, g4, g5, g6, g7, g8, g9, trivial⟩), hr.gb.setCell (p := ⟨N6, 1, none⟩) (Nat.le_refl _) _, (fun g => by cases g), (fun g => by cases g), (fun _ => r3_set hz 1 _ rfl), hr.f0, hr.f1, hr.f2, hr.f3, hr.f4, hr.f5, hr.f6, hr.f7, hr.f8, hr.f9⟩⟩ (if_pos rfl) (fun j hj => if_neg hj)
    · rintro a' w' ℓ ℓ' hℓ hI
      rw [← show ℓ = ℓ' from funext hℓ]
      exact hI
  · go_wp2
    revert HB HX H4 HRZ HN6 HNW
    generalize (w2.alloc (.cells #[.int .i64 c, .int .i64 0, .int .i64 (-1), .int .i64 1] 50)) = WB
    generalize w2.heap.size = N6
    intro HB HX H4 HRZ HN6 HNW
    clear c3
    have HXB : Hid (∀ X, Below WB.heap.size WB X → TBx X w.heap.size t a) := fun X hX => HX.out.below hX
    obtain ⟨i, hi, hsi, _⟩ := HPS.out (by decide)
    have HRT0 : Hid _ := HRS.out i hi hsi
    have HWE : Hid (wo = (t.ss.getD i sl0).1) := by show _ = _; rw [← HWO.out]; unfold whoV; rw [hsi, if_neg (by omega)]; rfl
    obtain ⟨b1, o1, hsa, hbl1, p1⟩ := (HSL.out _ HB.out).at i (by omega)
    have HSC : Hid (∀ X, Below WB.heap.size WB X → X.cell? ⟨w.heap.size, 18, none⟩ = some (.slice (some ⟨b1, o1, none⟩) a.sn a.sc)) := fun X hX => by rw [← hsa]; exact (HXB.out X hX).cell 18 rfl
    have HCE : Hid (∀ X, Below WB.heap.size WB X → X.cell? ⟨b1, o1 + i * 3, none⟩ = some (.int .i64 (t.ss.getD i sl0).1) ∧ X.cell? ⟨b1, o1 + i * 3 + 1, none⟩ = some (.int .i64 (t.ss.getD i sl0).2.1) ∧ X.cell? ⟨b1, o1 + i * 3 + 2, none⟩ = some (.int .i64 (t.ss.getD i sl0).2.2)) := fun X hX => by
      have := p1.of (w' := X) (fun j => hX.cell (p := ⟨b1, j, none⟩) hbl1)
      simp only [slX] at this
      exact sl_cells this
    have HSA : Hid (∀ X, Below WB.heap.size WB X → Calls Tryz.prog 107 #[tbV t a, .int .i64 c] X fun e w' => e = .returned (.int .i64 (i : Int)) ∧ Below X.heap.size X w') := fun X hX => by
      rw [← hsi]
      exact HSX.out X (HB.out.trans (hX.mono HN6.out.1))
    have hx := HTM.out.st i hi
    have hx2 := HTM.out.en i hi
    have hx3 := HTM.out.ln i hi
    have hp1 := HTM.out.pad1
    have hp2 := HTM.out.pad2
    have hg1 := HTM.out.grd1
    have hg2 := HTM.out.grd2
    have HRP : Hid (∀ (x1 x2 x3 : Int), (0 ≤ x2 ∧ 0 ≤ x3 ∧ x2 + x3 ≤ 5000) → ∀ X, Calls Tryz.prog 78 #[tbV t a, .agg #[.int .i64 x1, .int .i64 x2, .int .i64 x3]] X fun e w' => e = .returned (.tuple #[.int .i64 (x2 + t.pad), .int .i64 (x2 + x3 - t.grd)]) ∧ Below X.heap.size X w') := fun x1 x2 x3 h X => run_of t a x1 x2 x3 X ⟨hp1, hp2⟩ ⟨hg1, hg2⟩ h
    have HIN : Hid ((i : Int) < (a.sn : Int) ∧ i < a.sn) := ⟨by omega, by omega⟩
    replace hn : a.sn ≤ 1048576 := hn
    clear HNX HSX HSL HRF HRS HPS HPN hsi p1 hbl1 HX HWO hsa hi hL
    generalize t.ss.getD i sl0 = y at *
    obtain ⟨y1, y2, y3⟩ := y
    simp only [rsV] at HRT0 HWE HCE hx hx2 hx3 ⊢
    have HRO := (HRP.out y1 y2 y3 ⟨by omega, by omega, by omega⟩)
    replace HRO : Hid _ := HRO
    have HSE : Hid (∀ X, Calls Tryz.prog 65 #[.agg #[.int .i64 y1, .int .i64 y2, .int .i64 y3]] X fun e w' => e = .returned (.int .i64 (y2 + y3)) ∧ Below X.heap.size X w') := fun X => slot_end y1 y2 y3 X (by rw [IntKind.wrap_i64]; omega)
    have HWR : Hid (IntKind.i64.wrap (bd + (y2 + t.pad)) = bd + (y2 + t.pad) ∧ IntKind.i64.wrap (bd + (y2 + y3 - t.grd)) = bd + (y2 + y3 - t.grd) ∧ IntKind.i64.wrap (bd + (y2 + y3)) = bd + (y2 + y3)) := by
      refine ⟨?_, ?_, ?_⟩ <;> (rw [IntKind.wrap_i64]; omega)
    have HRT : Hid (RT t c (bd + (y2 + t.pad))) := by have := HRT0.out; show RT t c (bd + (y2 + t.pad)); simpa using this
    clear HRT0 HRP
    generalize t.pad = pad at *
    generalize t.grd = grd at *
    obtain ⟨n, hnn⟩ : ∃ n, a.sn = n := ⟨_, rfl⟩
    obtain ⟨nc, hnc⟩ : ∃ nc, a.sc = nc := ⟨_, rfl⟩
    rw [hnn] at HSC HIN hn
    rw [hnc] at HSC
    clear hnn hnc
    refine wp_region_inv (by kernel_rfl) (by kernel_rfl) (fun A ℓ a' w' => ∃ (x34 x35 x36 x37 x38 x39 x40 x7 : Value), a' = ((((((((A.put (some 34) x34).put (some 35) x35).put (some 36) x36).put (some 37) x37).put (some 38) x38).put (some 39) x39).put (some 40) x40).put (some 7) x7) ∧ R6 (WB) (#[.int .i64 0, .int .i64 0, .int .i64 0]) (#[.int .i64 y1, .int .i64 y2, .int .i64 y3]) (.pointer (some ⟨w.heap.size, 18, none⟩)) (.slice (some ⟨b1, o1, none⟩) n nc) (tbV t a) (.int .i64 c) (.int .i64 (i : Int)) (.pointer (some ⟨b1, o1 + i * 3, none⟩)) (.agg #[.int .i64 y1, .int .i64 y2, .int .i64 y3]) w' (ℓ 0) (ℓ 1) (ℓ 2) (ℓ 3) (ℓ 4) (ℓ 5) (ℓ 6) (ℓ 7) (ℓ 8) x34 x35 x36 x37 x38 x39 x40 x7) ?_ ?_ ?_ ?_
    · exact ⟨undef, undef, undef, undef, undef, undef, undef, undef, (by simp only [Act.put, List.setIfInBounds_toArray, List.set_cons_zero, List.set_cons_succ]), ⟨(fun g => by cases g), (Below.refl _ _).drew, (fun g => by cases g), (fun g => by cases g), (fun g => by cases g), (fun g => by cases g), (fun g => by cases g), (fun g => by cases g), (fun g => by cases g), (fun g => by cases g)⟩⟩
    · intro ℓ a' w' hI hall
      obtain ⟨x34, x35, x36, x37, x38, x39, x40, x7, rfl, hr⟩ := hI
      have hall' : ∀ i, i < 9 → ℓ i = true := hall
      obtain rfl := hr.f0 (hall' 0 (by decide))
      obtain rfl := hr.f1 (hall' 1 (by decide))
      obtain rfl := hr.f2 (hall' 2 (by decide))
      obtain rfl := hr.f3 (hall' 3 (by decide))
      obtain rfl := hr.f4 (hall' 4 (by decide))
      obtain rfl := hr.f5 (hall' 5 (by decide))
      obtain rfl := hr.f6 (hall' 6 (by decide))
      obtain ⟨N, rfl, hN, _, hrow⟩ := hr.f7 (hall' 7 (by decide))
      have hrow := hrow (hall' 8 (by decide))
      have hgb := hr.gb
      clear hall hall' hr
      simp only [Act.put, List.setIfInBounds_toArray, List.set_cons_zero, List.set_cons_succ]
      have HBA : Hid (Below WB.heap.size WB w') := hgb
      have HR7 : Hid (w'.heap[N]? = some (.cells #[.int .i64 y1, .int .i64 y2, .int .i64 y3] 42 (0, 0))) := hrow
      have HN7 : Hid (WB.heap.size ≤ N ∧ N < w'.heap.size) := ⟨hN, row_lt hrow⟩
      have HX7 : Hid (TBx w' w.heap.size t a) := HXB.out _ hgb
      clear hrow hgb hN
      go_wp2_with (first | (refine wpList_load_row rfl 33 (.tmp 2) rfl w.heap.size rfl 33 (tbA t a) (0, 0) _ HX7.out Tryz.underlying33 rfl (by kernel_rfl) ?_) | (refine wpList_load_row rfl 42 (.tmp 7) rfl N rfl 42 (#[.int .i64 y1, .int .i64 y2, .int .i64 y3]) (0, 0) _ HR7.out Tryz.underlying42 rfl (by kernel_rfl) ?_) | fail)
      refine Calls.mono (HRO.out _) ?_
      rintro e w3 ⟨rfl, hb3⟩
      have HBC : Hid (Below WB.heap.size WB w3) := HBA.out.trans (hb3.mono HBA.out.size)
      have HR8 : Hid (w3.heap[N]? = some (.cells #[.int .i64 y1, .int .i64 y2, .int .i64 y3] 42 (0, 0))) := row_below HR7.out hb3
      have HN8 : Hid (WB.heap.size ≤ N ∧ N < w3.heap.size) := ⟨HN7.out.1, row_lt HR8.out⟩
      clear hb3 HBA HR7 HN7 HX7
      have HR9 : Hid (w3.heap[N6]? = some (.cells #[.int .i64 c, .int .i64 0, .int .i64 (-1), .int .i64 1] 50 (0, 0))) := row_below HRZ.out HBC.out
      have H48 : Hid (w3.heap[w.heap.size + 1]? = some (.cells #[.int .i64 0, .int .i64 0, .int .i64 0, .int .i64 0] 50 (0, 0))) := row_below H4.out HBC.out
      have HB3 : Hid (Below w.heap.size w w3) := HB.out.trans (HBC.out.mono HN6.out.1)
      have HNE : Hid (N ≠ N6) := by have := HN8.out.1; have := row_lt HRZ.out; show _ ≠ _; omega
      have k0 := row_cell HR8.out 0 _ rfl
      have cc := row_cell HR9.out 2 _ rfl
      have cf := row_free HR9.out 2
      have c1 := row_cell HR9.out 1 _ rfl
      have cf1 := row_free HR9.out 1
      have c3 := row_cell HR9.out 3 _ rfl
      have HR10 : Hid (((w3.setCell ⟨N6, 2, none⟩ (.int .i64 y1)).setCell ⟨N6, 1, none⟩ (.int .i64 (bd + (y2 + pad)))).heap[N6]? = some (.cells #[.int .i64 c, .int .i64 (bd + (y2 + pad)), .int .i64 y1, .int .i64 1] 50 (0, 0))) := r3_set (r3_set HR9.out 2 _ rfl) 1 _ rfl
      have H410 : Hid (((w3.setCell ⟨N6, 2, none⟩ (.int .i64 y1)).setCell ⟨N6, 1, none⟩ (.int .i64 (bd + (y2 + pad)))).heap[w.heap.size + 1]? = some (.cells #[.int .i64 0, .int .i64 0, .int .i64 0, .int .i64 0] 50 (0, 0))) := row_other (row_other H48.out (by have := HN6.out.2; omega)) (by have := HN6.out.2; omega)
      have HB10 : Hid (Below w.heap.size w ((w3.setCell ⟨N6, 2, none⟩ (.int .i64 y1)).setCell ⟨N6, 1, none⟩ (.int .i64 (bd + (y2 + pad))))) := (HB3.out.setCell (p := ⟨N6, 2, none⟩) (by show w.heap.size ≤ N6; have := HN6.out.2; omega) _).setCell (p := ⟨N6, 1, none⟩) (by show w.heap.size ≤ N6; have := HN6.out.2; omega) _
      have hwr := HWR.out
      go_wp2_with (first | (refine wpList_load_row rfl 50 (.tmp 6) rfl N6 rfl 50 (#[.int .i64 c, .int .i64 (bd + (y2 + pad)), .int .i64 y1, .int .i64 1]) (0, 0) _ HR10.out Tryz.underlying50 rfl (by kernel_rfl) ?_) | (refine wpList_store_row rfl 50 (.tmp 4) (.tmp 69) rfl (w.heap.size + 1) (#[.int .i64 c, .int .i64 (bd + (y2 + pad)), .int .i64 y1, .int .i64 1]) rfl rfl 50 (#[.int .i64 0, .int .i64 0, .int .i64 0, .int .i64 0]) H410.out (by kernel_rfl) rfl (by simp [Value.oneCell']) ?_) | fail)
      exact bodyPost_ret (v := .agg #[.int .i64 c, .int .i64 (bd + (y2 + pad)), .int .i64 y1, .int .i64 1]) (res_rest (setRow_heap _ _ _ _ _ _ H410.out) rfl rfl) rfl ⟨_, by rw [HWE.out], HRT.out, below_setRow HB10.out (Nat.le_succ _) _⟩
    · intro ℓ a' w' i o hI ho hi hL hdep K hK
      obtain ⟨x34, x35, x36, x37, x38, x39, x40, x7, rfl, hr⟩ := hI
      have hi7 : i < 9 := hi
      have hcs : i = 0 ∨ i = 1 ∨ i = 2 ∨ i = 3 ∨ i = 4 ∨ i = 5 ∨ i = 6 ∨ i = 7 ∨ i = 8 := by omega
      clear hi hi7
      rcases hcs with rfl | rfl | rfl | rfl | rfl | rfl | rfl | rfl | rfl
      · revert hK
        obtain rfl := Option.some.inj ho
        clear hdep ho
        have hgb := hr.gb
        intro hK
        rw [if_pos (by rfl)]
        try simp only [Act.put, List.setIfInBounds_toArray, List.set_cons_zero, List.set_cons_succ]
        go_simp
        exact hK.out _ _ (fun j => if j = 0 then true else ℓ j) ⟨(.pointer (some ⟨w.heap.size, 18, none⟩)), x35, x36, x37, x38, x39, x40, x7, (by first | (simp only [Act.put, List.setIfInBounds_toArray, List.set_cons_zero, List.set_cons_succ]; done) | (simp only [Act.put, List.setIfInBounds_toArray, List.set_cons_zero, List.set_cons_succ]; rfl)), ⟨(fun g => ⟨rfl, (hr.cs g).2.1, (hr.cs g).2.2.1, (hr.cs g).2.2.2.1, (hr.cs g).2.2.2.2.1, (hr.cs g).2.2.2.2.2.1, (hr.cs g).2.2.2.2.2.2.1, (hr.cs g).2.2.2.2.2.2.2.1, trivial⟩), hr.gb, (fun _ => rfl), hr.f1, hr.f2, hr.f3, hr.f4, hr.f5, hr.f6, hr.f7⟩⟩ (if_pos rfl) (fun j hj => if_neg hj)
      · revert hK
        obtain rfl := Option.some.inj ho
        have g0 : ℓ 0 = true := hdep { on := 0, ground := Ground.data } (by simp) rfl
        clear hdep ho
        have hl : ℓ 8 = false := by
          cases h7 : ℓ 8
          · rfl
          · have := (hr.cs h7).2.1; rw [this] at hL; cases hL
        have hgb := hr.gb
        obtain rfl := hr.f0 g0
        intro hK
        rw [if_pos (by rfl)]
        try simp only [Act.put, List.setIfInBounds_toArray, List.set_cons_zero, List.set_cons_succ]
        have cc := (HSC.out _ hgb)
        go_simp
        exact hK.out _ _ (fun j => if j = 1 then true else ℓ j) ⟨(.pointer (some ⟨w.heap.size, 18, none⟩)), (.slice (some ⟨b1, o1, none⟩) n nc), x36, x37, x38, x39, x40, x7, (by first | (simp only [Act.put, List.setIfInBounds_toArray, List.set_cons_zero, List.set_cons_succ]; done) | (simp only [Act.put, List.setIfInBounds_toArray, List.set_cons_zero, List.set_cons_succ]; rfl)), ⟨(fun g => ⟨(hr.cs g).1, rfl, (hr.cs g).2.2.1, (hr.cs g).2.2.2.1, (hr.cs g).2.2.2.2.1, (hr.cs g).2.2.2.2.2.1, (hr.cs g).2.2.2.2.2.2.1, (hr.cs g).2.2.2.2.2.2.2.1, trivial⟩), hr.gb, hr.f0, (fun _ => rfl), hr.f2, hr.f3, hr.f4, hr.f5, hr.f6, hr.f7⟩⟩ (if_pos rfl) (fun j hj => if_neg hj)
      · replace ho : some ({ dst := some 36, op := .load 33 (.tmp 2), type := 33, pos := "l24_audit.go:28", after := #[], guard := none } : Oper) = some o := ho
        revert hK
        obtain rfl := Option.some.inj ho
        clear hdep ho
        have hl : ℓ 8 = false := by
          cases h7 : ℓ 8
          · rfl
          · have := (hr.cs h7).2.2.1; rw [this] at hL; cases hL
        have hgb := hr.gb
        intro hK
        rw [if_pos (by rfl)]
        try simp only [Act.put, List.setIfInBounds_toArray, List.set_cons_zero, List.set_cons_succ]
        refine wp_load_row (P := Tryz.prog) 33 (.tmp 2) rfl w.heap.size rfl 33 (tbA t a) (0, 0) _ ((HXB.out _ hgb)) Tryz.underlying33 rfl (by kernel_rfl) ?_
        exact hK.out _ _ (fun j => if j = 2 then true else ℓ j) ⟨x34, x35, (tbV t a), x37, x38, x39, x40, x7, (by first | (simp only [Act.put, List.setIfInBounds_toArray, List.set_cons_zero, List.set_cons_succ]; done) | (simp only [Act.put, List.setIfInBounds_toArray, List.set_cons_zero, List.set_cons_succ]; rfl)), ⟨(fun g => ⟨(hr.cs g).1, (hr.cs g).2.1, rfl, (hr.cs g).2.2.2.1, (hr.cs g).2.2.2.2.1, (hr.cs g).2.2.2.2.2.1, (hr.cs g).2.2.2.2.2.2.1, (hr.cs g).2.2.2.2.2.2.2.1, trivial⟩), hr.gb, hr.f0, hr.f1, (fun _ => rfl), hr.f3, hr.f4, hr.f5, hr.f6, hr.f7⟩⟩ (if_pos rfl) (fun j hj => if_neg hj)
      · revert hK
        obtain rfl := Option.some.inj ho
        clear hdep ho
        have hgb := hr.gb
        intro hK
        rw [if_pos (by rfl)]
        try simp only [Act.put, List.setIfInBounds_toArray, List.set_cons_zero, List.set_cons_succ]
        go_simp
        exact hK.out _ _ (fun j => if j = 3 then true else ℓ j) ⟨x34, x35, x36, (.int .i64 c), x38, x39, x40, x7, (by first | (simp only [Act.put, List.setIfInBounds_toArray, List.set_cons_zero, List.set_cons_succ]; done) | (simp only [Act.put, List.setIfInBounds_toArray, List.set_cons_zero, List.set_cons_succ]; rfl)), ⟨(fun g => ⟨(hr.cs g).1, (hr.cs g).2.1, (hr.cs g).2.2.1, rfl, (hr.cs g).2.2.2.2.1, (hr.cs g).2.2.2.2.2.1, (hr.cs g).2.2.2.2.2.2.1, (hr.cs g).2.2.2.2.2.2.2.1, trivial⟩), hr.gb, hr.f0, hr.f1, hr.f2, (fun _ => rfl), hr.f4, hr.f5, hr.f6, hr.f7⟩⟩ (if_pos rfl) (fun j hj => if_neg hj)
      · revert hK
        obtain rfl := Option.some.inj ho
        have g2 : ℓ 2 = true := hdep { on := 2, ground := Ground.data } (by simp) rfl
        have g3 : ℓ 3 = true := hdep { on := 3, ground := Ground.data } (by simp) rfl
        clear hdep ho
        have hl : ℓ 8 = false := by
          cases h7 : ℓ 8
          · rfl
          · have := (hr.cs h7).2.2.2.2.1; rw [this] at hL; cases hL
        have hgb := hr.gb
        obtain rfl := hr.f2 g2
        obtain rfl := hr.f3 g3
        intro hK
        rw [if_pos (by rfl)]
        try simp only [Act.put, List.setIfInBounds_toArray, List.set_cons_zero, List.set_cons_succ]
        go_simp
        refine Calls.mono (HSA.out _ hgb) ?_
        rintro e w9 ⟨rfl, hb9⟩
        have hr9 := hr.below hb9
        exact hK.out _ _ (fun j => if j = 4 then true else ℓ j) ⟨x34, x35, (tbV t a), (.int .i64 c), (.int .i64 (i : Int)), x39, x40, x7, (by first | (simp only [Act.put, List.setIfInBounds_toArray, List.set_cons_zero, List.set_cons_succ]; done) | (simp only [Act.put, List.setIfInBounds_toArray, List.set_cons_zero, List.set_cons_succ]; rfl)), ⟨(fun g => ⟨(hr9.cs g).1, (hr9.cs g).2.1, (hr9.cs g).2.2.1, (hr9.cs g).2.2.2.1, rfl, (hr9.cs g).2.2.2.2.2.1, (hr9.cs g).2.2.2.2.2.2.1, (hr9.cs g).2.2.2.2.2.2.2.1, trivial⟩), hr9.gb, hr9.f0, hr9.f1, hr9.f2, hr9.f3, (fun _ => rfl), hr9.f5, hr9.f6, hr9.f7⟩⟩ (if_pos rfl) (fun j hj => if_neg hj)
      · revert hK
        obtain rfl := Option.some.inj ho
        have g1 : ℓ 1 = true := hdep { on := 1, ground := Ground.data } (by simp) rfl
        have g4 : ℓ 4 = true := hdep { on := 4, ground := Ground.data } (by simp) rfl
        clear hdep ho
        have hgb := hr.gb
        obtain rfl := hr.f1 g1
        obtain rfl := hr.f4 g4
        intro hK
        rw [if_pos (by rfl)]
        try simp only [Act.put, List.setIfInBounds_toArray, List.set_cons_zero, List.set_cons_succ]
        have hin := HIN.out
        go_simp
        exact hK.out _ _ (fun j => if j = 5 then true else ℓ j) ⟨x34, (.slice (some ⟨b1, o1, none⟩) n nc), x36, x37, (.int .i64 (i : Int)), (.pointer (some ⟨b1, o1 + i * 3, none⟩)), x40, x7, (by first | (simp only [Act.put, List.setIfInBounds_toArray, List.set_cons_zero, List.set_cons_succ]; done) | (simp only [Act.put, List.setIfInBounds_toArray, List.set_cons_zero, List.set_cons_succ]; rfl)), ⟨(fun g => ⟨(hr.cs g).1, (hr.cs g).2.1, (hr.cs g).2.2.1, (hr.cs g).2.2.2.1, (hr.cs g).2.2.2.2.1, rfl, (hr.cs g).2.2.2.2.2.2.1, (hr.cs g).2.2.2.2.2.2.2.1, trivial⟩), hr.gb, hr.f0, hr.f1, hr.f2, hr.f3, hr.f4, (fun _ => rfl), hr.f6, hr.f7⟩⟩ (if_pos rfl) (fun j hj => if_neg hj)
      · revert hK
        obtain rfl := Option.some.inj ho
        have g5 : ℓ 5 = true := hdep { on := 5, ground := Ground.data } (by simp) rfl
        clear hdep ho
        have hgb := hr.gb
        obtain rfl := hr.f5 g5
        intro hK
        rw [if_pos (by rfl)]
        try simp only [Act.put, List.setIfInBounds_toArray, List.set_cons_zero, List.set_cons_succ]
        have hgb := hr.gb
        obtain ⟨cc0, cc1, cc2⟩ := HCE.out _ hgb
        go_simp
        exact hK.out _ _ (fun j => if j = 6 then true else ℓ j) ⟨x34, x35, x36, x37, x38, (.pointer (some ⟨b1, o1 + i * 3, none⟩)), (.agg #[.int .i64 y1, .int .i64 y2, .int .i64 y3]), x7, (by first | (simp only [Act.put, List.setIfInBounds_toArray, List.set_cons_zero, List.set_cons_succ]; done) | (simp only [Act.put, List.setIfInBounds_toArray, List.set_cons_zero, List.set_cons_succ]; rfl)), ⟨(fun g => ⟨(hr.cs g).1, (hr.cs g).2.1, (hr.cs g).2.2.1, (hr.cs g).2.2.2.1, (hr.cs g).2.2.2.2.1, (hr.cs g).2.2.2.2.2.1, rfl, (hr.cs g).2.2.2.2.2.2.2.1, trivial⟩), hr.gb, hr.f0, hr.f1, hr.f2, hr.f3, hr.f4, hr.f5, (fun _ => rfl), hr.f7⟩⟩ (if_pos rfl) (fun j hj => if_neg hj)
      · revert hK
        obtain rfl := Option.some.inj ho
        clear hdep ho
        have hl : ℓ 8 = false := by
          cases h7 : ℓ 8
          · rfl
          · have := (hr.cs h7).2.2.2.2.2.2.2.1; rw [this] at hL; cases hL
        have hgb := hr.gb
        intro hK
        rw [if_pos (by rfl)]
        try simp only [Act.put, List.setIfInBounds_toArray, List.set_cons_zero, List.set_cons_succ]
        have hr9 := hr.below (w9 := w'.alloc (.cells (#[.int .i64 0, .int .i64 0, .int .i64 0]) 42)) ((Below.refl _ _).alloc (Nat.le_refl _) _)
        go_simp
        exact hK.out _ _ (fun j => if j = 7 then true else ℓ j) ⟨x34, x35, x36, x37, x38, x39, x40, (.pointer (some ⟨w'.heap.size, 0, none⟩)), (by first | (simp only [Act.put, List.setIfInBounds_toArray, List.set_cons_zero, List.set_cons_succ]; done) | (simp only [Act.put, List.setIfInBounds_toArray, List.set_cons_zero, List.set_cons_succ]; rfl)), ⟨(fun g => ⟨(hr9.cs g).1, (hr9.cs g).2.1, (hr9.cs g).2.2.1, (hr9.cs g).2.2.2.1, (hr9.cs g).2.2.2.2.1, (hr9.cs g).2.2.2.2.2.1, (hr9.cs g).2.2.2.2.2.2.1, rfl, trivial⟩), hr9.gb, hr9.f0, hr9.f1, hr9.f2, hr9.f3, hr9.f4, hr9.f5, hr9.f6, (fun _ => ⟨w'.heap.size, rfl, hgb.size, (fun _ => new_row w' _ _ _ rfl), (fun g => by have g' : ℓ 8 = true := g; rw [hl] at g'; cases g')⟩)⟩⟩ (if_pos rfl) (fun j hj => if_neg hj)
      · replace ho : some ({ dst := none, op := .store 42 (.tmp 7) (.tmp 40), type := 0, pos := "l24_audit.go:28", after := #[{ on := 7, ground := Ground.data }, { on := 6, ground := Ground.data }, { on := 4, ground := Ground.chain }, { on := 0, ground := Ground.phase }, { on := 1, ground := Ground.phase }, { on := 2, ground := Ground.phase }, { on := 3, ground := Ground.phase }, { on := 4, ground := Ground.phase }, { on := 5, ground := Ground.phase }, { on := 6, ground := Ground.phase }, { on := 7, ground := Ground.phase }], guard := none } : Oper) = some o := ho
        revert hK
        obtain rfl := Option.some.inj ho
        have g7 : ℓ 7 = true := hdep { on := 7, ground := Ground.data } (by simp) rfl
        have g6 : ℓ 6 = true := hdep { on := 6, ground := Ground.data } (by simp) rfl
        have g0 : ℓ 0 = true := hdep { on := 0, ground := Ground.phase } (by simp) rfl
        have g1 : ℓ 1 = true := hdep { on := 1, ground := Ground.phase } (by simp) rfl
        have g2 : ℓ 2 = true := hdep { on := 2, ground := Ground.phase } (by simp) rfl
        have g3 : ℓ 3 = true := hdep { on := 3, ground := Ground.phase } (by simp) rfl
        have g4 : ℓ 4 = true := hdep { on := 4, ground := Ground.phase } (by simp) rfl
        have g5 : ℓ 5 = true := hdep { on := 5, ground := Ground.phase } (by simp) rfl
        clear hdep ho
        have hgb := hr.gb
        obtain ⟨N, rfl, hN, hrow, _⟩ := hr.f7 g7
        obtain rfl := hr.f6 g6
        intro hK
        rw [if_pos (by rfl)]
        try simp only [Act.put, List.setIfInBounds_toArray, List.set_cons_zero, List.set_cons_succ]
        refine wp_store_row (P := Tryz.prog) 42 (.tmp 7) (.tmp 40) rfl N (#[.int .i64 y1, .int .i64 y2, .int .i64 y3]) rfl rfl 42 (#[.int .i64 0, .int .i64 0, .int .i64 0]) (hrow hL) (by kernel_rfl) rfl (by simp [Value.oneCell']) ?_
        exact hK.out _ _ (fun j => if j = 8 then true else ℓ j) ⟨x34, x35, x36, x37, x38, x39, (.agg #[.int .i64 y1, .int .i64 y2, .int .i64 y3]), (.pointer (some ⟨N, 0, none⟩)), (by first | (simp only [Act.put, List.setIfInBounds_toArray, List.set_cons_zero, List.set_cons_succ]; done) | (simp only [Act.put, List.setIfInBounds_toArray, List.set_cons_zero, List.set_cons_succ]; rfl)), ⟨(fun _ => ⟨g0, g1, g2, g3, g4, g5, g6, g7, trivial⟩), below_setRow hr.gb hN _, hr.f0, hr.f1, hr.f2, hr.f3, hr.f4, hr.f5, hr.f6, (fun _ => ⟨N, rfl, hN, (fun g => by cases g), fun _ => setRow_heap _ _ _ _ _ _ (hrow hL)⟩)⟩⟩ (if_pos rfl) (fun j hj => if_neg hj)
    · rintro a' w' ℓ ℓ' hℓ hI
      rw [← show ℓ = ℓ' from funext hℓ]
      exact hI
  · go_wp2
    revert HB HX H4 HRZ HN6 HNW
    generalize (w2.alloc (.cells #[.int .i64 c, .int .i64 0, .int .i64 (-1), .int .i64 2] 50)) = WB
    generalize w2.heap.size = N6
    intro HB HX H4 HRZ HN6 HNW
    clear c3
    have HXB : Hid (∀ X, Below WB.heap.size WB X → TBx X w.heap.size t a) := fun X hX => HX.out.below hX
    obtain ⟨i, hi, hsi, _⟩ := HPS.out (by decide)
    have HRT0 : Hid _ := HRS.out i hi hsi
    have HWE : Hid (wo = (t.ss.getD i sl0).1) := by show _ = _; rw [← HWO.out]; unfold whoV; rw [hsi, if_neg (by omega)]; rfl
    obtain ⟨b1, o1, hsa, hbl1, p1⟩ := (HSL.out _ HB.out).at i (by omega)
    have HSC : Hid (∀ X, Below WB.heap.size WB X → X.cell? ⟨w.heap.size, 18, none⟩ = some (.slice (some ⟨b1, o1, none⟩) a.sn a.sc)) := fun X hX => by rw [← hsa]; exact (HXB.out X hX).cell 18 rfl
    have HCE : Hid (∀ X, Below WB.heap.size WB X → X.cell? ⟨b1, o1 + i * 3, none⟩ = some (.int .i64 (t.ss.getD i sl0).1) ∧ X.cell? ⟨b1, o1 + i * 3 + 1, none⟩ = some (.int .i64 (t.ss.getD i sl0).2.1) ∧ X.cell? ⟨b1, o1 + i * 3 + 2, none⟩ = some (.int .i64 (t.ss.getD i sl0).2.2)) := fun X hX => by
      have := p1.of (w' := X) (fun j => hX.cell (p := ⟨b1, j, none⟩) hbl1)
      simp only [slX] at this
      exact sl_cells this
    have HSA : Hid (∀ X, Below WB.heap.size WB X → Calls Tryz.prog 107 #[tbV t a, .int .i64 c] X fun e w' => e = .returned (.int .i64 (i : Int)) ∧ Below X.heap.size X w') := fun X hX => by
      rw [← hsi]
      exact HSX.out X (HB.out.trans (hX.mono HN6.out.1))
    have hx := HTM.out.st i hi
    have hx2 := HTM.out.en i hi
    have hx3 := HTM.out.ln i hi
    have hp1 := HTM.out.pad1
    have hp2 := HTM.out.pad2
    have hg1 := HTM.out.grd1
    have hg2 := HTM.out.grd2
    have HRP : Hid (∀ (x1 x2 x3 : Int), (0 ≤ x2 ∧ 0 ≤ x3 ∧ x2 + x3 ≤ 5000) → ∀ X, Calls Tryz.prog 78 #[tbV t a, .agg #[.int .i64 x1, .int .i64 x2, .int .i64 x3]] X fun e w' => e = .returned (.tuple #[.int .i64 (x2 + t.pad), .int .i64 (x2 + x3 - t.grd)]) ∧ Below X.heap.size X w') := fun x1 x2 x3 h X => run_of t a x1 x2 x3 X ⟨hp1, hp2⟩ ⟨hg1, hg2⟩ h
    have HIN : Hid ((i : Int) < (a.sn : Int) ∧ i < a.sn) := ⟨by omega, by omega⟩
    replace hn : a.sn ≤ 1048576 := hn
    clear HNX HSX HSL HRF HRS HPS HPN hsi p1 hbl1 HX HWO hsa hi hL
    generalize t.ss.getD i sl0 = y at *
    obtain ⟨y1, y2, y3⟩ := y
    simp only [rsV] at HRT0 HWE HCE hx hx2 hx3 ⊢
    have HRO := (HRP.out y1 y2 y3 ⟨by omega, by omega, by omega⟩)
    replace HRO : Hid _ := HRO
    have HSE : Hid (∀ X, Calls Tryz.prog 65 #[.agg #[.int .i64 y1, .int .i64 y2, .int .i64 y3]] X fun e w' => e = .returned (.int .i64 (y2 + y3)) ∧ Below X.heap.size X w') := fun X => slot_end y1 y2 y3 X (by rw [IntKind.wrap_i64]; omega)
    have HWR : Hid (IntKind.i64.wrap (bd + (y2 + t.pad)) = bd + (y2 + t.pad) ∧ IntKind.i64.wrap (bd + (y2 + y3 - t.grd)) = bd + (y2 + y3 - t.grd) ∧ IntKind.i64.wrap (bd + (y2 + y3)) = bd + (y2 + y3)) := by
      refine ⟨?_, ?_, ?_⟩ <;> (rw [IntKind.wrap_i64]; omega)
    have HRT : Hid (RT t c (bd + (y2 + y3 - t.grd))) := by have := HRT0.out; show RT t c (bd + (y2 + y3 - t.grd)); simpa using this
    clear HRT0 HRP
    generalize t.pad = pad at *
    generalize t.grd = grd at *
    obtain ⟨n, hnn⟩ : ∃ n, a.sn = n := ⟨_, rfl⟩
    obtain ⟨nc, hnc⟩ : ∃ nc, a.sc = nc := ⟨_, rfl⟩
    rw [hnn] at HSC HIN hn
    rw [hnc] at HSC
    clear hnn hnc
    refine wp_region_inv (by kernel_rfl) (by kernel_rfl) (fun A ℓ a' w' => ∃ (x34 x35 x36 x37 x38 x39 x40 x7 : Value), a' = ((((((((A.put (some 34) x34).put (some 35) x35).put (some 36) x36).put (some 37) x37).put (some 38) x38).put (some 39) x39).put (some 40) x40).put (some 7) x7) ∧ R6 (WB) (#[.int .i64 0, .int .i64 0, .int .i64 0]) (#[.int .i64 y1, .int .i64 y2, .int .i64 y3]) (.pointer (some ⟨w.heap.size, 18, none⟩)) (.slice (some ⟨b1, o1, none⟩) n nc) (tbV t a) (.int .i64 c) (.int .i64 (i : Int)) (.pointer (some ⟨b1, o1 + i * 3, none⟩)) (.agg #[.int .i64 y1, .int .i64 y2, .int .i64 y3]) w' (ℓ 0) (ℓ 1) (ℓ 2) (ℓ 3) (ℓ 4) (ℓ 5) (ℓ 6) (ℓ 7) (ℓ 8) x34 x35 x36 x37 x38 x39 x40 x7) ?_ ?_ ?_ ?_
    · exact ⟨undef, undef, undef, undef, undef, undef, undef, undef, (by simp only [Act.put, List.setIfInBounds_toArray, List.set_cons_zero, List.set_cons_succ]), ⟨(fun g => by cases g), (Below.refl _ _).drew, (fun g => by cases g), (fun g => by cases g), (fun g => by cases g), (fun g => by cases g), (fun g => by cases g), (fun g => by cases g), (fun g => by cases g), (fun g => by cases g)⟩⟩
    · intro ℓ a' w' hI hall
      obtain ⟨x34, x35, x36, x37, x38, x39, x40, x7, rfl, hr⟩ := hI
      have hall' : ∀ i, i < 9 → ℓ i = true := hall
      obtain rfl := hr.f0 (hall' 0 (by decide))
      obtain rfl := hr.f1 (hall' 1 (by decide))
      obtain rfl := hr.f2 (hall' 2 (by decide))
      obtain rfl := hr.f3 (hall' 3 (by decide))
      obtain rfl := hr.f4 (hall' 4 (by decide))
      obtain rfl := hr.f5 (hall' 5 (by decide))
      obtain rfl := hr.f6 (hall' 6 (by decide))
      obtain ⟨N, rfl, hN, _, hrow⟩ := hr.f7 (hall' 7 (by decide))
      have hrow := hrow (hall' 8 (by decide))
      have hgb := hr.gb
      clear hall hall' hr
      simp only [Act.put, List.setIfInBounds_toArray, List.set_cons_zero, List.set_cons_succ]
      have HBA : Hid (Below WB.heap.size WB w') := hgb
      have HR7 : Hid (w'.heap[N]? = some (.cells #[.int .i64 y1, .int .i64 y2, .int .i64 y3] 42 (0, 0))) := hrow
      have HN7 : Hid (WB.heap.size ≤ N ∧ N < w'.heap.size) := ⟨hN, row_lt hrow⟩
      have HX7 : Hid (TBx w' w.heap.size t a) := HXB.out _ hgb
      clear hrow hgb hN
      go_wp2_with (first | (refine wpList_load_row rfl 33 (.tmp 2) rfl w.heap.size rfl 33 (tbA t a) (0, 0) _ HX7.out Tryz.underlying33 rfl (by kernel_rfl) ?_) | (refine wpList_load_row rfl 42 (.tmp 7) rfl N rfl 42 (#[.int .i64 y1, .int .i64 y2, .int .i64 y3]) (0, 0) _ HR7.out Tryz.underlying42 rfl (by kernel_rfl) ?_) | fail)
      refine Calls.mono (HRO.out _) ?_
      rintro e w3 ⟨rfl, hb3⟩
      have HBC : Hid (Below WB.heap.size WB w3) := HBA.out.trans (hb3.mono HBA.out.size)
      have HR8 : Hid (w3.heap[N]? = some (.cells #[.int .i64 y1, .int .i64 y2, .int .i64 y3] 42 (0, 0))) := row_below HR7.out hb3
      have HN8 : Hid (WB.heap.size ≤ N ∧ N < w3.heap.size) := ⟨HN7.out.1, row_lt HR8.out⟩
      clear hb3 HBA HR7 HN7 HX7
      have HR9 : Hid (w3.heap[N6]? = some (.cells #[.int .i64 c, .int .i64 0, .int .i64 (-1), .int .i64 2] 50 (0, 0))) := row_below HRZ.out HBC.out
      have H48 : Hid (w3.heap[w.heap.size + 1]? = some (.cells #[.int .i64 0, .int .i64 0, .int .i64 0, .int .i64 0] 50 (0, 0))) := row_below H4.out HBC.out
      have HB3 : Hid (Below w.heap.size w w3) := HB.out.trans (HBC.out.mono HN6.out.1)
      have HNE : Hid (N ≠ N6) := by have := HN8.out.1; have := row_lt HRZ.out; show _ ≠ _; omega
      have k0 := row_cell HR8.out 0 _ rfl
      have cc := row_cell HR9.out 2 _ rfl
      have cf := row_free HR9.out 2
      have c1 := row_cell HR9.out 1 _ rfl
      have cf1 := row_free HR9.out 1
      have c3 := row_cell HR9.out 3 _ rfl
      have HR10 : Hid (((w3.setCell ⟨N6, 2, none⟩ (.int .i64 y1)).setCell ⟨N6, 1, none⟩ (.int .i64 (bd + (y2 + y3 - grd)))).heap[N6]? = some (.cells #[.int .i64 c, .int .i64 (bd + (y2 + y3 - grd)), .int .i64 y1, .int .i64 2] 50 (0, 0))) := r3_set (r3_set HR9.out 2 _ rfl) 1 _ rfl
      have H410 : Hid (((w3.setCell ⟨N6, 2, none⟩ (.int .i64 y1)).setCell ⟨N6, 1, none⟩ (.int .i64 (bd + (y2 + y3 - grd)))).heap[w.heap.size + 1]? = some (.cells #[.int .i64 0, .int .i64 0, .int .i64 0, .int .i64 0] 50 (0, 0))) := row_other (row_other H48.out (by have := HN6.out.2; omega)) (by have := HN6.out.2; omega)
      have HB10 : Hid (Below w.heap.size w ((w3.setCell ⟨N6, 2, none⟩ (.int .i64 y1)).setCell ⟨N6, 1, none⟩ (.int .i64 (bd + (y2 + y3 - grd))))) := (HB3.out.setCell (p := ⟨N6, 2, none⟩) (by show w.heap.size ≤ N6; have := HN6.out.2; omega) _).setCell (p := ⟨N6, 1, none⟩) (by show w.heap.size ≤ N6; have := HN6.out.2; omega) _
      have hwr := HWR.out
      go_wp2_with (first | (refine wpList_load_row rfl 50 (.tmp 6) rfl N6 rfl 50 (#[.int .i64 c, .int .i64 (bd + (y2 + y3 - grd)), .int .i64 y1, .int .i64 2]) (0, 0) _ HR10.out Tryz.underlying50 rfl (by kernel_rfl) ?_) | (refine wpList_store_row rfl 50 (.tmp 4) (.tmp 69) rfl (w.heap.size + 1) (#[.int .i64 c, .int .i64 (bd + (y2 + y3 - grd)), .int .i64 y1, .int .i64 2]) rfl rfl 50 (#[.int .i64 0, .int .i64 0, .int .i64 0, .int .i64 0]) H410.out (by kernel_rfl) rfl (by simp [Value.oneCell']) ?_) | fail)
      exact bodyPost_ret (v := .agg #[.int .i64 c, .int .i64 (bd + (y2 + y3 - grd)), .int .i64 y1, .int .i64 2]) (res_rest (setRow_heap _ _ _ _ _ _ H410.out) rfl rfl) rfl ⟨_, by rw [HWE.out], HRT.out, below_setRow HB10.out (Nat.le_succ _) _⟩
    · intro ℓ a' w' i o hI ho hi hL hdep K hK
      obtain ⟨x34, x35, x36, x37, x38, x39, x40, x7, rfl, hr⟩ := hI
      have hi7 : i < 9 := hi
      have hcs : i = 0 ∨ i = 1 ∨ i = 2 ∨ i = 3 ∨ i = 4 ∨ i = 5 ∨ i = 6 ∨ i = 7 ∨ i = 8 := by omega
      clear hi hi7
      rcases hcs with rfl | rfl | rfl | rfl | rfl | rfl | rfl | rfl | rfl
      · revert hK
        obtain rfl := Option.some.inj ho
        clear hdep ho
        have hgb := hr.gb
        intro hK
        rw [if_pos (by rfl)]
        try simp only [Act.put, List.setIfInBounds_toArray, List.set_cons_zero, List.set_cons_succ]
        go_simp
        exact hK.out _ _ (fun j => if j = 0 then true else ℓ j) ⟨(.pointer (some ⟨w.heap.size, 18, none⟩)), x35, x36, x37, x38, x39, x40, x7, (by first | (simp only [Act.put, List.setIfInBounds_toArray, List.set_cons_zero, List.set_cons_succ]; done) | (simp only [Act.put, List.setIfInBounds_toArray, List.set_cons_zero, List.set_cons_succ]; rfl)), ⟨(fun g => ⟨rfl, (hr.cs g).2.1, (hr.cs g).2.2.1, (hr.cs g).2.2.2.1, (hr.cs g).2.2.2.2.1, (hr.cs g).2.2.2.2.2.1, (hr.cs g).2.2.2.2.2.2.1, (hr.cs g).2.2.2.2.2.2.2.1, trivial⟩), hr.gb, (fun _ => rfl), hr.f1, hr.f2, hr.f3, hr.f4, hr.f5, hr.f6, hr.f7⟩⟩ (if_pos rfl) (fun j hj => if_neg hj)
      · revert hK
        obtain rfl := Option.some.inj ho
        have g0 : ℓ 0 = true := hdep { on := 0, ground := Ground.data } (by simp) rfl
        clear hdep ho
        have hl : ℓ 8 = false := by
          cases h7 : ℓ 8
          · rfl
          · have := (hr.cs h7).2.1; rw [this] at hL; cases hL
        have hgb := hr.gb
        obtain rfl := hr.f0 g0
        intro hK
        rw [if_pos (by rfl)]
        try simp only [Act.put, List.setIfInBounds_toArray, List.set_cons_zero, List.set_cons_succ]
        have cc := (HSC.out _ hgb)
        go_simp
        exact hK.out _ _ (fun j => if j = 1 then true else ℓ j) ⟨(.pointer (some ⟨w.heap.size, 18, none⟩)), (.slice (some ⟨b1, o1, none⟩) n nc), x36, x37, x38, x39, x40, x7, (by first | (simp only [Act.put, List.setIfInBounds_toArray, List.set_cons_zero, List.set_cons_succ]; done) | (simp only [Act.put, List.setIfInBounds_toArray, List.set_cons_zero, List.set_cons_succ]; rfl)), ⟨(fun g => ⟨(hr.cs g).1, rfl, (hr.cs g).2.2.1, (hr.cs g).2.2.2.1, (hr.cs g).2.2.2.2.1, (hr.cs g).2.2.2.2.2.1, (hr.cs g).2.2.2.2.2.2.1, (hr.cs g).2.2.2.2.2.2.2.1, trivial⟩), hr.gb, hr.f0, (fun _ => rfl), hr.f2, hr.f3, hr.f4, hr.f5, hr.f6, hr.f7⟩⟩ (if_pos rfl) (fun j hj => if_neg hj)
      · replace ho : some ({ dst := some 36, op := .load 33 (.tmp 2), type := 33, pos := "l24_audit.go:28", after := #[], guard := none } : Oper) = some o := ho
        revert hK
        obtain rfl := Option.some.inj ho
        clear hdep ho
        have hl : ℓ 8 = false := by
          cases h7 : ℓ 8
          · rfl
          · have := (hr.cs h7).2.2.1; rw [this] at hL; cases hL
        have hgb := hr.gb
        intro hK
        rw [if_pos (by rfl)]
        try simp only [Act.put, List.setIfInBounds_toArray, List.set_cons_zero, List.set_cons_succ]
        refine wp_load_row (P := Tryz.prog) 33 (.tmp 2) rfl w.heap.size rfl 33 (tbA t a) (0, 0) _ ((HXB.out _ hgb)) Tryz.underlying33 rfl (by kernel_rfl) ?_
        exact hK.out _ _ (fun j => if j = 2 then true else ℓ j) ⟨x34, x35, (tbV t a), x37, x38, x39, x40, x7, (by first | (simp only [Act.put, List.setIfInBounds_toArray, List.set_cons_zero, List.set_cons_succ]; done) | (simp only [Act.put, List.setIfInBounds_toArray, List.set_cons_zero, List.set_cons_succ]; rfl)), ⟨(fun g => ⟨(hr.cs g).1, (hr.cs g).2.1, rfl, (hr.cs g).2.2.2.1, (hr.cs g).2.2.2.2.1, (hr.cs g).2.2.2.2.2.1, (hr.cs g).2.2.2.2.2.2.1, (hr.cs g).2.2.2.2.2.2.2.1, trivial⟩), hr.gb, hr.f0, hr.f1, (fun _ => rfl), hr.f3, hr.f4, hr.f5, hr.f6, hr.f7⟩⟩ (if_pos rfl) (fun j hj => if_neg hj)
      · revert hK
        obtain rfl := Option.some.inj ho
        clear hdep ho
        have hgb := hr.gb
        intro hK
        rw [if_pos (by rfl)]
        try simp only [Act.put, List.setIfInBounds_toArray, List.set_cons_zero, List.set_cons_succ]
        go_simp
        exact hK.out _ _ (fun j => if j = 3 then true else ℓ j) ⟨x34, x35, x36, (.int .i64 c), x38, x39, x40, x7, (by first | (simp only [Act.put, List.setIfInBounds_toArray, List.set_cons_zero, List.set_cons_succ]; done) | (simp only [Act.put, List.setIfInBounds_toArray, List.set_cons_zero, List.set_cons_succ]; rfl)), ⟨(fun g => ⟨(hr.cs g).1, (hr.cs g).2.1, (hr.cs g).2.2.1, rfl, (hr.cs g).2.2.2.2.1, (hr.cs g).2.2.2.2.2.1, (hr.cs g).2.2.2.2.2.2.1, (hr.cs g).2.2.2.2.2.2.2.1, trivial⟩), hr.gb, hr.f0, hr.f1, hr.f2, (fun _ => rfl), hr.f4, hr.f5, hr.f6, hr.f7⟩⟩ (if_pos rfl) (fun j hj => if_neg hj)
      · revert hK
        obtain rfl := Option.some.inj ho
        have g2 : ℓ 2 = true := hdep { on := 2, ground := Ground.data } (by simp) rfl
        have g3 : ℓ 3 = true := hdep { on := 3, ground := Ground.data } (by simp) rfl
        clear hdep ho
        have hl : ℓ 8 = false := by
          cases h7 : ℓ 8
          · rfl
          · have := (hr.cs h7).2.2.2.2.1; rw [this] at hL; cases hL
        have hgb := hr.gb
        obtain rfl := hr.f2 g2
        obtain rfl := hr.f3 g3
        intro hK
        rw [if_pos (by rfl)]
        try simp only [Act.put, List.setIfInBounds_toArray, List.set_cons_zero, List.set_cons_succ]
        go_simp
        refine Calls.mono (HSA.out _ hgb) ?_
        rintro e w9 ⟨rfl, hb9⟩
        have hr9 := hr.below hb9
        exact hK.out _ _ (fun j => if j = 4 then true else ℓ j) ⟨x34, x35, (tbV t a), (.int .i64 c), (.int .i64 (i : Int)), x39, x40, x7, (by first | (simp only [Act.put, List.setIfInBounds_toArray, List.set_cons_zero, List.set_cons_succ]; done) | (simp only [Act.put, List.setIfInBounds_toArray, List.set_cons_zero, List.set_cons_succ]; rfl)), ⟨(fun g => ⟨(hr9.cs g).1, (hr9.cs g).2.1, (hr9.cs g).2.2.1, (hr9.cs g).2.2.2.1, rfl, (hr9.cs g).2.2.2.2.2.1, (hr9.cs g).2.2.2.2.2.2.1, (hr9.cs g).2.2.2.2.2.2.2.1, trivial⟩), hr9.gb, hr9.f0, hr9.f1, hr9.f2, hr9.f3, (fun _ => rfl), hr9.f5, hr9.f6, hr9.f7⟩⟩ (if_pos rfl) (fun j hj => if_neg hj)
      · revert hK
        obtain rfl := Option.some.inj ho
        have g1 : ℓ 1 = true := hdep { on := 1, ground := Ground.data } (by simp) rfl
        have g4 : ℓ 4 = true := hdep { on := 4, ground := Ground.data } (by simp) rfl
        clear hdep ho
        have hgb := hr.gb
        obtain rfl := hr.f1 g1
        obtain rfl := hr.f4 g4
        intro hK
        rw [if_pos (by rfl)]
        try simp only [Act.put, List.setIfInBounds_toArray, List.set_cons_zero, List.set_cons_succ]
        have hin := HIN.out
        go_simp
        exact hK.out _ _ (fun j => if j = 5 then true else ℓ j) ⟨x34, (.slice (some ⟨b1, o1, none⟩) n nc), x36, x37, (.int .i64 (i : Int)), (.pointer (some ⟨b1, o1 + i * 3, none⟩)), x40, x7, (by first | (simp only [Act.put, List.setIfInBounds_toArray, List.set_cons_zero, List.set_cons_succ]; done) | (simp only [Act.put, List.setIfInBounds_toArray, List.set_cons_zero, List.set_cons_succ]; rfl)), ⟨(fun g => ⟨(hr.cs g).1, (hr.cs g).2.1, (hr.cs g).2.2.1, (hr.cs g).2.2.2.1, (hr.cs g).2.2.2.2.1, rfl, (hr.cs g).2.2.2.2.2.2.1, (hr.cs g).2.2.2.2.2.2.2.1, trivial⟩), hr.gb, hr.f0, hr.f1, hr.f2, hr.f3, hr.f4, (fun _ => rfl), hr.f6, hr.f7⟩⟩ (if_pos rfl) (fun j hj => if_neg hj)
      · revert hK
        obtain rfl := Option.some.inj ho
        have g5 : ℓ 5 = true := hdep { on := 5, ground := Ground.data } (by simp) rfl
        clear hdep ho
        have hgb := hr.gb
        obtain rfl := hr.f5 g5
        intro hK
        rw [if_pos (by rfl)]
        try simp only [Act.put, List.setIfInBounds_toArray, List.set_cons_zero, List.set_cons_succ]
        have hgb := hr.gb
        obtain ⟨cc0, cc1, cc2⟩ := HCE.out _ hgb
        go_simp
        exact hK.out _ _ (fun j => if j = 6 then true else ℓ j) ⟨x34, x35, x36, x37, x38, (.pointer (some ⟨b1, o1 + i * 3, none⟩)), (.agg #[.int .i64 y1, .int .i64 y2, .int .i64 y3]), x7, (by first | (simp only [Act.put, List.setIfInBounds_toArray, List.set_cons_zero, List.set_cons_succ]; done) | (simp only [Act.put, List.setIfInBounds_toArray, List.set_cons_zero, List.set_cons_succ]; rfl)), ⟨(fun g => ⟨(hr.cs g).1, (hr.cs g).2.1, (hr.cs g).2.2.1, (hr.cs g).2.2.2.1, (hr.cs g).2.2.2.2.1, (hr.cs g).2.2.2.2.2.1, rfl, (hr.cs g).2.2.2.2.2.2.2.1, trivial⟩), hr.gb, hr.f0, hr.f1, hr.f2, hr.f3, hr.f4, hr.f5, (fun _ => rfl), hr.f7⟩⟩ (if_pos rfl) (fun j hj => if_neg hj)
      · revert hK
        obtain rfl := Option.some.inj ho
        clear hdep ho
        have hl : ℓ 8 = false := by
          cases h7 : ℓ 8
          · rfl
          · have := (hr.cs h7).2.2.2.2.2.2.2.1; rw [this] at hL; cases hL
        have hgb := hr.gb
        intro hK
        rw [if_pos (by rfl)]
        try simp only [Act.put, List.setIfInBounds_toArray, List.set_cons_zero, List.set_cons_succ]
        have hr9 := hr.below (w9 := w'.alloc (.cells (#[.int .i64 0, .int .i64 0, .int .i64 0]) 42)) ((Below.refl _ _).alloc (Nat.le_refl _) _)
        go_simp
        exact hK.out _ _ (fun j => if j = 7 then true else ℓ j) ⟨x34, x35, x36, x37, x38, x39, x40, (.pointer (some ⟨w'.heap.size, 0, none⟩)), (by first | (simp only [Act.put, List.setIfInBounds_toArray, List.set_cons_zero, List.set_cons_succ]; done) | (simp only [Act.put, List.setIfInBounds_toArray, List.set_cons_zero, List.set_cons_succ]; rfl)), ⟨(fun g => ⟨(hr9.cs g).1, (hr9.cs g).2.1, (hr9.cs g).2.2.1, (hr9.cs g).2.2.2.1, (hr9.cs g).2.2.2.2.1, (hr9.cs g).2.2.2.2.2.1, (hr9.cs g).2.2.2.2.2.2.1, rfl, trivial⟩), hr9.gb, hr9.f0, hr9.f1, hr9.f2, hr9.f3, hr9.f4, hr9.f5, hr9.f6, (fun _ => ⟨w'.heap.size, rfl, hgb.size, (fun _ => new_row w' _ _ _ rfl), (fun g => by have g' : ℓ 8 = true := g; rw [hl] at g'; cases g')⟩)⟩⟩ (if_pos rfl) (fun j hj => if_neg hj)
      · replace ho : some ({ dst := none, op := .store 42 (.tmp 7) (.tmp 40), type := 0, pos := "l24_audit.go:28", after := #[{ on := 7, ground := Ground.data }, { on := 6, ground := Ground.data }, { on := 4, ground := Ground.chain }, { on := 0, ground := Ground.phase }, { on := 1, ground := Ground.phase }, { on := 2, ground := Ground.phase }, { on := 3, ground := Ground.phase }, { on := 4, ground := Ground.phase }, { on := 5, ground := Ground.phase }, { on := 6, ground := Ground.phase }, { on := 7, ground := Ground.phase }], guard := none } : Oper) = some o := ho
        revert hK
        obtain rfl := Option.some.inj ho
        have g7 : ℓ 7 = true := hdep { on := 7, ground := Ground.data } (by simp) rfl
        have g6 : ℓ 6 = true := hdep { on := 6, ground := Ground.data } (by simp) rfl
        have g0 : ℓ 0 = true := hdep { on := 0, ground := Ground.phase } (by simp) rfl
        have g1 : ℓ 1 = true := hdep { on := 1, ground := Ground.phase } (by simp) rfl
        have g2 : ℓ 2 = true := hdep { on := 2, ground := Ground.phase } (by simp) rfl
        have g3 : ℓ 3 = true := hdep { on := 3, ground := Ground.phase } (by simp) rfl
        have g4 : ℓ 4 = true := hdep { on := 4, ground := Ground.phase } (by simp) rfl
        have g5 : ℓ 5 = true := hdep { on := 5, ground := Ground.phase } (by simp) rfl
        clear hdep ho
        have hgb := hr.gb
        obtain ⟨N, rfl, hN, hrow, _⟩ := hr.f7 g7
        obtain rfl := hr.f6 g6
        intro hK
        rw [if_pos (by rfl)]
        try simp only [Act.put, List.setIfInBounds_toArray, List.set_cons_zero, List.set_cons_succ]
        refine wp_store_row (P := Tryz.prog) 42 (.tmp 7) (.tmp 40) rfl N (#[.int .i64 y1, .int .i64 y2, .int .i64 y3]) rfl rfl 42 (#[.int .i64 0, .int .i64 0, .int .i64 0]) (hrow hL) (by kernel_rfl) rfl (by simp [Value.oneCell']) ?_
        exact hK.out _ _ (fun j => if j = 8 then true else ℓ j) ⟨x34, x35, x36, x37, x38, x39, (.agg #[.int .i64 y1, .int .i64 y2, .int .i64 y3]), (.pointer (some ⟨N, 0, none⟩)), (by first | (simp only [Act.put, List.setIfInBounds_toArray, List.set_cons_zero, List.set_cons_succ]; done) | (simp only [Act.put, List.setIfInBounds_toArray, List.set_cons_zero, List.set_cons_succ]; rfl)), ⟨(fun _ => ⟨g0, g1, g2, g3, g4, g5, g6, g7, trivial⟩), below_setRow hr.gb hN _, hr.f0, hr.f1, hr.f2, hr.f3, hr.f4, hr.f5, hr.f6, (fun _ => ⟨N, rfl, hN, (fun g => by cases g), fun _ => setRow_heap _ _ _ _ _ _ (hrow hL)⟩)⟩⟩ (if_pos rfl) (fun j hj => if_neg hj)
    · rintro a' w' ℓ ℓ' hℓ hI
      rw [← show ℓ = ℓ' from funext hℓ]
      exact hI
  · go_wp2
    revert HB HX H4 HRZ HN6 HNW
    generalize (w2.alloc (.cells #[.int .i64 c, .int .i64 0, .int .i64 (-1), .int .i64 3] 50)) = WB
    generalize w2.heap.size = N6
    intro HB HX H4 HRZ HN6 HNW
    clear c3
    have HXB : Hid (∀ X, Below WB.heap.size WB X → TBx X w.heap.size t a) := fun X hX => HX.out.below hX
    obtain ⟨i, hi, hsi, _⟩ := HPS.out (by decide)
    have HRT0 : Hid _ := HRS.out i hi hsi
    have HWE : Hid (wo = (t.ss.getD i sl0).1) := by show _ = _; rw [← HWO.out]; unfold whoV; rw [hsi, if_neg (by omega)]; rfl
    obtain ⟨b1, o1, hsa, hbl1, p1⟩ := (HSL.out _ HB.out).at i (by omega)
    have HSC : Hid (∀ X, Below WB.heap.size WB X → X.cell? ⟨w.heap.size, 18, none⟩ = some (.slice (some ⟨b1, o1, none⟩) a.sn a.sc)) := fun X hX => by rw [← hsa]; exact (HXB.out X hX).cell 18 rfl
    have HCE : Hid (∀ X, Below WB.heap.size WB X → X.cell? ⟨b1, o1 + i * 3, none⟩ = some (.int .i64 (t.ss.getD i sl0).1) ∧ X.cell? ⟨b1, o1 + i * 3 + 1, none⟩ = some (.int .i64 (t.ss.getD i sl0).2.1) ∧ X.cell? ⟨b1, o1 + i * 3 + 2, none⟩ = some (.int .i64 (t.ss.getD i sl0).2.2)) := fun X hX => by
      have := p1.of (w' := X) (fun j => hX.cell (p := ⟨b1, j, none⟩) hbl1)
      simp only [slX] at this
      exact sl_cells this
    have HSA : Hid (∀ X, Below WB.heap.size WB X → Calls Tryz.prog 107 #[tbV t a, .int .i64 c] X fun e w' => e = .returned (.int .i64 (i : Int)) ∧ Below X.heap.size X w') := fun X hX => by
      rw [← hsi]
      exact HSX.out X (HB.out.trans (hX.mono HN6.out.1))
    have hx := HTM.out.st i hi
    have hx2 := HTM.out.en i hi
    have hx3 := HTM.out.ln i hi
    have hp1 := HTM.out.pad1
    have hp2 := HTM.out.pad2
    have hg1 := HTM.out.grd1
    have hg2 := HTM.out.grd2
    have HRP : Hid (∀ (x1 x2 x3 : Int), (0 ≤ x2 ∧ 0 ≤ x3 ∧ x2 + x3 ≤ 5000) → ∀ X, Calls Tryz.prog 78 #[tbV t a, .agg #[.int .i64 x1, .int .i64 x2, .int .i64 x3]] X fun e w' => e = .returned (.tuple #[.int .i64 (x2 + t.pad), .int .i64 (x2 + x3 - t.grd)]) ∧ Below X.heap.size X w') := fun x1 x2 x3 h X => run_of t a x1 x2 x3 X ⟨hp1, hp2⟩ ⟨hg1, hg2⟩ h
    have HIN : Hid ((i : Int) < (a.sn : Int) ∧ i < a.sn) := ⟨by omega, by omega⟩
    replace hn : a.sn ≤ 1048576 := hn
    clear HNX HSX HSL HRF HRS HPS HPN hsi p1 hbl1 HX HWO hsa hi hL
    generalize t.ss.getD i sl0 = y at *
    obtain ⟨y1, y2, y3⟩ := y
    simp only [rsV] at HRT0 HWE HCE hx hx2 hx3 ⊢
    have HRO := (HRP.out y1 y2 y3 ⟨by omega, by omega, by omega⟩)
    replace HRO : Hid _ := HRO
    have HSE : Hid (∀ X, Calls Tryz.prog 65 #[.agg #[.int .i64 y1, .int .i64 y2, .int .i64 y3]] X fun e w' => e = .returned (.int .i64 (y2 + y3)) ∧ Below X.heap.size X w') := fun X => slot_end y1 y2 y3 X (by rw [IntKind.wrap_i64]; omega)
    have HWR : Hid (IntKind.i64.wrap (bd + (y2 + t.pad)) = bd + (y2 + t.pad) ∧ IntKind.i64.wrap (bd + (y2 + y3 - t.grd)) = bd + (y2 + y3 - t.grd) ∧ IntKind.i64.wrap (bd + (y2 + y3)) = bd + (y2 + y3)) := by
      refine ⟨?_, ?_, ?_⟩ <;> (rw [IntKind.wrap_i64]; omega)
    have HRT : Hid (RT t c (bd + (y2 + y3))) := by have := HRT0.out; show RT t c (bd + (y2 + y3)); simpa using this
    clear HRT0 HRP
    generalize t.pad = pad at *
    generalize t.grd = grd at *
    obtain ⟨n, hnn⟩ : ∃ n, a.sn = n := ⟨_, rfl⟩
    obtain ⟨nc, hnc⟩ : ∃ nc, a.sc = nc := ⟨_, rfl⟩
    rw [hnn] at HSC HIN hn
    rw [hnc] at HSC
    clear hnn hnc
    refine wp_region_inv (by kernel_rfl) (by kernel_rfl) (fun A ℓ a' w' => ∃ (x34 x35 x36 x37 x38 x39 x40 x7 : Value), a' = ((((((((A.put (some 34) x34).put (some 35) x35).put (some 36) x36).put (some 37) x37).put (some 38) x38).put (some 39) x39).put (some 40) x40).put (some 7) x7) ∧ R6 (WB) (#[.int .i64 0, .int .i64 0, .int .i64 0]) (#[.int .i64 y1, .int .i64 y2, .int .i64 y3]) (.pointer (some ⟨w.heap.size, 18, none⟩)) (.slice (some ⟨b1, o1, none⟩) n nc) (tbV t a) (.int .i64 c) (.int .i64 (i : Int)) (.pointer (some ⟨b1, o1 + i * 3, none⟩)) (.agg #[.int .i64 y1, .int .i64 y2, .int .i64 y3]) w' (ℓ 0) (ℓ 1) (ℓ 2) (ℓ 3) (ℓ 4) (ℓ 5) (ℓ 6) (ℓ 7) (ℓ 8) x34 x35 x36 x37 x38 x39 x40 x7) ?_ ?_ ?_ ?_
    · exact ⟨undef, undef, undef, undef, undef, undef, undef, undef, (by simp only [Act.put, List.setIfInBounds_toArray, List.set_cons_zero, List.set_cons_succ]), ⟨(fun g => by cases g), (Below.refl _ _).drew, (fun g => by cases g), (fun g => by cases g), (fun g => by cases g), (fun g => by cases g), (fun g => by cases g), (fun g => by cases g), (fun g => by cases g), (fun g => by cases g)⟩⟩
    · intro ℓ a' w' hI hall
      obtain ⟨x34, x35, x36, x37, x38, x39, x40, x7, rfl, hr⟩ := hI
      have hall' : ∀ i, i < 9 → ℓ i = true := hall
      obtain rfl := hr.f0 (hall' 0 (by decide))
      obtain rfl := hr.f1 (hall' 1 (by decide))
      obtain rfl := hr.f2 (hall' 2 (by decide))
      obtain rfl := hr.f3 (hall' 3 (by decide))
      obtain rfl := hr.f4 (hall' 4 (by decide))
      obtain rfl := hr.f5 (hall' 5 (by decide))
      obtain rfl := hr.f6 (hall' 6 (by decide))
      obtain ⟨N, rfl, hN, _, hrow⟩ := hr.f7 (hall' 7 (by decide))
      have hrow := hrow (hall' 8 (by decide))
      have hgb := hr.gb
      clear hall hall' hr
      simp only [Act.put, List.setIfInBounds_toArray, List.set_cons_zero, List.set_cons_succ]
      have HBA : Hid (Below WB.heap.size WB w') := hgb
      have HR7 : Hid (w'.heap[N]? = some (.cells #[.int .i64 y1, .int .i64 y2, .int .i64 y3] 42 (0, 0))) := hrow
      have HN7 : Hid (WB.heap.size ≤ N ∧ N < w'.heap.size) := ⟨hN, row_lt hrow⟩
      have HX7 : Hid (TBx w' w.heap.size t a) := HXB.out _ hgb
      clear hrow hgb hN
      go_wp2_with (first | (refine wpList_load_row rfl 33 (.tmp 2) rfl w.heap.size rfl 33 (tbA t a) (0, 0) _ HX7.out Tryz.underlying33 rfl (by kernel_rfl) ?_) | (refine wpList_load_row rfl 42 (.tmp 7) rfl N rfl 42 (#[.int .i64 y1, .int .i64 y2, .int .i64 y3]) (0, 0) _ HR7.out Tryz.underlying42 rfl (by kernel_rfl) ?_) | fail)
      refine Calls.mono (HRO.out _) ?_
      rintro e w3 ⟨rfl, hb3⟩
      have HBC : Hid (Below WB.heap.size WB w3) := HBA.out.trans (hb3.mono HBA.out.size)
      have HR8 : Hid (w3.heap[N]? = some (.cells #[.int .i64 y1, .int .i64 y2, .int .i64 y3] 42 (0, 0))) := row_below HR7.out hb3
      have HN8 : Hid (WB.heap.size ≤ N ∧ N < w3.heap.size) := ⟨HN7.out.1, row_lt HR8.out⟩
      clear hb3 HBA HR7 HN7 HX7
      have HR9 : Hid (w3.heap[N6]? = some (.cells #[.int .i64 c, .int .i64 0, .int .i64 (-1), .int .i64 3] 50 (0, 0))) := row_below HRZ.out HBC.out
      have H48 : Hid (w3.heap[w.heap.size + 1]? = some (.cells #[.int .i64 0, .int .i64 0, .int .i64 0, .int .i64 0] 50 (0, 0))) := row_below H4.out HBC.out
      have HB3 : Hid (Below w.heap.size w w3) := HB.out.trans (HBC.out.mono HN6.out.1)
      have HNE : Hid (N ≠ N6) := by have := HN8.out.1; have := row_lt HRZ.out; show _ ≠ _; omega
      have k0 := row_cell HR8.out 0 _ rfl
      have cc := row_cell HR9.out 2 _ rfl
      have cf := row_free HR9.out 2
      have c1 := row_cell HR9.out 1 _ rfl
      have cf1 := row_free HR9.out 1
      have c3 := row_cell HR9.out 3 _ rfl
      have HR10 : Hid (((w3.setCell ⟨N6, 2, none⟩ (.int .i64 y1)).setCell ⟨N6, 1, none⟩ (.int .i64 (bd + (y2 + y3)))).heap[N6]? = some (.cells #[.int .i64 c, .int .i64 (bd + (y2 + y3)), .int .i64 y1, .int .i64 3] 50 (0, 0))) := r3_set (r3_set HR9.out 2 _ rfl) 1 _ rfl
      have H410 : Hid (((w3.setCell ⟨N6, 2, none⟩ (.int .i64 y1)).setCell ⟨N6, 1, none⟩ (.int .i64 (bd + (y2 + y3)))).heap[w.heap.size + 1]? = some (.cells #[.int .i64 0, .int .i64 0, .int .i64 0, .int .i64 0] 50 (0, 0))) := row_other (row_other H48.out (by have := HN6.out.2; omega)) (by have := HN6.out.2; omega)
      have HB10 : Hid (Below w.heap.size w ((w3.setCell ⟨N6, 2, none⟩ (.int .i64 y1)).setCell ⟨N6, 1, none⟩ (.int .i64 (bd + (y2 + y3))))) := (HB3.out.setCell (p := ⟨N6, 2, none⟩) (by show w.heap.size ≤ N6; have := HN6.out.2; omega) _).setCell (p := ⟨N6, 1, none⟩) (by show w.heap.size ≤ N6; have := HN6.out.2; omega) _
      have HRW : Hid ((w3.setCell ⟨N6, 2, none⟩ (.int .i64 y1)).heap[N]? = some (.cells #[.int .i64 y1, .int .i64 y2, .int .i64 y3] 42 (0, 0))) := row_other HR8.out HNE.out
      have HR9b : Hid ((w3.setCell ⟨N6, 2, none⟩ (.int .i64 y1)).heap[N6]? = some (.cells #[.int .i64 c, .int .i64 0, .int .i64 y1, .int .i64 3] 50 (0, 0))) := r3_set HR9.out 2 _ rfl
      have H48b : Hid ((w3.setCell ⟨N6, 2, none⟩ (.int .i64 y1)).heap[w.heap.size + 1]? = some (.cells #[.int .i64 0, .int .i64 0, .int .i64 0, .int .i64 0] 50 (0, 0))) := row_other H48.out (by have := HN6.out.2; omega)
      have HB3b : Hid (Below w.heap.size w (w3.setCell ⟨N6, 2, none⟩ (.int .i64 y1))) := HB3.out.setCell (p := ⟨N6, 2, none⟩) (by show w.heap.size ≤ N6; have := HN6.out.2; omega) _
      clear HR10 H410 HB10
      go_wp2_with (first | (refine wpList_load_row rfl 42 (.tmp 7) rfl N rfl 42 (#[.int .i64 y1, .int .i64 y2, .int .i64 y3]) (0, 0) _ HRW.out Tryz.underlying42 rfl (by kernel_rfl) ?_) | fail)
      refine Calls.mono (HSE.out _) ?_
      rintro e w5 ⟨rfl, hb5⟩
      have HR5 : Hid (w5.heap[N6]? = some (.cells #[.int .i64 c, .int .i64 0, .int .i64 y1, .int .i64 3] 50 (0, 0))) := row_below HR9b.out hb5
      have H45 : Hid (w5.heap[w.heap.size + 1]? = some (.cells #[.int .i64 0, .int .i64 0, .int .i64 0, .int .i64 0] 50 (0, 0))) := row_below H48b.out hb5
      have HB5 : Hid (Below w.heap.size w w5) := HB3b.out.trans (hb5.mono HB3b.out.size)
      have HR10 : Hid ((w5.setCell ⟨N6, 1, none⟩ (.int .i64 (bd + (y2 + y3)))).heap[N6]? = some (.cells #[.int .i64 c, .int .i64 (bd + (y2 + y3)), .int .i64 y1, .int .i64 3] 50 (0, 0))) := r3_set HR5.out 1 _ rfl
      have H410 : Hid ((w5.setCell ⟨N6, 1, none⟩ (.int .i64 (bd + (y2 + y3)))).heap[w.heap.size + 1]? = some (.cells #[.int .i64 0, .int .i64 0, .int .i64 0, .int .i64 0] 50 (0, 0))) := row_other H45.out (by have := HN6.out.2; omega)
      have HB10 : Hid (Below w.heap.size w (w5.setCell ⟨N6, 1, none⟩ (.int .i64 (bd + (y2 + y3))))) := HB5.out.setCell (p := ⟨N6, 1, none⟩) (by show w.heap.size ≤ N6; have := HN6.out.2; omega) _
      clear c1 cf1 c3 cc cf k0
      have c1 := row_cell HR5.out 1 _ rfl
      have cf1 := row_free HR5.out 1
      have hwr := HWR.out
      go_wp2_with (first | (refine wpList_load_row rfl 50 (.tmp 6) rfl N6 rfl 50 (#[.int .i64 c, .int .i64 (bd + (y2 + y3)), .int .i64 y1, .int .i64 3]) (0, 0) _ HR10.out Tryz.underlying50 rfl (by kernel_rfl) ?_) | (refine wpList_store_row rfl 50 (.tmp 4) (.tmp 69) rfl (w.heap.size + 1) (#[.int .i64 c, .int .i64 (bd + (y2 + y3)), .int .i64 y1, .int .i64 3]) rfl rfl 50 (#[.int .i64 0, .int .i64 0, .int .i64 0, .int .i64 0]) H410.out (by kernel_rfl) rfl (by simp [Value.oneCell']) ?_) | fail)
      exact bodyPost_ret (v := .agg #[.int .i64 c, .int .i64 (bd + (y2 + y3)), .int .i64 y1, .int .i64 3]) (res_rest (setRow_heap _ _ _ _ _ _ H410.out) rfl rfl) rfl ⟨_, by rw [HWE.out], HRT.out, below_setRow HB10.out (Nat.le_succ _) _⟩
    · intro ℓ a' w' i o hI ho hi hL hdep K hK
      obtain ⟨x34, x35, x36, x37, x38, x39, x40, x7, rfl, hr⟩ := hI
      have hi7 : i < 9 := hi
      have hcs : i = 0 ∨ i = 1 ∨ i = 2 ∨ i = 3 ∨ i = 4 ∨ i = 5 ∨ i = 6 ∨ i = 7 ∨ i = 8 := by omega
      clear hi hi7
      rcases hcs with rfl | rfl | rfl | rfl | rfl | rfl | rfl | rfl | rfl
      · revert hK
        obtain rfl := Option.some.inj ho
        clear hdep ho
        have hgb := hr.gb
        intro hK
        rw [if_pos (by rfl)]
        try simp only [Act.put, List.setIfInBounds_toArray, List.set_cons_zero, List.set_cons_succ]
        go_simp
        exact hK.out _ _ (fun j => if j = 0 then true else ℓ j) ⟨(.pointer (some ⟨w.heap.size, 18, none⟩)), x35, x36, x37, x38, x39, x40, x7, (by first | (simp only [Act.put, List.setIfInBounds_toArray, List.set_cons_zero, List.set_cons_succ]; done) | (simp only [Act.put, List.setIfInBounds_toArray, List.set_cons_zero, List.set_cons_succ]; rfl)), ⟨(fun g => ⟨rfl, (hr.cs g).2.1, (hr.cs g).2.2.1, (hr.cs g).2.2.2.1, (hr.cs g).2.2.2.2.1, (hr.cs g).2.2.2.2.2.1, (hr.cs g).2.2.2.2.2.2.1, (hr.cs g).2.2.2.2.2.2.2.1, trivial⟩), hr.gb, (fun _ => rfl), hr.f1, hr.f2, hr.f3, hr.f4, hr.f5, hr.f6, hr.f7⟩⟩ (if_pos rfl) (fun j hj => if_neg hj)
      · revert hK
        obtain rfl := Option.some.inj ho
        have g0 : ℓ 0 = true := hdep { on := 0, ground := Ground.data } (by simp) rfl
        clear hdep ho
        have hl : ℓ 8 = false := by
          cases h7 : ℓ 8
          · rfl
          · have := (hr.cs h7).2.1; rw [this] at hL; cases hL
        have hgb := hr.gb
        obtain rfl := hr.f0 g0
        intro hK
        rw [if_pos (by rfl)]
        try simp only [Act.put, List.setIfInBounds_toArray, List.set_cons_zero, List.set_cons_succ]
        have cc := (HSC.out _ hgb)
        go_simp
        exact hK.out _ _ (fun j => if j = 1 then true else ℓ j) ⟨(.pointer (some ⟨w.heap.size, 18, none⟩)), (.slice (some ⟨b1, o1, none⟩) n nc), x36, x37, x38, x39, x40, x7, (by first | (simp only [Act.put, List.setIfInBounds_toArray, List.set_cons_zero, List.set_cons_succ]; done) | (simp only [Act.put, List.setIfInBounds_toArray, List.set_cons_zero, List.set_cons_succ]; rfl)), ⟨(fun g => ⟨(hr.cs g).1, rfl, (hr.cs g).2.2.1, (hr.cs g).2.2.2.1, (hr.cs g).2.2.2.2.1, (hr.cs g).2.2.2.2.2.1, (hr.cs g).2.2.2.2.2.2.1, (hr.cs g).2.2.2.2.2.2.2.1, trivial⟩), hr.gb, hr.f0, (fun _ => rfl), hr.f2, hr.f3, hr.f4, hr.f5, hr.f6, hr.f7⟩⟩ (if_pos rfl) (fun j hj => if_neg hj)
      · replace ho : some ({ dst := some 36, op := .load 33 (.tmp 2), type := 33, pos := "l24_audit.go:28", after := #[], guard := none } : Oper) = some o := ho
        revert hK
        obtain rfl := Option.some.inj ho
        clear hdep ho
        have hl : ℓ 8 = false := by
          cases h7 : ℓ 8
          · rfl
          · have := (hr.cs h7).2.2.1; rw [this] at hL; cases hL
        have hgb := hr.gb
        intro hK
        rw [if_pos (by rfl)]
        try simp only [Act.put, List.setIfInBounds_toArray, List.set_cons_zero, List.set_cons_succ]
        refine wp_load_row (P := Tryz.prog) 33 (.tmp 2) rfl w.heap.size rfl 33 (tbA t a) (0, 0) _ ((HXB.out _ hgb)) Tryz.underlying33 rfl (by kernel_rfl) ?_
        exact hK.out _ _ (fun j => if j = 2 then true else ℓ j) ⟨x34, x35, (tbV t a), x37, x38, x39, x40, x7, (by first | (simp only [Act.put, List.setIfInBounds_toArray, List.set_cons_zero, List.set_cons_succ]; done) | (simp only [Act.put, List.setIfInBounds_toArray, List.set_cons_zero, List.set_cons_succ]; rfl)), ⟨(fun g => ⟨(hr.cs g).1, (hr.cs g).2.1, rfl, (hr.cs g).2.2.2.1, (hr.cs g).2.2.2.2.1, (hr.cs g).2.2.2.2.2.1, (hr.cs g).2.2.2.2.2.2.1, (hr.cs g).2.2.2.2.2.2.2.1, trivial⟩), hr.gb, hr.f0, hr.f1, (fun _ => rfl), hr.f3, hr.f4, hr.f5, hr.f6, hr.f7⟩⟩ (if_pos rfl) (fun j hj => if_neg hj)
      · revert hK
        obtain rfl := Option.some.inj ho
        clear hdep ho
        have hgb := hr.gb
        intro hK
        rw [if_pos (by rfl)]
        try simp only [Act.put, List.setIfInBounds_toArray, List.set_cons_zero, List.set_cons_succ]
        go_simp
        exact hK.out _ _ (fun j => if j = 3 then true else ℓ j) ⟨x34, x35, x36, (.int .i64 c), x38, x39, x40, x7, (by first | (simp only [Act.put, List.setIfInBounds_toArray, List.set_cons_zero, List.set_cons_succ]; done) | (simp only [Act.put, List.setIfInBounds_toArray, List.set_cons_zero, List.set_cons_succ]; rfl)), ⟨(fun g => ⟨(hr.cs g).1, (hr.cs g).2.1, (hr.cs g).2.2.1, rfl, (hr.cs g).2.2.2.2.1, (hr.cs g).2.2.2.2.2.1, (hr.cs g).2.2.2.2.2.2.1, (hr.cs g).2.2.2.2.2.2.2.1, trivial⟩), hr.gb, hr.f0, hr.f1, hr.f2, (fun _ => rfl), hr.f4, hr.f5, hr.f6, hr.f7⟩⟩ (if_pos rfl) (fun j hj => if_neg hj)
      · revert hK
        obtain rfl := Option.some.inj ho
        have g2 : ℓ 2 = true := hdep { on := 2, ground := Ground.data } (by simp) rfl
        have g3 : ℓ 3 = true := hdep { on := 3, ground := Ground.data } (by simp) rfl
        clear hdep ho
        have hl : ℓ 8 = false := by
          cases h7 : ℓ 8
          · rfl
          · have := (hr.cs h7).2.2.2.2.1; rw [this] at hL; cases hL
        have hgb := hr.gb
        obtain rfl := hr.f2 g2
        obtain rfl := hr.f3 g3
        intro hK
        rw [if_pos (by rfl)]
        try simp only [Act.put, List.setIfInBounds_toArray, List.set_cons_zero, List.set_cons_succ]
        go_simp
        refine Calls.mono (HSA.out _ hgb) ?_
        rintro e w9 ⟨rfl, hb9⟩
        have hr9 := hr.below hb9
        exact hK.out _ _ (fun j => if j = 4 then true else ℓ j) ⟨x34, x35, (tbV t a), (.int .i64 c), (.int .i64 (i : Int)), x39, x40, x7, (by first | (simp only [Act.put, List.setIfInBounds_toArray, List.set_cons_zero, List.set_cons_succ]; done) | (simp only [Act.put, List.setIfInBounds_toArray, List.set_cons_zero, List.set_cons_succ]; rfl)), ⟨(fun g => ⟨(hr9.cs g).1, (hr9.cs g).2.1, (hr9.cs g).2.2.1, (hr9.cs g).2.2.2.1, rfl, (hr9.cs g).2.2.2.2.2.1, (hr9.cs g).2.2.2.2.2.2.1, (hr9.cs g).2.2.2.2.2.2.2.1, trivial⟩), hr9.gb, hr9.f0, hr9.f1, hr9.f2, hr9.f3, (fun _ => rfl), hr9.f5, hr9.f6, hr9.f7⟩⟩ (if_pos rfl) (fun j hj => if_neg hj)
      · revert hK
        obtain rfl := Option.some.inj ho
        have g1 : ℓ 1 = true := hdep { on := 1, ground := Ground.data } (by simp) rfl
        have g4 : ℓ 4 = true := hdep { on := 4, ground := Ground.data } (by simp) rfl
        clear hdep ho
        have hgb := hr.gb
        obtain rfl := hr.f1 g1
        obtain rfl := hr.f4 g4
        intro hK
        rw [if_pos (by rfl)]
        try simp only [Act.put, List.setIfInBounds_toArray, List.set_cons_zero, List.set_cons_succ]
        have hin := HIN.out
        go_simp
        exact hK.out _ _ (fun j => if j = 5 then true else ℓ j) ⟨x34, (.slice (some ⟨b1, o1, none⟩) n nc), x36, x37, (.int .i64 (i : Int)), (.pointer (some ⟨b1, o1 + i * 3, none⟩)), x40, x7, (by first | (simp only [Act.put, List.setIfInBounds_toArray, List.set_cons_zero, List.set_cons_succ]; done) | (simp only [Act.put, List.setIfInBounds_toArray, List.set_cons_zero, List.set_cons_succ]; rfl)), ⟨(fun g => ⟨(hr.cs g).1, (hr.cs g).2.1, (hr.cs g).2.2.1, (hr.cs g).2.2.2.1, (hr.cs g).2.2.2.2.1, rfl, (hr.cs g).2.2.2.2.2.2.1, (hr.cs g).2.2.2.2.2.2.2.1, trivial⟩), hr.gb, hr.f0, hr.f1, hr.f2, hr.f3, hr.f4, (fun _ => rfl), hr.f6, hr.f7⟩⟩ (if_pos rfl) (fun j hj => if_neg hj)
      · revert hK
        obtain rfl := Option.some.inj ho
        have g5 : ℓ 5 = true := hdep { on := 5, ground := Ground.data } (by simp) rfl
        clear hdep ho
        have hgb := hr.gb
        obtain rfl := hr.f5 g5
        intro hK
        rw [if_pos (by rfl)]
        try simp only [Act.put, List.setIfInBounds_toArray, List.set_cons_zero, List.set_cons_succ]
        have hgb := hr.gb
        obtain ⟨cc0, cc1, cc2⟩ := HCE.out _ hgb
        go_simp
        exact hK.out _ _ (fun j => if j = 6 then true else ℓ j) ⟨x34, x35, x36, x37, x38, (.pointer (some ⟨b1, o1 + i * 3, none⟩)), (.agg #[.int .i64 y1, .int .i64 y2, .int .i64 y3]), x7, (by first | (simp only [Act.put, List.setIfInBounds_toArray, List.set_cons_zero, List.set_cons_succ]; done) | (simp only [Act.put, List.setIfInBounds_toArray, List.set_cons_zero, List.set_cons_succ]; rfl)), ⟨(fun g => ⟨(hr.cs g).1, (hr.cs g).2.1, (hr.cs g).2.2.1, (hr.cs g).2.2.2.1, (hr.cs g).2.2.2.2.1, (hr.cs g).2.2.2.2.2.1, rfl, (hr.cs g).2.2.2.2.2.2.2.1, trivial⟩), hr.gb, hr.f0, hr.f1, hr.f2, hr.f3, hr.f4, hr.f5, (fun _ => rfl), hr.f7⟩⟩ (if_pos rfl) (fun j hj => if_neg hj)
      · revert hK
        obtain rfl := Option.some.inj ho
        clear hdep ho
        have hl : ℓ 8 = false := by
          cases h7 : ℓ 8
          · rfl
          · have := (hr.cs h7).2.2.2.2.2.2.2.1; rw [this] at hL; cases hL
        have hgb := hr.gb
        intro hK
        rw [if_pos (by rfl)]
        try simp only [Act.put, List.setIfInBounds_toArray, List.set_cons_zero, List.set_cons_succ]
        have hr9 := hr.below (w9 := w'.alloc (.cells (#[.int .i64 0, .int .i64 0, .int .i64 0]) 42)) ((Below.refl _ _).alloc (Nat.le_refl _) _)
        go_simp
        exact hK.out _ _ (fun j => if j = 7 then true else ℓ j) ⟨x34, x35, x36, x37, x38, x39, x40, (.pointer (some ⟨w'.heap.size, 0, none⟩)), (by first | (simp only [Act.put, List.setIfInBounds_toArray, List.set_cons_zero, List.set_cons_succ]; done) | (simp only [Act.put, List.setIfInBounds_toArray, List.set_cons_zero, List.set_cons_succ]; rfl)), ⟨(fun g => ⟨(hr9.cs g).1, (hr9.cs g).2.1, (hr9.cs g).2.2.1, (hr9.cs g).2.2.2.1, (hr9.cs g).2.2.2.2.1, (hr9.cs g).2.2.2.2.2.1, (hr9.cs g).2.2.2.2.2.2.1, rfl, trivial⟩), hr9.gb, hr9.f0, hr9.f1, hr9.f2, hr9.f3, hr9.f4, hr9.f5, hr9.f6, (fun _ => ⟨w'.heap.size, rfl, hgb.size, (fun _ => new_row w' _ _ _ rfl), (fun g => by have g' : ℓ 8 = true := g; rw [hl] at g'; cases g')⟩)⟩⟩ (if_pos rfl) (fun j hj => if_neg hj)
      · replace ho : some ({ dst := none, op := .store 42 (.tmp 7) (.tmp 40), type := 0, pos := "l24_audit.go:28", after := #[{ on := 7, ground := Ground.data }, { on := 6, ground := Ground.data }, { on := 4, ground := Ground.chain }, { on := 0, ground := Ground.phase }, { on := 1, ground := Ground.phase }, { on := 2, ground := Ground.phase }, { on := 3, ground := Ground.phase }, { on := 4, ground := Ground.phase }, { on := 5, ground := Ground.phase }, { on := 6, ground := Ground.phase }, { on := 7, ground := Ground.phase }], guard := none } : Oper) = some o := ho
        revert hK
        obtain rfl := Option.some.inj ho
        have g7 : ℓ 7 = true := hdep { on := 7, ground := Ground.data } (by simp) rfl
        have g6 : ℓ 6 = true := hdep { on := 6, ground := Ground.data } (by simp) rfl
        have g0 : ℓ 0 = true := hdep { on := 0, ground := Ground.phase } (by simp) rfl
        have g1 : ℓ 1 = true := hdep { on := 1, ground := Ground.phase } (by simp) rfl
        have g2 : ℓ 2 = true := hdep { on := 2, ground := Ground.phase } (by simp) rfl
        have g3 : ℓ 3 = true := hdep { on := 3, ground := Ground.phase } (by simp) rfl
        have g4 : ℓ 4 = true := hdep { on := 4, ground := Ground.phase } (by simp) rfl
        have g5 : ℓ 5 = true := hdep { on := 5, ground := Ground.phase } (by simp) rfl
        clear hdep ho
        have hgb := hr.gb
        obtain ⟨N, rfl, hN, hrow, _⟩ := hr.f7 g7
        obtain rfl := hr.f6 g6
        intro hK
        rw [if_pos (by rfl)]
        try simp only [Act.put, List.setIfInBounds_toArray, List.set_cons_zero, List.set_cons_succ]
        refine wp_store_row (P := Tryz.prog) 42 (.tmp 7) (.tmp 40) rfl N (#[.int .i64 y1, .int .i64 y2, .int .i64 y3]) rfl rfl 42 (#[.int .i64 0, .int .i64 0, .int .i64 0]) (hrow hL) (by kernel_rfl) rfl (by simp [Value.oneCell']) ?_
        exact hK.out _ _ (fun j => if j = 8 then true else ℓ j) ⟨x34, x35, x36, x37, x38, x39, (.agg #[.int .i64 y1, .int .i64 y2, .int .i64 y3]), (.pointer (some ⟨N, 0, none⟩)), (by first | (simp only [Act.put, List.setIfInBounds_toArray, List.set_cons_zero, List.set_cons_succ]; done) | (simp only [Act.put, List.setIfInBounds_toArray, List.set_cons_zero, List.set_cons_succ]; rfl)), ⟨(fun _ => ⟨g0, g1, g2, g3, g4, g5, g6, g7, trivial⟩), below_setRow hr.gb hN _, hr.f0, hr.f1, hr.f2, hr.f3, hr.f4, hr.f5, hr.f6, (fun _ => ⟨N, rfl, hN, (fun g => by cases g), fun _ => setRow_heap _ _ _ _ _ _ (hrow hL)⟩)⟩⟩ (if_pos rfl) (fun j hj => if_neg hj)
    · rintro a' w' ℓ ℓ' hℓ hI
      rw [← show ℓ = ℓ' from funext hℓ]
      exact hI
end Go.Proofs.YtlomcdgfcocmmaaGreatDoor
namespace Go.Proofs.YtlomcdgfcocmmaaGreatDoor
open Go.ChangeShapes Go.WideShapes Go.ChangeAt Go.RowKit Go.Deep Go.Joins
set_option linter.unusedVariables false

def spV (t : Tb) (o r : Int) : Array Value := #[.int .i64 o, .int .i64 r, .int .i64 (whoV t (o % t.maj)), .int .i64 (phaseV t (o % t.maj))]
/-- The iterator: the open span, the end, the tables. -/
structure Itr (W : World) (t : Tb) (a : Ad) (B0 B1 B2 : Nat) (o r u : Int) : Prop where
  op : W.heap[B0]? = some (.cells (spV t o r) 50 (0, 0))
  to : W.heap[B1]? = some (.cells #[.int .i64 u] 3 (0, 0))
  tb : TBx W B2 t a
  n1 : B0 ≠ B1
  n2 : B0 ≠ B2
  rt : RT t o r
  o0 : 0 ≤ o
theorem Itr.below {W W' : World} {t : Tb} {a : Ad} {B0 B1 B2 : Nat} {o r u : Int} (h : Itr W t a B0 B1 B2 o r u) (hb : Below W.heap.size W W') : Itr W' t a B0 B1 B2 o r u :=
  ⟨row_below h.op hb, row_below h.to hb, h.tb.below hb, h.n1, h.n2, h.rt, h.o0⟩
theorem Itr.grown {W W' : World} {t : Tb} {a : Ad} {B0 B1 B2 : Nat} {o r u : Int} (h : Itr W t a B0 B1 B2 o r u) (hb : ∀ k, k = B0 ∨ k = B1 ∨ k = B2 → W'.heap[k]? = W.heap[k]?) : Itr W' t a B0 B1 B2 o r u :=
  ⟨(hb B0 (.inl rfl)).trans h.op, (hb B1 (.inr (.inl rfl))).trans h.to, (show W'.heap[B2]? = _ from (hb B2 (.inr (.inr rfl))).trans h.tb), h.n1, h.n2, h.rt, h.o0⟩
theorem Turn.setRow {B : Nat} {a w : World} (h : Turn B a w) (cs : Array Value) : Turn B a (w.setRow B cs) :=
  h.trans ⟨rfl, rfl, rfl, (below_setRow (Below.refl 0 w) (Nat.zero_le B) cs).size, fun k _ hn => setRow_other w B k cs hn⟩
theorem res_next {W : World} {B : Nat} {cs : Array Value} {b : Bool} {tmps : Array Value} (h : W.heap[B]? = some (.cells cs 50 (0, 0))) (hl : cs.size = 4) (ht : tmps[3]? = some (.pointer (some ⟨B, 0, none⟩))) (hq : tmps[4]? = some (.bool b)) : (results Tryz.f83 tmps).run Tryz.prog W = .ok (.tuple #[.agg cs, .bool b]) W := by
  have hld : (loadVar 50 ⟨B, 0, none⟩).run Tryz.prog W = .ok (.agg cs) W := run_loadVar_row (P := Tryz.prog) W B 50 50 cs (0, 0) _ h Tryz.underlying50 rfl (by rw [hl]; kernel_rfl)
  unfold results
  rw [Tryz.results83]
  simp [ht, hq, asAddr, hld]
set_option maxRecDepth 40000 in
set_option maxHeartbeats 4000000 in
theorem next_span (t : Tb) (a : Ad) (o r u : Int) (B0 B1 B2 : Nat) (W X : World) (hi : Itr X t a B0 B1 B2 o r u) (hm : TM 0 W t a) (hX : Below W.heap.size W X) (hB0 : W.heap.size ≤ B0) (hw : TW t a) (hs : TS a) (hcs : a.sn ≤ a.sc) (ht : Tm t) (hu : u ≤ 50000) :
    Calls Tryz.prog 83 #[.pointer (some ⟨B0, 0, none⟩), .pointer (some ⟨B1, 0, none⟩), .pointer (some ⟨B2, 0, none⟩)] X fun e w' =>
      (u ≤ o ∧ e = .returned (.tuple #[.agg #[.int .i64 0, .int .i64 0, .int .i64 0, .int .i64 0], .bool false]) ∧ Below X.heap.size X w') ∨
      (o < u ∧ ∃ r', e = .returned (.tuple #[.agg (spV t o (min r u)), .bool true]) ∧ Turn B0 X w' ∧ Itr w' t a B0 B1 B2 r r' u) := by
  have hlt0 := row_lt hi.op
  have hlt1 := row_lt hi.to
  have hlt2 : B2 < X.heap.size := hi.tb.lt
  have hb1 : Below X.heap.size X (X.alloc (.cells #[.int .i64 0, .int .i64 0, .int .i64 0, .int .i64 0] 50)) := (Below.refl _ _).alloc (Nat.le_refl _) _
  have H3 : Hid ((X.alloc (.cells #[.int .i64 0, .int .i64 0, .int .i64 0, .int .i64 0] 50)).heap[X.heap.size]? = some (.cells #[.int .i64 0, .int .i64 0, .int .i64 0, .int .i64 0] 50 (0, 0))) := new_row X _ _ _ rfl
  have HI : Hid (Itr (X.alloc (.cells #[.int .i64 0, .int .i64 0, .int .i64 0, .int .i64 0] 50)) t a B0 B1 B2 o r u) := hi.below hb1
  have HT : Hid (Turn B0 X (X.alloc (.cells #[.int .i64 0, .int .i64 0, .int .i64 0, .int .i64 0] 50))) := (Turn.refl _ _).alloc _
  have HBX : Hid (Below X.heap.size X (X.alloc (.cells #[.int .i64 0, .int .i64 0, .int .i64 0, .int .i64 0] 50))) := hb1
  have HRF : Hid (∀ c Y, 0 ≤ c → c ≤ 1000000 → Turn B0 X Y → Calls Tryz.prog 82 #[tbV t a, .int .i64 c] Y fun e w' => ∃ r, e = .returned (.agg #[.int .i64 c, .int .i64 r, .int .i64 (whoV t (c % t.maj)), .int .i64 (phaseV t (c % t.maj))]) ∧ RT t c r ∧ Below Y.heap.size Y w') := fun c Y h0 h1 hY =>
    rest_from t a c Y (hm.below (hX.trans (hY.below hB0 hX.size))) hw hs hcs ht h0 h1
  have HRT : Hid (RT t o r) := hi.rt
  have HO : Hid (0 ≤ o) := hi.o0
  have hrr : o < r ∧ r ≤ o + 5000 := ⟨hi.rt.lt, hi.rt.le⟩
  have HNN : Hid (B0 ≠ B1 ∧ B0 ≠ B2) := ⟨hi.n1, hi.n2⟩
  have HLT : Hid (B0 < X.heap.size ∧ B1 < X.heap.size ∧ B2 < X.heap.size) := ⟨hlt0, hlt1, hlt2⟩
  have ho0 : 0 ≤ o := hi.o0
  have k0 : (X.alloc (.cells #[.int .i64 0, .int .i64 0, .int .i64 0, .int .i64 0] 50)).cell? ⟨B0, 0, none⟩ = some (.int .i64 o) := row_cell HI.out.op 0 _ rfl
  have k1 : (X.alloc (.cells #[.int .i64 0, .int .i64 0, .int .i64 0, .int .i64 0] 50)).cell? ⟨B1, 0, none⟩ = some (.int .i64 u) := row_cell HI.out.to 0 _ rfl
  clear hi hm hX hw hs hcs ht hlt0 hlt1 hlt2 hb1 hB0
  by_cases g : u ≤ o
  · go_enter Tryz.func83, Tryz.ntmps83
    go_wp2_with (first | (refine wpList_store_row rfl 50 (.tmp 3) (.tmp 10) rfl X.heap.size (#[.int .i64 0, .int .i64 0, .int .i64 0, .int .i64 0]) rfl rfl 50 (#[.int .i64 0, .int .i64 0, .int .i64 0, .int .i64 0]) H3.out (by kernel_rfl) rfl (by simp [Value.oneCell']) ?_) | fail)
    refine bodyPost_ret (v := .tuple #[.agg #[.int .i64 0, .int .i64 0, .int .i64 0, .int .i64 0], .bool false]) (res_next (setRow_heap _ _ _ _ _ _ H3.out) rfl rfl rfl) rfl ?_
    exact Or.inl ⟨g, rfl, below_setRow HBX.out (Nat.le_refl _) _⟩
  have hou : o < u := by omega
  obtain ⟨wo, HWO⟩ : ∃ x, Hid (whoV t (o % t.maj) = x) := ⟨_, rfl⟩
  obtain ⟨ph, HPH⟩ : ∃ x, Hid (phaseV t (o % t.maj) = x) := ⟨_, rfl⟩
  have HOP : Hid ((X.alloc (.cells #[.int .i64 0, .int .i64 0, .int .i64 0, .int .i64 0] 50)).heap[B0]? = some (.cells #[.int .i64 o, .int .i64 r, .int .i64 wo, .int .i64 ph] 50 (0, 0))) := by
    have := HI.out.op
    simp only [spV, HWO.out, HPH.out] at this
    exact this
  have HTO : Hid ((X.alloc (.cells #[.int .i64 0, .int .i64 0, .int .i64 0, .int .i64 0] 50)).heap[B1]? = some (.cells #[.int .i64 u] 3 (0, 0))) := HI.out.to
  have HTB : Hid (TBx (X.alloc (.cells #[.int .i64 0, .int .i64 0, .int .i64 0, .int .i64 0] 50)) B2 t a) := HI.out.tb
  have HMV : Hid (spV t o (min r u) = #[.int .i64 o, .int .i64 (min r u), .int .i64 wo, .int .i64 ph]) := by show spV t o (min r u) = _; unfold spV; rw [HWO.out, HPH.out]
  rw [HMV.out]
  clear HI HWO HPH HRT
  have HX3 : Hid (X.heap.size < (X.alloc (.cells #[.int .i64 0, .int .i64 0, .int .i64 0, .int .i64 0] 50)).heap.size) := row_lt H3.out
  have hb5 : Below (X.alloc (.cells #[.int .i64 0, .int .i64 0, .int .i64 0, .int .i64 0] 50)).heap.size (X.alloc (.cells #[.int .i64 0, .int .i64 0, .int .i64 0, .int .i64 0] 50)) ((X.alloc (.cells #[.int .i64 0, .int .i64 0, .int .i64 0, .int .i64 0] 50)).alloc (.cells #[.int .i64 o, .int .i64 r, .int .i64 wo, .int .i64 ph] 50)) := (Below.refl _ _).alloc (Nat.le_refl _) _
  have H5 : Hid (((X.alloc (.cells #[.int .i64 0, .int .i64 0, .int .i64 0, .int .i64 0] 50)).alloc (.cells #[.int .i64 o, .int .i64 r, .int .i64 wo, .int .i64 ph] 50)).heap[(X.heap.size + 1)]? = some (.cells #[.int .i64 o, .int .i64 r, .int .i64 wo, .int .i64 ph] 50 (0, 0))) := new_row (X.alloc (.cells #[.int .i64 0, .int .i64 0, .int .i64 0, .int .i64 0] 50)) _ _ _ (by simp)
  have HOP5 : Hid (((X.alloc (.cells #[.int .i64 0, .int .i64 0, .int .i64 0, .int .i64 0] 50)).alloc (.cells #[.int .i64 o, .int .i64 r, .int .i64 wo, .int .i64 ph] 50)).heap[B0]? = some (.cells #[.int .i64 o, .int .i64 r, .int .i64 wo, .int .i64 ph] 50 (0, 0))) := row_below HOP.out hb5
  have HTO5 : Hid (((X.alloc (.cells #[.int .i64 0, .int .i64 0, .int .i64 0, .int .i64 0] 50)).alloc (.cells #[.int .i64 o, .int .i64 r, .int .i64 wo, .int .i64 ph] 50)).heap[B1]? = some (.cells #[.int .i64 u] 3 (0, 0))) := row_below HTO.out hb5
  have HTB5 : Hid (TBx ((X.alloc (.cells #[.int .i64 0, .int .i64 0, .int .i64 0, .int .i64 0] 50)).alloc (.cells #[.int .i64 o, .int .i64 r, .int .i64 wo, .int .i64 ph] 50)) B2 t a) := HTB.out.below hb5
  have H35 : Hid (((X.alloc (.cells #[.int .i64 0, .int .i64 0, .int .i64 0, .int .i64 0] 50)).alloc (.cells #[.int .i64 o, .int .i64 r, .int .i64 wo, .int .i64 ph] 50)).heap[X.heap.size]? = some (.cells #[.int .i64 0, .int .i64 0, .int .i64 0, .int .i64 0] 50 (0, 0))) := row_below H3.out hb5
  have HT5 : Hid (Turn B0 X ((X.alloc (.cells #[.int .i64 0, .int .i64 0, .int .i64 0, .int .i64 0] 50)).alloc (.cells #[.int .i64 o, .int .i64 r, .int .i64 wo, .int .i64 ph] 50))) := HT.out.alloc _
  have HN5 : Hid (X.heap.size < X.heap.size + 1) := Nat.lt_succ_self _
  clear hb5 HTO HTB H3 HT HBX HX3
  have k51 : ((X.alloc (.cells #[.int .i64 0, .int .i64 0, .int .i64 0, .int .i64 0] 50)).alloc (.cells #[.int .i64 o, .int .i64 r, .int .i64 wo, .int .i64 ph] 50)).cell? ⟨X.heap.size + 1, 1, none⟩ = some (.int .i64 r) := row_cell H5.out 1 _ rfl
  go_enter Tryz.func83, Tryz.ntmps83
  go_wp2_with (first | (refine wpList_load_row rfl 50 (.tmp 0) rfl B0 rfl 50 (#[.int .i64 o, .int .i64 r, .int .i64 wo, .int .i64 ph]) (0, 0) _ HOP.out Tryz.underlying50 rfl (by kernel_rfl) ?_) | (refine wpList_load_row rfl 33 (.tmp 2) rfl B2 rfl 33 (tbA t a) (0, 0) _ HTB5.out Tryz.underlying33 rfl (by kernel_rfl) ?_) | fail)
  refine Calls.mono (HRF.out r _ (by omega) (by omega) HT5.out) ?_
  rintro e w4 ⟨r', rfl, hrt', hb4⟩
  have HRT4 : Hid (RT t r r') := hrt'
  have HOP4 : Hid (w4.heap[B0]? = some (.cells #[.int .i64 o, .int .i64 r, .int .i64 wo, .int .i64 ph] 50 (0, 0))) := row_below HOP5.out hb4
  have HS1 : Hid ((w4.setRow B0 #[.int .i64 r, .int .i64 r', .int .i64 (whoV t (r % t.maj)), .int .i64 (phaseV t (r % t.maj))]).heap[B0]? = some (.cells #[.int .i64 r, .int .i64 r', .int .i64 (whoV t (r % t.maj)), .int .i64 (phaseV t (r % t.maj))] 50 (0, 0))) := setRow_heap _ _ _ _ _ _ HOP4.out
  have HS2 : Hid ((w4.setRow B0 #[.int .i64 r, .int .i64 r', .int .i64 (whoV t (r % t.maj)), .int .i64 (phaseV t (r % t.maj))]).heap[B1]? = some (.cells #[.int .i64 u] 3 (0, 0))) := (setRow_other _ _ _ _ (fun e => HNN.out.1 e.symm)).trans (row_below HTO5.out hb4)
  have HS3 : Hid ((w4.setRow B0 #[.int .i64 r, .int .i64 r', .int .i64 (whoV t (r % t.maj)), .int .i64 (phaseV t (r % t.maj))]).heap[B2]? = some (.cells (tbA t a) 33 (0, 0))) := (setRow_other _ _ _ _ (fun e => HNN.out.2 e.symm)).trans (HTB5.out.below hb4)
  have HS4 : Hid ((w4.setRow B0 #[.int .i64 r, .int .i64 r', .int .i64 (whoV t (r % t.maj)), .int .i64 (phaseV t (r % t.maj))]).heap[X.heap.size + 1]? = some (.cells #[.int .i64 o, .int .i64 r, .int .i64 wo, .int .i64 ph] 50 (0, 0))) := (setRow_other _ _ _ _ (by have := HLT.out.1; have := HN5.out; omega)).trans (row_below H5.out hb4)
  have HS5 : Hid ((w4.setRow B0 #[.int .i64 r, .int .i64 r', .int .i64 (whoV t (r % t.maj)), .int .i64 (phaseV t (r % t.maj))]).heap[X.heap.size]? = some (.cells #[.int .i64 0, .int .i64 0, .int .i64 0, .int .i64 0] 50 (0, 0))) := (setRow_other _ _ _ _ (by have := HLT.out.1; omega)).trans (row_below H35.out hb4)
  have HST : Hid (Turn B0 X (w4.setRow B0 #[.int .i64 r, .int .i64 r', .int .i64 (whoV t (r % t.maj)), .int .i64 (phaseV t (r % t.maj))])) := (HT5.out.trans (Turn.of_below hb4)).setRow _
  clear hrt' hb4 H5 HOP5 HTO5 HTB5 H35 HT5 k51 HOP k0 k1
  obtain ⟨V6, HV6⟩ : ∃ V, Hid (w4.setRow B0 #[.int .i64 r, .int .i64 r', .int .i64 (whoV t (r % t.maj)), .int .i64 (phaseV t (r % t.maj))] = V) := ⟨_, rfl⟩
  rw [HV6.out] at HS1 HS2 HS3 HS4 HS5 HST
  have k61 : V6.cell? ⟨X.heap.size + 1, 1, none⟩ = some (.int .i64 r) := row_cell HS4.out 1 _ rfl
  have f61 := row_free HS4.out 1
  have k6u : V6.cell? ⟨B1, 0, none⟩ = some (.int .i64 u) := row_cell HS2.out 0 _ rfl
  have HU1 : Hid ((V6.setCell ⟨X.heap.size + 1, 1, none⟩ (.int .i64 (min r u))).heap[X.heap.size + 1]? = some (.cells #[.int .i64 o, .int .i64 (min r u), .int .i64 wo, .int .i64 ph] 50 (0, 0))) := r3_set HS4.out 1 _ rfl
  have HU2 : Hid ((V6.setCell ⟨X.heap.size + 1, 1, none⟩ (.int .i64 (min r u))).heap[X.heap.size]? = some (.cells #[.int .i64 0, .int .i64 0, .int .i64 0, .int .i64 0] 50 (0, 0))) := row_other HS5.out (by have := HN5.out; omega)
  have HN6 : Hid (B0 ≠ X.heap.size + 1 ∧ B1 ≠ X.heap.size + 1 ∧ B2 ≠ X.heap.size + 1 ∧ B0 ≠ X.heap.size ∧ B1 ≠ X.heap.size ∧ B2 ≠ X.heap.size) := by have := HLT.out; have := HN5.out; refine ⟨?_, ?_, ?_, ?_, ?_, ?_⟩ <;> omega
  have HU3 : Hid ((V6.setCell ⟨X.heap.size + 1, 1, none⟩ (.int .i64 (min r u))).heap[B0]? = some (.cells #[.int .i64 r, .int .i64 r', .int .i64 (whoV t (r % t.maj)), .int .i64 (phaseV t (r % t.maj))] 50 (0, 0))) := row_other HS1.out HN6.out.1
  have HU4 : Hid ((V6.setCell ⟨X.heap.size + 1, 1, none⟩ (.int .i64 (min r u))).heap[B1]? = some (.cells #[.int .i64 u] 3 (0, 0))) := row_other HS2.out HN6.out.2.1
  have HU5 : Hid ((V6.setCell ⟨X.heap.size + 1, 1, none⟩ (.int .i64 (min r u))).heap[B2]? = some (.cells (tbA t a) 33 (0, 0))) := row_other HS3.out HN6.out.2.2.1
  have HUT : Hid (Turn B0 X (V6.setCell ⟨X.heap.size + 1, 1, none⟩ (.int .i64 (min r u)))) := ⟨HST.out.os, HST.out.tape, HST.out.output, Nat.le_trans HST.out.size (by simp [World.setCell]), fun k hk hn => (Below.heap_setCell _ _ _ _ (by show k ≠ X.heap.size + 1; omega)).trans (HST.out.block k hk hn)⟩
  go_wp2_with (first | ((refine wpList_store_row rfl 50 (.tmp 0) (.tmp 15) rfl B0 (#[.int .i64 r, .int .i64 r', .int .i64 (whoV t (r % t.maj)), .int .i64 (phaseV t (r % t.maj))]) rfl rfl 50 (#[.int .i64 o, .int .i64 r, .int .i64 wo, .int .i64 ph]) HOP4.out (by kernel_rfl) rfl (by simp [Value.oneCell']) ?_); rw [HV6.out]) | (refine wpList_load_row rfl 50 (.tmp 5) rfl (X.heap.size + 1) rfl 50 (#[.int .i64 o, .int .i64 (min r u), .int .i64 wo, .int .i64 ph]) (0, 0) _ HU1.out Tryz.underlying50 rfl (by kernel_rfl) ?_) | (refine wpList_store_row rfl 50 (.tmp 3) (.tmp 21) rfl X.heap.size (#[.int .i64 o, .int .i64 (min r u), .int .i64 wo, .int .i64 ph]) rfl rfl 50 (#[.int .i64 0, .int .i64 0, .int .i64 0, .int .i64 0]) HU2.out (by kernel_rfl) rfl (by simp [Value.oneCell']) ?_) | fail)
  refine bodyPost_ret (v := .tuple #[.agg #[.int .i64 o, .int .i64 (min r u), .int .i64 wo, .int .i64 ph], .bool true]) (res_next (setRow_heap _ _ _ _ _ _ HU2.out) rfl rfl rfl) rfl ?_
  refine Or.inr ⟨hou, r', rfl, ?_, ?_⟩
  · exact ⟨HUT.out.os, HUT.out.tape, HUT.out.output, Nat.le_trans HUT.out.size (by simp [World.setRow]), fun k hk hn => (setRow_other _ _ _ _ (by omega)).trans (HUT.out.block k hk hn)⟩
  · exact ⟨(setRow_other _ _ _ _ HN6.out.2.2.2.1).trans HU3.out, (setRow_other _ _ _ _ HN6.out.2.2.2.2.1).trans HU4.out, (setRow_other _ _ _ _ HN6.out.2.2.2.2.2).trans HU5.out, HNN.out.1, HNN.out.2, HRT4.out, by omega⟩
end Go.Proofs.YtlomcdgfcocmmaaGreatDoor
namespace Go.Proofs.YtlomcdgfcocmmaaGreatDoor
open Go.ChangeShapes Go.WideShapes Go.ChangeAt Go.RowKit Go.Deep Go.Joins
set_option linter.unusedVariables false

def scells (xs : List saT) : List Value := xs.flatMap saL
theorem scells_len (xs : List saT) : (scells xs).length = xs.length * 4 := by
  induction xs with
  | nil => rfl
  | cons x xs ih => simp only [scells, saL, List.flatMap_cons, List.length_append, List.length_cons, List.length_nil] at ih ⊢; omega
theorem scells_app (xs ys : List saT) : scells (xs ++ ys) = scells xs ++ scells ys := by simp [scells]
theorem scells_at (xs : List saT) (i : Nat) (hi : i < xs.length) (j : Nat) (hj : j < 4) : (scells xs)[i * 4 + j]? = (saL (xs.getD i sa0))[j]? := by
  induction xs generalizing i with
  | nil => simp at hi
  | cons x xs ih =>
    have e : scells (x :: xs) = saL x ++ scells xs := by simp [scells]
    rw [e]
    cases i with
    | zero => rw [Nat.zero_mul, Nat.zero_add, List.getElem?_append_left (by simpa [saL] using hj)]; rfl
    | succ i =>
      rw [List.getElem?_append_right (by simp [saL]; omega), show (i + 1) * 4 + j - (saL x).length = i * 4 + j by simp [saL]; omega]
      exact ih i (by simpa using hi)
theorem scells_news {w : World} {b off : Nat} {xs : List saT} (h : ∀ i, i < xs.length → CellsAt w b (off + i * 4) (saX xs i)) : ∀ j u, (scells xs)[j]? = some u → w.cell? ((⟨b, off, none⟩ : Addr).add j) = some u := fun j u e => by
  rw [add_plain]
  have hj : j < (scells xs).length := by
    rcases Nat.lt_or_ge j (scells xs).length with g | g
    · exact g
    · rw [List.getElem?_eq_none g] at e; cases e
  rw [scells_len] at hj
  have hd : j = j / 4 * 4 + j % 4 := by omega
  have hi : j / 4 < xs.length := by omega
  rw [hd, scells_at xs (j / 4) hi (j % 4) (by omega)] at e
  have := h (j / 4) hi (j % 4) u e
  rw [hd, ← Nat.add_assoc]
  exact this
theorem scells_one (xs : List saT) : ∀ u ∈ scells xs, u.oneCell' = true := by
  intro u hu
  simp only [scells, List.mem_flatMap, saL, List.mem_cons, List.not_mem_nil, or_false] at hu
  obtain ⟨x, _, rfl | rfl | rfl | rfl⟩ := hu <;> rfl
def OwnS (w : World) (base : Nat) (v : Value) (xs : List saT) : Prop := w.ownsRow base 50 4 v xs.length (scells xs)
theorem OwnS.new (w : World) (B : Nat) (hB : B = w.heap.size) : OwnS (w.alloc (.cells #[] 50)) B (.slice (some ⟨B, 0, none⟩) 0 0) [] := by
  subst hB
  exact ⟨rfl, .inr ⟨w.heap.size, 0, #[], rfl, Nat.le_refl _, by show (w.heap.push _)[w.heap.size]? = _; simp, Nat.le_refl _, by simp, rfl, rfl⟩⟩
theorem OwnS.low {w : World} {base b' : Nat} {v : Value} {xs : List saT} (h : OwnS w base v xs) (hle : b' ≤ base) : OwnS w b' v xs := by
  refine ⟨h.1, ?_⟩
  rcases h.2 with hn | ⟨g, cap, cur, e, hb, rest⟩
  · exact .inl hn
  · exact .inr ⟨g, cap, cur, e, by omega, rest⟩
theorem OwnS.block {w : World} {base : Nat} {v : Value} {xs : List saT} (h : OwnS w base v xs) : ∀ k, v.ownBlock = some k → base ≤ k := by
  intro k hk
  rcases h.2 with ⟨h0, h1⟩ | ⟨g, cap, cur, rfl, hb, _⟩
  · rw [h0] at hk; cases hk
  · simp [Value.ownBlock] at hk; omega
theorem OwnS.seg {w : World} {base : Nat} {v : Value} {xs : List saT} (h : OwnS w base v xs) : ∃ a cap, v = .slice a xs.length cap ∧ xs.length ≤ cap ∧ GSeg 4 w a xs.length (saX xs) := by
  rcases h.2 with ⟨h0, h1⟩ | ⟨g, cap, cur, rfl, hb, hg, h1, h2, h3, h4⟩
  · exact ⟨none, 0, by rw [h0, h1], by omega, fun h => absurd h (by omega)⟩
  · have hlt : g < w.heap.size := by
      rcases Nat.lt_or_ge g w.heap.size with hlt | hge
      · exact hlt
      · rw [Array.getElem?_eq_none hge] at hg; cases hg
    refine ⟨_, _, rfl, h1, fun h0 => ⟨g, 0, rfl, hlt, fun i hi j v hj => ?_⟩⟩
    have hj4 : j < 4 := by
      have := (List.getElem?_eq_some_iff.1 hj).1
      simpa [saX, saL] using this
    have e : (scells xs)[i * 4 + j]? = some v := by rw [scells_at xs i hi j hj4]; exact hj
    have hj2 : i * 4 + j < xs.length * 4 := by omega
    rw [← h4, List.getElem?_take, if_pos hj2] at e
    rw [Nat.zero_add]
    have e2 : cur[i * 4 + j]? = some v := by simpa using e
    simp [World.cell?, hg, e2]
theorem ownsS_below {w w' : World} {base : Nat} {e : TypeId} {size : Nat} {v : Value} {n : Nat} {xs : List Value} (h : w.ownsRow base e size v n xs) (hb : Below w.heap.size w w') : w'.ownsRow base e size v n xs := by
  refine ⟨h.1, ?_⟩
  rcases h.2 with hn | ⟨g, cap, cur, e1, h1, hg, rest⟩
  · exact .inl hn
  · have hlt : g < w.heap.size := by
      rcases Nat.lt_or_ge g w.heap.size with hlt | hge
      · exact hlt
      · rw [Array.getElem?_eq_none hge] at hg; cases hg
    exact .inr ⟨g, cap, cur, e1, h1, (hb.block g hlt).trans hg, rest⟩
theorem OwnS.below {w w' : World} {base : Nat} {v : Value} {xs : List saT} (h : OwnS w base v xs) (hb : Below w.heap.size w w') : OwnS w' base v xs := ownsS_below h hb
theorem sa_info' : ∃ i, Tryz.prog.info? 50 = some i ∧ i.zero = some (.agg #[.int .i64 0, .int .i64 0, .int .i64 0, .int .i64 0]) ∧ i.size = 4 ∧ i.bytes = 32 := by
  obtain ⟨i, hi, h⟩ := Option.map_eq_some_iff.1 sa_info
  simp only [Prod.mk.injEq] at h
  exact ⟨i, hi, h.1, h.2.1, h.2.2⟩
/-- A mark. -/
def mkS (K0 : Int) (i : Nat) : saT := (K0 + 4 * (i : Int), K0 + 4 * (i : Int) + 1, K0 + 4 * (i : Int) + 2, K0 + 4 * (i : Int) + 3)
/-- A list of spans in a block of [lo, hi) that may be written. -/
def OS (w : World) (lo hi : Nat) (a : Option Addr) (n : Nat) (X : Nat → List Value) : Prop := WR 4 lo hi w a n ∧ GSeg 4 w a n X
theorem OS.below {w w' : World} {lo hi n : Nat} {a : Option Addr} {X : Nat → List Value} (h : OS w lo hi a n X) (hb : Below w.heap.size w w') : OS w' lo hi a n X := ⟨h.1.below hb, h.2.below hb⟩
theorem OS.mk {w w' : World} {l1 h1 lo hi n : Nat} {a : Option Addr} {X : Nat → List Value} (h : OS w l1 h1 a n X) (g : Mk lo hi w w') (hd : h1 ≤ lo ∨ hi ≤ l1) : OS w' l1 h1 a n X := by
  refine ⟨h.1.mk g, fun h0 => ?_⟩
  obtain ⟨b, off, e, q1, q2, q3, _⟩ := h.1 h0
  obtain ⟨b', off', e', q4, q5⟩ := h.2 h0
  rw [e] at e'
  cases e'
  exact ⟨b, off, e, Nat.lt_of_lt_of_le q3 g.b.size, fun i hin j v hj => (g.b.cell (p := ⟨b, off + i * 4 + j, none⟩) q3 (by show b < lo ∨ hi ≤ b; omega)).trans (q5 i hin j v hj)⟩
theorem OS.wide {w : World} {l1 h1 lo hi n : Nat} {a : Option Addr} {X : Nat → List Value} (h : OS w l1 h1 a n X) (g1 : lo ≤ l1) (g2 : h1 ≤ hi) : OS w lo hi a n X := by
  refine ⟨fun h0 => ?_, h.2⟩
  obtain ⟨b, off, e, q1, q2, q3⟩ := h.1 h0
  exact ⟨b, off, e, by omega, by omega, q3⟩
theorem OwnS.os {w : World} {base : Nat} {v : Value} {xs : List saT} (h : OwnS w base v xs) : ∃ a cap, v = .slice a xs.length cap ∧ OS w base w.heap.size a xs.length (saX xs) := by
  obtain ⟨a, cap, e, hc, hs⟩ := h.seg
  refine ⟨a, cap, e, fun h0 => ?_, hs⟩
  rcases h.2 with ⟨h1, h2⟩ | ⟨g, cap', cur, e', hb, hg, h1, h2, h3, h4⟩
  · omega
  · rw [e'] at e
    injection e with e1 e2 e3
    subst e1
    have hlt : g < w.heap.size := by
      rcases Nat.lt_or_ge g w.heap.size with hlt | hge
      · exact hlt
      · rw [Array.getElem?_eq_none hge] at hg; cases hg
    obtain ⟨b, off, eb, q4, q5⟩ := hs h0
    cases eb
    refine ⟨g, 0, rfl, hb, hlt, hlt, fun i j hi hj => ?_, fun j => by simp [World.frozen?, hg]⟩
    have hl : j < (saX xs i).length := by simpa [saX, saL] using hj
    exact ⟨_, q5 i hi j _ (List.getElem?_eq_getElem hl)⟩
theorem GBlk.os {w : World} {B n : Nat} {xs : List saT} (h : GBlk 4 w B n n (saX xs)) (lo : Nat) (hl : lo ≤ B) : OS w lo w.heap.size (some ⟨B, 0, none⟩) n (saX xs) := by
  refine ⟨fun _ => ⟨B, 0, rfl, hl, h.lt, h.lt, fun i j hi hj => ?_, h.free⟩, h.seg⟩
  rw [Nat.zero_add]
  exact h.room i hi j hj
theorem OwnS.snoc {w : World} {base g cap : Nat} {xs : List saT} {x : saT} (h : w.ownsRow base 50 4 (.slice (some ⟨g, 0, none⟩) (xs.length + 1) cap) (xs.length + 1) (scells xs ++ saL x)) :
    OwnS w base (.slice (some ⟨g, 0, none⟩) (xs.length + 1) cap) (xs ++ [x]) := by
  unfold OwnS
  rw [scells_app, List.length_append]
  have : scells [x] = saL x := by simp [scells]
  rw [this]
  exact h
theorem scells_set (D : List saT) (x : saT) (v : Int) : (scells (D ++ [x])).set (D.length * 4 + 1) (.int .i64 v) = scells (D ++ [(x.1, v, x.2.2.1, x.2.2.2)]) := by
  rw [scells_app, scells_app, List.set_append_right _ _ (by rw [scells_len]; omega), scells_len, show D.length * 4 + 1 - D.length * 4 = 1 by omega]
  simp [scells, saL]
theorem OwnS.set1 {W : World} {base g cap m : Nat} {D : List saT} {x : saT} (h : OwnS W base (.slice (some ⟨g, 0, none⟩) m cap) (D ++ [x])) (v : Int) :
    W.frozen? ⟨g, D.length * 4 + 1, none⟩ = false ∧ W.cell? ⟨g, D.length * 4 + 1, none⟩ = some (.int .i64 x.2.1) ∧ W.cell? ⟨g, D.length * 4 + 3, none⟩ = some (.int .i64 x.2.2.2) ∧ OwnS (W.setCell ⟨g, D.length * 4 + 1, none⟩ (.int .i64 v)) base (.slice (some ⟨g, 0, none⟩) m cap) (D ++ [(x.1, v, x.2.2.1, x.2.2.2)]) := by
  have hl : (D ++ [x]).length = D.length + 1 := by simp
  obtain ⟨a, cap', e, hcp, hs⟩ := h.seg
  injection e with e1 e2 e3
  subst e1
  obtain ⟨b, off, eb, hlt, hc⟩ := hs (by omega)
  cases eb
  have hx : saX (D ++ [x]) D.length = saL x := by simp [saX, List.getD]
  have hcx := hc D.length (by omega)
  rw [hx, Nat.zero_add] at hcx
  have q1 := hcx 1 _ rfl
  have q3 := hcx 3 _ rfl
  rcases h.2 with ⟨h1, h2⟩ | ⟨g', cap2, cur, e', hb, hg, h1, h2, h3, h4⟩
  · omega
  · injection e' with e1 e2 e3
    cases e1
    refine ⟨by simp [World.frozen?, hg], q1, q3, ?_, .inr ⟨g, cap2, cur.setIfInBounds (D.length * 4 + 1) (.int .i64 v), ?_, hb, ?_, ?_, h2, by simp [h3], ?_⟩⟩
    · rw [scells_len]
    · rw [e2, e3, hl]; simp
    · rw [setCell_eq_setRow W g (D.length * 4 + 1) cur 50 (0, 0) _ hg, setRow_heap W g _ _ 50 (0, 0) hg]
    · simp only [List.length_append, List.length_cons, List.length_nil] at h1 ⊢; exact h1
    · rw [Array.toList_setIfInBounds, List.take_set]
      have : (D ++ [(x.1, v, x.2.2.1, x.2.2.2)]).length = (D ++ [x]).length := by simp
      rw [this, h4, scells_set]
end Go.Proofs.YtlomcdgfcocmmaaGreatDoor
namespace Go.Proofs.YtlomcdgfcocmmaaGreatDoor
open Go.ChangeShapes Go.WideShapes Go.ChangeAt Go.RowKit Go.Deep Go.Joins
set_option linter.unusedVariables false

set_option maxRecDepth 40000 in
set_option maxHeartbeats 4000000 in
theorem spans_of (t : Tb) (a : Ad) (f u : Int) (w : World) (hm : TM 0 w t a) (hw : TW t a) (hs : TS a) (hcs : a.sn ≤ a.sc) (ht : Tm t) (h0 : 0 ≤ f) (h1 : f ≤ 50000) :
    Calls Tryz.prog 50 #[tbV t a, .int .i64 f, .int .i64 u] w fun e w' => ∃ (r : Int) (B0 B1 B2 : Nat), e = .returned (.func (.func 83) #[] #[.pointer (some ⟨B0, 0, none⟩), .pointer (some ⟨B1, 0, none⟩), .pointer (some ⟨B2, 0, none⟩)]) ∧ Itr w' t a B0 B1 B2 f r u ∧ (w.heap.size ≤ B0 ∧ w.heap.size ≤ B1 ∧ w.heap.size ≤ B2) ∧ Below w.heap.size w w' := by
  have hb1 : Below w.heap.size w (w.alloc (.cells (tbA t a) 33)) := (Below.refl _ _).alloc (Nat.le_refl _) _
  have HB : Hid (Below w.heap.size w ((w.alloc (.cells (tbA t a) 33)).alloc (.cells #[.int .i64 u] 3))) := hb1.alloc (by simp) _
  have HX : Hid (TBx ((w.alloc (.cells (tbA t a) 33)).alloc (.cells #[.int .i64 u] 3)) w.heap.size t a) := (TBx.new w t a _ rfl).below ((Below.refl _ _).alloc (Nat.le_refl _) _)
  have H1 : Hid (((w.alloc (.cells (tbA t a) 33)).alloc (.cells #[.int .i64 u] 3)).heap[w.heap.size + 1]? = some (.cells #[.int .i64 u] 3 (0, 0))) := new_row _ _ _ _ (by simp)
  have HRF : Hid (Calls Tryz.prog 82 #[tbV t a, .int .i64 f] ((w.alloc (.cells (tbA t a) 33)).alloc (.cells #[.int .i64 u] 3)) fun e w' => ∃ r, e = .returned (.agg #[.int .i64 f, .int .i64 r, .int .i64 (whoV t (f % t.maj)), .int .i64 (phaseV t (f % t.maj))]) ∧ RT t f r ∧ Below ((w.alloc (.cells (tbA t a) 33)).alloc (.cells #[.int .i64 u] 3)).heap.size ((w.alloc (.cells (tbA t a) 33)).alloc (.cells #[.int .i64 u] 3)) w') := rest_from t a f ((w.alloc (.cells (tbA t a) 33)).alloc (.cells #[.int .i64 u] 3)) (hm.below HB.out) hw hs hcs ht h0 (by omega)
  have hH0 : 0 ≤ f := h0
  clear hm hw hs hcs ht hb1
  go_enter Tryz.func50, Tryz.ntmps50
  go_wp2_with (first | (refine wpList_load_row rfl 33 (.tmp 3) rfl w.heap.size rfl 33 (tbA t a) (0, 0) _ HX.out Tryz.underlying33 rfl (by kernel_rfl) ?_) | fail)
  refine Calls.mono HRF.out ?_
  rintro e w2 ⟨r, rfl, hr, hb2⟩
  have HB2 : Hid (Below w.heap.size w w2) := HB.out.trans (hb2.mono HB.out.size)
  have HX2 : Hid (TBx w2 w.heap.size t a) := HX.out.below hb2
  have H12 : Hid (w2.heap[w.heap.size + 1]? = some (.cells #[.int .i64 u] 3 (0, 0))) := row_below H1.out hb2
  clear hb2 HB HX H1 HRF
  have hb3 : Below w2.heap.size w2 (w2.alloc (.cells (spV t f r) 50)) := (Below.refl _ _).alloc (Nat.le_refl _) _
  have HLE : Hid (w.heap.size + 1 < w2.heap.size) := row_lt H12.out
  go_wp2
  go_ret
  have hle := HLE.out
  exact ⟨r, w2.heap.size, w.heap.size + 1, w.heap.size, rfl, ⟨new_row w2 _ _ _ rfl, row_below H12.out hb3, HX2.out.below hb3, by omega, by omega, hr, hH0⟩, ⟨by omega, by omega, by omega⟩, HB2.out.trans (hb3.mono HB2.out.size)⟩
theorem e_sp1 : ∀ args (v : World), (callFunc 83 args).run Tryz.prog v = .ok (.enter 83 args) v := enters_of Tryz.func83 (by kernel_rfl) rfl
theorem OwnS.gl {w : World} {base g cap m : Nat} {xs : List saT} (h : OwnS w base (.slice (some ⟨g, 0, none⟩) m cap) xs) : g < w.heap.size ∧ base ≤ g := by
  rcases h.2 with ⟨h0, h1⟩ | ⟨g', cap', cur, e, hb, hg, _⟩
  · cases h0
  · injection e with e1 e2 e3
    injection e1 with e1
    injection e1 with e1
    subst e1
    refine ⟨?_, hb⟩
    rcases Nat.lt_or_ge g w.heap.size with hlt | hge
    · exact hlt
    · rw [Array.getElem?_eq_none hge] at hg; cases hg
theorem ownsS_block {W X : World} {base g cap m : Nat} {xs : List saT} (h : OwnS W base (.slice (some ⟨g, 0, none⟩) m cap) xs) (hb : X.heap[g]? = W.heap[g]?) : OwnS X base (.slice (some ⟨g, 0, none⟩) m cap) xs := by
  refine ⟨h.1, ?_⟩
  rcases h.2 with ⟨h0, _⟩ | ⟨g', cap', cur, e, h1, hg, rest⟩
  · cases h0
  · have e' := e
    injection e with e1 e2 e3
    injection e1 with e1
    injection e1 with e1
    subst e1
    exact .inr ⟨g, cap', cur, e', h1, hb.trans hg, rest⟩
theorem sa_new (w : World) (x : saT) (B : Nat) (hB : B = w.heap.size) : ∀ j u, (saL x)[j]? = some u → (w.alloc (.cells #[.int .i64 x.1, .int .i64 x.2.1, .int .i64 x.2.2.1, .int .i64 x.2.2.2] 50)).cell? ((⟨B, 0, none⟩ : Addr).add j) = some u := fun j u h => by
  subst hB
  rw [add_plain]
  exact CellsAt.new w (saL x) 50 w.heap.size rfl j u h
theorem sa_one (y1 y2 y3 y4 : Int) : ∀ u ∈ [Value.int .i64 y1, .int .i64 y2, .int .i64 y3, .int .i64 y4], u.oneCell' = true := by
  intro u hu
  simp only [List.mem_cons, List.not_mem_nil, or_false] at hu
  obtain rfl | rfl | rfl | rfl := hu <;> rfl
/-- The answer: nothing, or the spans. -/
def SPok (t : Tb) (f u : Int) : Prop := Sd t ∧ IsC f ∧ IsC u ∧ 1 ≤ u - f ∧ u - f ≤ 5000
noncomputable instance (t : Tb) (f u : Int) : Decidable (SPok t f u) := Classical.propDecidable _
noncomputable def spAll (t : Tb) (f u : Int) : List saT := if SPok t f u then spL t f (u - f).toNat else []
theorem is_count (n most : Int) (w : World) : Calls Tryz.prog 49 #[.int .i64 n, .int .i64 most] w fun e w' => e = .returned (.bool (inr n 1 most)) ∧ w' = w := by
  by_cases h1 : 1 ≤ n
  · by_cases h2 : n ≤ most
    · rw [inr_yes ⟨h1, h2⟩]
      go_enter Tryz.func49, Tryz.ntmps49
      go_wp2
      go_ret
      exact ⟨rfl, rfl⟩
    · rw [inr_no (fun g => h2 g.2)]
      go_enter Tryz.func49, Tryz.ntmps49
      go_wp2
      go_ret
      exact ⟨rfl, rfl⟩
  · rw [inr_no (fun g => h1 g.1)]
    go_enter Tryz.func49, Tryz.ntmps49
    go_wp2
    go_ret
    exact ⟨rfl, rfl⟩
theorem scells_sing (x : saT) : scells [x] = saL x := by simp [scells]
def cint (W : World) (B : Nat) : Int := match W.cell? ⟨B, 0, none⟩ with
  | some (.int _ x) => x
  | _ => 0
theorem cint_eq {W : World} {B : Nat} {k : IntKind} {x : Int} (h : W.cell? ⟨B, 0, none⟩ = some (.int k x)) : cint W B = x := by unfold cint; rw [h]
def bone : Value → Nat
  | .bool true => 1
  | _ => 0
/-- The loop's state. -/
structure LS (w wr : World) (t : Tb) (a : Ad) (f u : Int) (B0 B1 B2 g m cap Nb : Nat) (b : Bool) (o r : Int) (L : List saT) : Prop where
  bw : Below w.heap.size w wr
  it : Itr wr t a B0 B1 B2 o r u
  ow : OwnS wr (w.heap.size + 1) (.slice (some ⟨g, 0, none⟩) m cap) L
  ln : L.length = m
  nb : w.heap.size < Nb ∧ Nb < wr.heap.size ∧ Nb ≠ B0 ∧ Nb ≠ B1 ∧ Nb ≠ B2
  ng : g ≠ B0 ∧ g ≠ B1 ∧ g ≠ B2 ∧ g ≠ Nb
  st : (b = true ∧ ∃ k : Nat, wr.heap[Nb]? = some (.cells (spV t (f + (k : Int)) (min o u)) 50 (0, 0)) ∧ f + (k : Int) < u ∧ RT t (f + (k : Int)) o ∧ ¬ (k ≠ 0 ∧ Same t (f + (k : Int))) ∧ L = spL t f k) ∨ (b = false ∧ L = spL t f (u - f).toNat)
theorem ls_app {w wr w9 : World} {t : Tb} {a : Ad} {f u o r : Int} {B0 B1 B2 g m cap Nb gg cap1 : Nat} {b : Bool} {L : List saT} {lit : Array Value} {x : saT} (h : LS w wr t a f u B0 B1 B2 g m cap Nb b o r L)
    (h1 : w9.ownsRow (w.heap.size + 1) 50 4 (.slice (some ⟨gg, 0, none⟩) (m + 1) cap1) (m + 1) (scells L ++ saL x)) (h2 : (wr.alloc (.cells lit 50)).grownBy w9 (Value.slice (some ⟨g, 0, none⟩) m cap).ownBlock)
    (h3 : (Value.slice (some ⟨g, 0, none⟩) m cap).ownBlock = some gg ∨ gg = (wr.alloc (.cells lit 50)).heap.size) :
    OwnS w9 (w.heap.size + 1) (.slice (some ⟨gg, 0, none⟩) (m + 1) cap1) (L ++ [x]) ∧ Below w.heap.size w w9 ∧ Itr w9 t a B0 B1 B2 o r u ∧ w9.heap[Nb]? = wr.heap[Nb]? ∧ (gg ≠ B0 ∧ gg ≠ B1 ∧ gg ≠ B2) ∧ (gg < w9.heap.size ∧ wr.heap.size ≤ w9.heap.size) := by
  have hal : Below wr.heap.size wr (wr.alloc (.cells lit 50)) := (Below.refl _ _).alloc (Nat.le_refl _) _
  have hgl := h.ow.gl
  have hln := h.ln
  have hblk : ∀ k, k < wr.heap.size → k ≠ g → w9.heap[k]? = wr.heap[k]? := fun k hk hn => (h2.block k (Nat.lt_of_lt_of_le hk hal.size) (by simp [Value.ownBlock]; exact hn)).trans (hal.block k hk)
  have hi0 := row_lt h.it.op
  have hi1 := row_lt h.it.to
  have hi2 : B2 < wr.heap.size := h.it.tb.lt
  have hsz : wr.heap.size < w9.heap.size := by have := h2.size; simp at this; omega
  have ho : OwnS w9 (w.heap.size + 1) (.slice (some ⟨gg, 0, none⟩) (m + 1) cap1) (L ++ [x]) := by
    subst hln
    unfold OwnS
    rw [scells_app, List.length_append, scells_sing]
    exact h1
  refine ⟨ho, ?_, h.it.grown (fun k hk => ?_), hblk Nb h.nb.2.1 (fun e => h.ng.2.2.2 e.symm), ?_, ho.gl.1, by omega⟩
  · exact ⟨h2.os.trans (hal.os.trans h.bw.os), h2.tape.trans (hal.tape.trans h.bw.tape), h2.output.trans (hal.output.trans h.bw.output), by have := h.bw.size; omega, fun k hk => (hblk k (Nat.lt_of_lt_of_le hk h.bw.size) (by omega)).trans (h.bw.block k hk)⟩
  · rcases hk with rfl | rfl | rfl
    · exact hblk _ hi0 (fun e => h.ng.1 e.symm)
    · exact hblk _ hi1 (fun e => h.ng.2.1 e.symm)
    · exact hblk _ hi2 (fun e => h.ng.2.2.1 e.symm)
  · rcases h3 with h3 | h3
    · have : gg = g := by simpa [Value.ownBlock, eq_comm] using h3
      rw [this]; exact ⟨h.ng.1, h.ng.2.1, h.ng.2.2.1⟩
    · simp at h3; exact ⟨by omega, by omega, by omega⟩
/-- A round's end: the open span is closed and nothing is behind it. -/
theorem ls_end {w wr w9 X w' : World} {t : Tb} {a : Ad} {f u o r : Int} {B0 B1 B2 g m cap Nb gg cap1 k : Nat} {L : List saT} {cs : Array Value} (h : LS w wr t a f u B0 B1 B2 g m cap Nb true o r L)
    (hk : f + (k : Int) < u ∧ RT t (f + (k : Int)) o ∧ ¬ (k ≠ 0 ∧ Same t (f + (k : Int))) ∧ L = spL t f k) (hc : u ≤ o)
    (h1 : OwnS w9 (w.heap.size + 1) (.slice (some ⟨gg, 0, none⟩) (m + 1) cap1) (L ++ [(f + (k : Int), min o u, whoV t ((f + (k : Int)) % t.maj), phaseV t ((f + (k : Int)) % t.maj))])) (h2 : Below w.heap.size w w9) (h3 : Itr w9 t a B0 B1 B2 o r u) (h4 : gg ≠ B0 ∧ gg ≠ B1 ∧ gg ≠ B2) (h5 : gg < w9.heap.size ∧ wr.heap.size ≤ w9.heap.size)
    (hX : X = w9.alloc (.cells cs 50)) (hb : Below X.heap.size X w') : LS w (w'.setRow w9.heap.size #[.int .i64 0, .int .i64 0, .int .i64 0, .int .i64 0]) t a f u B0 B1 B2 gg (m + 1) cap1 w9.heap.size false o r (spL t f (u - f).toNat) := by
  have hl := h.ln
  have hi0 := row_lt h3.op
  have hi1 := row_lt h3.to
  have hi2 : B2 < w9.heap.size := h3.tb.lt
  have hal : Below w9.heap.size w9 X := by rw [hX]; exact (Below.refl _ _).alloc (Nat.le_refl _) _
  have hXs : X.heap.size = w9.heap.size + 1 := by rw [hX]; simp
  have hb9 : Below w9.heap.size w9 w' := hal.trans (hb.mono hal.size)
  have hL : L ++ [(f + (k : Int), min o u, whoV t ((f + (k : Int)) % t.maj), phaseV t ((f + (k : Int)) % t.maj))] = spL t f (u - f).toNat := by
    have e : (u - f).toNat = k + (u - (f + (k : Int))).toNat := by omega
    rw [e, spL_run hk.2.1 hk.2.2.1 _ (by omega) (by omega), hk.2.2.2]
    congr 4
    omega
  have hblk : ∀ q, q < w9.heap.size → (w'.setRow w9.heap.size #[.int .i64 0, .int .i64 0, .int .i64 0, .int .i64 0]).heap[q]? = w9.heap[q]? := fun q hq => (setRow_other _ _ _ _ (by omega)).trans (hb9.block q hq)
  have hz : (w'.setRow w9.heap.size #[.int .i64 0, .int .i64 0, .int .i64 0, .int .i64 0]).heap.size = w'.heap.size := by simp [World.setRow]
  rw [← hL]
  refine ⟨⟨hb9.os.trans h2.os, hb9.tape.trans h2.tape, hb9.output.trans h2.output, by rw [hz]; have := h2.size; have := hb9.size; omega, fun q hq => (hblk q (Nat.lt_of_lt_of_le hq h2.size)).trans (h2.block q hq)⟩, h3.grown (fun q hq => hblk q (by rcases hq with rfl | rfl | rfl <;> assumption)), ownsS_block h1 (hblk gg h5.1), by simp [hl], ⟨?_, ?_, by omega, by omega, by omega⟩, ⟨h4.1, h4.2.1, h4.2.2, by omega⟩, .inr ⟨rfl, hL⟩⟩
  · have := h.nb; omega
  · rw [hz]; have := hb.size; omega
/-- A round's end: another span is open. -/
theorem ls_more {w wr w9 X w' : World} {t : Tb} {a : Ad} {f u o r r' : Int} {B0 B1 B2 g m cap Nb gg cap1 k : Nat} {L : List saT} {cs : Array Value} (h : LS w wr t a f u B0 B1 B2 g m cap Nb true o r L)
    (hk : f + (k : Int) < u ∧ RT t (f + (k : Int)) o ∧ ¬ (k ≠ 0 ∧ Same t (f + (k : Int))) ∧ L = spL t f k) (hc : o < u) (hBw : w.heap.size < B0)
    (h1 : OwnS w9 (w.heap.size + 1) (.slice (some ⟨gg, 0, none⟩) (m + 1) cap1) (L ++ [(f + (k : Int), min o u, whoV t ((f + (k : Int)) % t.maj), phaseV t ((f + (k : Int)) % t.maj))])) (h2 : Below w.heap.size w w9) (h3 : Itr w9 t a B0 B1 B2 o r u) (h4 : gg ≠ B0 ∧ gg ≠ B1 ∧ gg ≠ B2) (h5 : gg < w9.heap.size ∧ wr.heap.size ≤ w9.heap.size)
    (hX : X = w9.alloc (.cells cs 50)) (hb : Turn B0 X w') (hI : Itr w' t a B0 B1 B2 r r' u) (hrow : w'.heap[w9.heap.size]? = some (.cells cs 50 (0, 0))) : LS w (w'.setRow w9.heap.size (spV t o (min r u))) t a f u B0 B1 B2 gg (m + 1) cap1 w9.heap.size true r r' (spL t f (o - f).toNat) := by
  have hl := h.ln
  have hi0 := row_lt h3.op
  have hi1 := row_lt h3.to
  have hi2 : B2 < w9.heap.size := h3.tb.lt
  have hal : Below w9.heap.size w9 X := by rw [hX]; exact (Below.refl _ _).alloc (Nat.le_refl _) _
  have hXs : X.heap.size = w9.heap.size + 1 := by rw [hX]; simp
  have hmin : min o u = o := by omega
  have hro := hk.2.1.lt
  have e1 : (((o - f).toNat : Nat) : Int) = o - f := by omega
  have e2 : f + (((o - f).toNat : Nat) : Int) = o := by omega
  have hL : L ++ [(f + (k : Int), min o u, whoV t ((f + (k : Int)) % t.maj), phaseV t ((f + (k : Int)) % t.maj))] = spL t f (o - f).toNat := by
    have e : (o - f).toNat = k + (o - (f + (k : Int))).toNat := by omega
    rw [e, spL_run hk.2.1 hk.2.2.1 _ (by omega) (by omega), hk.2.2.2]
    congr 4
    omega
  have hb9 : ∀ q, q < w9.heap.size → q ≠ B0 → w'.heap[q]? = w9.heap[q]? := fun q hq hn => (hb.block q (by omega) hn).trans (hal.block q hq)
  have hz : (w'.setRow w9.heap.size (spV t o (min r u))).heap.size = w'.heap.size := by simp [World.setRow]
  have hbs := hb.size
  rw [← hL]
  refine ⟨⟨hb.os.trans (hal.os.trans h2.os), hb.tape.trans (hal.tape.trans h2.tape), hb.output.trans (hal.output.trans h2.output), by rw [hz]; have := h2.size; omega, fun q hq => (setRow_other _ _ _ _ (by have := h2.size; omega)).trans ((hb9 q (Nat.lt_of_lt_of_le hq h2.size) (by omega)).trans (h2.block q hq))⟩, hI.grown (fun q hq => setRow_other _ _ _ _ (by rcases hq with rfl | rfl | rfl <;> omega)), ownsS_block h1 ((setRow_other _ _ _ _ (by omega)).trans (hb9 gg h5.1 h4.1)), by simp [hl], ⟨?_, ?_, by omega, by omega, by omega⟩, ⟨h4.1, h4.2.1, h4.2.2, by omega⟩, .inl ⟨rfl, (o - f).toNat, ?_, ?_, ?_, ?_, hL⟩⟩
  · have := h.nb; omega
  · rw [hz]; omega
  · rw [e2]; exact setRow_heap _ _ _ _ _ _ hrow
  · omega
  · rw [e2]; exact hI.rt |> fun _ => h3.rt
  · rw [e2]; exact fun g => hk.2.1.en g.2
set_option maxRecDepth 40000 in
set_option maxHeartbeats 16000000 in
theorem impl_spans (t : Tb) (a : Ad) (f u : Int) (w : World) (hm : TM 0 w t a) (hw : TW t a) (hs : TS a) (he : TabE w) (hcp : a.pn ≤ a.pc) (hcs : a.sn ≤ a.sc) :
    Calls Tryz.prog 21 #[tbV t a, .int .i64 f, .int .i64 u] w fun e w' => ∃ v, e = .returned v ∧ OwnS w' (w.heap.size + 1) v (spAll t f u) ∧ Below w.heap.size w w' := by
  obtain ⟨q, hq⟩ := told ((Sd t ∧ IsC f) ∧ IsC u)
  have HB0 : Hid (Below w.heap.size w (w.alloc (.cells (tbA t a) 33))) := (Below.refl _ _).alloc (Nat.le_refl _) _
  have HX0 : Hid (TBx (w.alloc (.cells (tbA t a) 33)) w.heap.size t a) := TBx.new w t a _ rfl
  have hbE : Below (w.alloc (.cells (tbA t a) 33)).heap.size (w.alloc (.cells (tbA t a) 33)) ((w.alloc (.cells (tbA t a) 33)).alloc (.cells #[] 50)) := (Below.refl _ _).alloc (Nat.le_refl _) _
  have HBE : Hid (Below w.heap.size w ((w.alloc (.cells (tbA t a) 33)).alloc (.cells #[] 50))) := HB0.out.trans (hbE.mono HB0.out.size)
  have HXE : Hid (TBx ((w.alloc (.cells (tbA t a) 33)).alloc (.cells #[] 50)) w.heap.size t a) := HX0.out.below hbE
  have HOE : Hid (OwnS ((w.alloc (.cells (tbA t a) 33)).alloc (.cells #[] 50)) (w.heap.size + 1) (.slice (some ⟨w.heap.size + 1, 0, none⟩) 0 0) []) := OwnS.new (w.alloc (.cells (tbA t a) 33)) _ (by simp)
  have hbA : Below ((w.alloc (.cells (tbA t a) 33)).alloc (.cells #[] 50)).heap.size ((w.alloc (.cells (tbA t a) 33)).alloc (.cells #[] 50)) (((w.alloc (.cells (tbA t a) 33)).alloc (.cells #[] 50)).alloc (.cells #[.int .i64 f, .int .i64 u] 3)) := (Below.refl _ _).alloc (Nat.le_refl _) _
  have HBA : Hid (Below w.heap.size w (((w.alloc (.cells (tbA t a) 33)).alloc (.cells #[] 50)).alloc (.cells #[.int .i64 f, .int .i64 u] 3))) := HBE.out.trans (hbA.mono HBE.out.size)
  have HXA : Hid (TBx (((w.alloc (.cells (tbA t a) 33)).alloc (.cells #[] 50)).alloc (.cells #[.int .i64 f, .int .i64 u] 3)) w.heap.size t a) := HXE.out.below hbA
  have HOA : Hid (OwnS (((w.alloc (.cells (tbA t a) 33)).alloc (.cells #[] 50)).alloc (.cells #[.int .i64 f, .int .i64 u] 3)) (w.heap.size + 1) (.slice (some ⟨w.heap.size + 1, 0, none⟩) 0 0) []) := HOE.out.below hbA
  have KA : Hid (GSeg 1 (((w.alloc (.cells (tbA t a) 33)).alloc (.cells #[] 50)).alloc (.cells #[.int .i64 f, .int .i64 u] 3)) (some ⟨w.heap.size + 1 + 1, 0, none⟩) 2 (inX [f, u])) := fun _ => ⟨w.heap.size + 1 + 1, 0, rfl, by simp, fun i hi => by
    have g := CellsAt.new ((w.alloc (.cells (tbA t a) 33)).alloc (.cells #[] 50)) [.int .i64 f, .int .i64 u] 3 (w.heap.size + 1 + 1) (by simp)
    have : i = 0 ∨ i = 1 := by omega
    rcases this with rfl | rfl
    · intro j v hj
      cases j with
      | zero => exact g 0 v hj
      | succ j => simp [inX] at hj
    · intro j v hj
      cases j with
      | zero => exact g 1 v hj
      | succ j => simp [inX] at hj⟩
  have HK : Hid (Calls Tryz.prog 48 #[tbV t a, .slice (some ⟨w.heap.size + 1 + 1, 0, none⟩) 2 2] (((w.alloc (.cells (tbA t a) 33)).alloc (.cells #[] 50)).alloc (.cells #[.int .i64 f, .int .i64 u] 3)) fun e w' => e = .returned (.bool q) ∧ Below (((w.alloc (.cells (tbA t a) 33)).alloc (.cells #[] 50)).alloc (.cells #[.int .i64 f, .int .i64 u] 3)).heap.size (((w.alloc (.cells (tbA t a) 33)).alloc (.cells #[] 50)).alloc (.cells #[.int .i64 f, .int .i64 u] 3)) w') :=
    keeps t a [f, u] 2 2 _ q _ (hm.below HBA.out) hw hs (he.below HBA.out) hcp KA.out (by omega) (hq.trans ⟨fun h => ⟨fun i hi => by
      have : i = 0 ∨ i = 1 := by omega
      rcases this with rfl | rfl
      · exact h.1.2
      · exact h.2, h.1.1⟩, fun h => ⟨⟨h.2, h.1 0 (by omega)⟩, h.1 1 (by omega)⟩⟩)
  have HQ : Hid (q = true ↔ ((Sd t ∧ IsC f) ∧ IsC u)) := hq
  have HNS : Hid (Sd t → u ≤ 50000 → ∀ (o r : Int) (B0 B1 B2 : Nat) (X : World), Itr X t a B0 B1 B2 o r u → Below w.heap.size w X → w.heap.size ≤ B0 → Calls Tryz.prog 83 #[.pointer (some ⟨B0, 0, none⟩), .pointer (some ⟨B1, 0, none⟩), .pointer (some ⟨B2, 0, none⟩)] X fun e w' =>
      (u ≤ o ∧ e = .returned (.tuple #[.agg #[.int .i64 0, .int .i64 0, .int .i64 0, .int .i64 0], .bool false]) ∧ Below X.heap.size X w') ∨
      (o < u ∧ ∃ r', e = .returned (.tuple #[.agg (spV t o (min r u)), .bool true]) ∧ Turn B0 X w' ∧ Itr w' t a B0 B1 B2 r r' u)) := fun h hu o r B0 B1 B2 X hI hX hB => next_span t a o r u B0 B1 B2 w X hI hm hX hB hw hs hcs (sd_tm h) hu
  have HSO : Hid (Sd t → 0 ≤ f → f ≤ 50000 → ∀ X, Below w.heap.size w X → Calls Tryz.prog 50 #[tbV t a, .int .i64 f, .int .i64 u] X fun e w' => ∃ (r : Int) (B0 B1 B2 : Nat), e = .returned (.func (.func 83) #[] #[.pointer (some ⟨B0, 0, none⟩), .pointer (some ⟨B1, 0, none⟩), .pointer (some ⟨B2, 0, none⟩)]) ∧ Itr w' t a B0 B1 B2 f r u ∧ (X.heap.size ≤ B0 ∧ X.heap.size ≤ B1 ∧ X.heap.size ≤ B2) ∧ Below X.heap.size X w') := fun h h0 h1 X hX => spans_of t a f u X (hm.below hX) hw hs hcs (sd_tm h) h0 h1
  clear hm hw hs hq he hcp hcs KA hbA hbE HB0 HX0 HOE
  go_enter Tryz.func21, Tryz.ntmps21
  go_wp2_with (first | (refine wpList_load_row rfl 33 (.tmp 3) rfl w.heap.size rfl 33 (tbA t a) (0, 0) _ HXE.out Tryz.underlying33 rfl (by kernel_rfl) ?_) | fail)
  refine Calls.mono HK.out ?_
  rintro e w1 ⟨rfl, hb1⟩
  have HB1 : Hid (Below w.heap.size w w1) := HBA.out.trans (hb1.mono HBA.out.size)
  have HX1 : Hid (TBx w1 w.heap.size t a) := HXA.out.below hb1
  have HO1 : Hid (OwnS w1 (w.heap.size + 1) (.slice (some ⟨w.heap.size + 1, 0, none⟩) 0 0) []) := HOA.out.below hb1
  clear hb1 HBA HXA HK HOA HBE HXE
  cases q
  · have HT : Hid (spAll t f u = []) := by
      show _ = _
      unfold spAll
      rw [if_neg (fun h => by have := HQ.out.2 ⟨⟨h.1, h.2.1⟩, h.2.2.1⟩; cases this)]
    clear HQ HNS HSO HX1
    go_wp2
    go_ret
    rw [HT.out]
    exact ⟨_, rfl, HO1.out, HB1.out⟩
  have HT : Hid ((Sd t ∧ IsC f) ∧ IsC u) := HQ.out.1 rfl
  clear HQ
  have hy := HT.out.1.2
  have hz := HT.out.2
  unfold IsC at hy hz
  have hwd : IntKind.i64.wrap (u - f) = u - f := by rw [IntKind.wrap_i64]; omega
  have HIC : Hid (∀ X, Calls Tryz.prog 49 #[.int .i64 (u - f), .int .i64 5000] X fun e w' => e = .returned (.bool (inr (u - f) 1 5000)) ∧ w' = X) := fun X => is_count _ _ X
  by_cases hcnt : 1 ≤ u - f ∧ u - f ≤ 5000
  rotate_left
  · have HN : Hid (spAll t f u = []) := by
      show _ = _
      unfold spAll
      rw [if_neg (fun h => hcnt h.2.2.2)]
    rw [inr_no hcnt] at HIC
    clear HNS HSO HX1 hcnt hy hz
    go_wp2_with (first | (go_at_call 49; refine (HIC.out _).mono ?_; rintro u' w2 ⟨rfl, hww⟩; rw [hww]; clear hww) | fail)
    go_ret
    rw [HN.out]
    exact ⟨_, rfl, HO1.out, HB1.out⟩
  rw [inr_yes hcnt] at HIC
  have HAL : Hid (spAll t f u = spL t f (u - f).toNat) := by
    show _ = _
    unfold spAll
    rw [if_pos ⟨HT.out.1.1, HT.out.1.2, HT.out.2, hcnt.1, hcnt.2⟩]
  have HNS' : Hid _ := HNS.out HT.out.1.1 hz.2
  have HSO' : Hid _ := HSO.out HT.out.1.1 hy.1 hy.2
  clear HNS HSO
  go_wp2_with (first | (go_at_call 49; refine (HIC.out _).mono ?_; rintro u' w2 ⟨rfl, hww⟩; rw [hww]; clear hww) | (refine wpList_load_row rfl 33 (.tmp 3) rfl w.heap.size rfl 33 (tbA t a) (0, 0) _ HX1.out Tryz.underlying33 rfl (by kernel_rfl) ?_) | fail)
  refine Calls.mono (HSO'.out _ HB1.out) ?_
  rintro e w2 ⟨r0, B0, B1, B2, rfl, hi2, hbb, hb2⟩
  have hsz1 : w.heap.size + 1 < w1.heap.size := by have := (HO1.out.gl).1; exact this
  have HB2 : Hid (Below w.heap.size w w2) := HB1.out.trans (hb2.mono HB1.out.size)
  have HI2 : Hid (Itr w2 t a B0 B1 B2 f r0 u) := hi2
  have HBB : Hid (w1.heap.size ≤ B0 ∧ w1.heap.size ≤ B1 ∧ w1.heap.size ≤ B2) := hbb
  have HO2 : Hid (OwnS w2 (w.heap.size + 1) (.slice (some ⟨w.heap.size + 1, 0, none⟩) 0 0) []) := HO1.out.below hb2
  clear hb2 hi2 hbb HB1 HX1 HO1 HSO' HIC
  go_wp2_with fail
  refine Calls.mono (HNS'.out f r0 B0 B1 B2 _ HI2.out HB2.out (by have := HBB.out.1; omega)) ?_
  rintro e w3 (⟨h1, _, _⟩ | ⟨h1, r1, rfl, hT, hI⟩)
  · exfalso; omega
  have HLS : Hid (LS w (w3.alloc (.cells (spV t f (min r0 u)) 50)) t a f u B0 B1 B2 (w.heap.size + 1) 0 0 w3.heap.size true r0 r1 []) := by
    have hal : Below w3.heap.size w3 (w3.alloc (.cells (spV t f (min r0 u)) 50)) := (Below.refl _ _).alloc (Nat.le_refl _) _
    have hbw := HB2.out.trans (hT.below (by have := HBB.out.1; omega) HB2.out.size)
    have q0 := row_lt hI.op
    have q1 := row_lt hI.to
    have q2 : B2 < w3.heap.size := hI.tb.lt
    have hBB := HBB.out
    have e0 : f + ((0 : Nat) : Int) = f := by omega
    refine ⟨hbw.trans (hal.mono hbw.size), hI.below hal, ownsS_block HO2.out ((hal.block _ (by have := hbw.size; omega)).trans (hT.block _ (HO2.out.gl).1 (by omega))), rfl, ⟨by omega, by simp, by omega, by omega, by omega⟩, ⟨by omega, by omega, by omega, by omega⟩, .inl ⟨rfl, 0, ?_, ?_, ?_, fun g => g.1 rfl, rfl⟩⟩
    · rw [e0]; exact new_row w3 _ _ _ rfl
    · omega
    · rw [e0]; exact HI2.out.rt
  have HBB2 : Hid (w.heap.size < B0) := by have := HBB.out.1; show _ < _; omega
  clear hT hI HB2 HI2 HBB HO2
  obtain ⟨q3, hq3⟩ : ∃ q, whoV t (f % t.maj) = q := ⟨_, rfl⟩
  obtain ⟨q4, hq4⟩ : ∃ q, phaseV t (f % t.maj) = q := ⟨_, rfl⟩
  have hsv : spV t f (min r0 u) = #[.int .i64 f, .int .i64 (min r0 u), .int .i64 q3, .int .i64 q4] := by unfold spV; rw [hq3, hq4]
  rw [hsv] at HLS ⊢
  clear hsv hq3 hq4
  obtain ⟨ii, hii, hz0', hs0, hb0⟩ := sa_info'
  have HII : Hid (Tryz.prog.info? 50 = some ii ∧ ii.zero = some (.agg #[.int .i64 0, .int .i64 0, .int .i64 0, .int .i64 0]) ∧ ii.size = 4 ∧ ii.bytes = 32) := ⟨hii, hz0', hs0, hb0⟩
  clear hii hz0' hs0 hb0
  go_wp2
  go_loopw [7, 9, 10] (fun v p bb wr => ∃ (m g cap Nb : Nat) (b : Bool) (o r : Int) (L : List saT), v = .slice (some ⟨g, 0, none⟩) m cap ∧ p = .pointer (some ⟨Nb, 0, none⟩) ∧ bb = .bool b ∧ m ≤ 5000 ∧ Hid (LS w wr t a f u B0 B1 B2 g m cap Nb b o r L)) (fun _ _ bb wr => (u - cint wr B0).toNat + bone bb)
  case atStart => exact ⟨0, w.heap.size + 1, 0, w3.heap.size, true, r0, r1, [], rfl, rfl, rfl, by omega, HLS.out⟩
  case round =>
    clear HLS
    obtain ⟨m, g, cap, Nb, b, o, r, L, rfl, rfl, rfl, hm5, HLS⟩ := hrel
    cases b
    · have HLE : Hid (L = spL t f (u - f).toNat) := by
        rcases HLS.out.st with ⟨h, _⟩ | ⟨_, h⟩
        · cases h
        · exact h
      go_wp2
      go_ret
      rw [HAL.out, ← HLE.out]
      exact ⟨_, rfl, HLS.out.ow, HLS.out.bw⟩
    obtain ⟨k, HRW, hku, HKK⟩ : ∃ k : Nat, Hid (wr.heap[Nb]? = some (.cells (spV t (f + (k : Int)) (min o u)) 50 (0, 0))) ∧ f + (k : Int) < u ∧ Hid (f + (k : Int) < u ∧ RT t (f + (k : Int)) o ∧ ¬ (k ≠ 0 ∧ Same t (f + (k : Int))) ∧ L = spL t f k) := by
      rcases HLS.out.st with ⟨_, k, g1, g2⟩ | ⟨h, _⟩
      · exact ⟨k, g1, g2.1, g2⟩
      · cases h
    have hmk : m < 5000 := by
      have h1 := HLS.out.ln
      have h2 := (spL_len t f k).1
      rw [← HKK.out.2.2.2] at h2
      omega
    obtain ⟨y1, HY1⟩ : ∃ y, Hid (f + (k : Int) = y) := ⟨_, rfl⟩
    obtain ⟨y2, HY2⟩ : ∃ y, Hid (min o u = y) := ⟨_, rfl⟩
    obtain ⟨y3, HY3⟩ : ∃ y, Hid (whoV t ((f + (k : Int)) % t.maj) = y) := ⟨_, rfl⟩
    obtain ⟨y4, HY4⟩ : ∃ y, Hid (phaseV t ((f + (k : Int)) % t.maj) = y) := ⟨_, rfl⟩
    have HRW2 : Hid (wr.heap[Nb]? = some (.cells #[.int .i64 y1, .int .i64 y2, .int .i64 y3, .int .i64 y4] 50 (0, 0))) := by
      have := HRW.out
      simp only [spV] at this
      rw [HY2.out, HY3.out, HY4.out, HY1.out] at this
      exact this
    have hln := HLS.out.ln
    have hown : (wr.alloc (.cells #[.int .i64 y1, .int .i64 y2, .int .i64 y3, .int .i64 y4] 50)).ownsRow (w.heap.size + 1) 50 4 (.slice (some ⟨g, 0, none⟩) m cap) m (scells L) := by
      have := HLS.out.ow.below ((Below.refl wr.heap.size wr).alloc (Nat.le_refl _) (.cells #[.int .i64 y1, .int .i64 y2, .int .i64 y3, .int .i64 y4] 50))
      unfold OwnS at this
      rw [hln] at this
      exact this
    have HZk : Hid (∀ (gg cap1 : Nat) (w9 : World), w9.ownsRow (w.heap.size + 1) 50 4 (.slice (some ⟨gg, 0, none⟩) (m + 1) cap1) (m + 1) (scells L ++ [.int .i64 y1, .int .i64 y2, .int .i64 y3, .int .i64 y4]) → (wr.alloc (.cells #[.int .i64 y1, .int .i64 y2, .int .i64 y3, .int .i64 y4] 50)).grownBy w9 (Value.slice (some ⟨g, 0, none⟩) m cap).ownBlock → ((Value.slice (some ⟨g, 0, none⟩) m cap).ownBlock = some gg ∨ gg = (wr.alloc (.cells #[.int .i64 y1, .int .i64 y2, .int .i64 y3, .int .i64 y4] 50)).heap.size) → (OwnS w9 (w.heap.size + 1) (.slice (some ⟨gg, 0, none⟩) (m + 1) cap1) (L ++ [(f + (k : Int), min o u, whoV t ((f + (k : Int)) % t.maj), phaseV t ((f + (k : Int)) % t.maj))]) ∧ Below w.heap.size w w9 ∧ Itr w9 t a B0 B1 B2 o r u ∧ w9.heap[Nb]? = wr.heap[Nb]? ∧ (gg ≠ B0 ∧ gg ≠ B1 ∧ gg ≠ B2) ∧ (gg < w9.heap.size ∧ wr.heap.size ≤ w9.heap.size)) ∧ w9.heap[Nb]? = some (.cells #[.int .i64 y1, .int .i64 y2, .int .i64 y3, .int .i64 y4] 50 (0, 0))) := fun gg cap1 w9 h1 h2 h3 => by
      have := ls_app (x := (y1, y2, y3, y4)) HLS.out h1 h2 h3
      rw [HY2.out, HY3.out, HY4.out, HY1.out]
      exact ⟨this, this.2.2.2.1.trans HRW2.out⟩
    have HMS : Hid (cint wr B0 = o) := cint_eq (row_cell HLS.out.it.op 0 _ rfl)
    have hlow : w.heap.size + 1 ≤ wr.heap.size := by have := HLS.out.ow.gl; omega
    clear HRW hln
    go_wp2_with (first | (refine wpList_load_row rfl 50 (.tmp 9) rfl Nb rfl 50 (#[.int .i64 y1, .int .i64 y2, .int .i64 y3, .int .i64 y4]) (0, 0) _ (HRW2.out) Tryz.underlying50 rfl (by kernel_rfl) ?_) | (at_builtin; (refine wpList_append_lies _ rfl (.tmp 41) (.tmp 43) 45 rfl (w.heap.size + 1) 50 ii (.agg #[.int .i64 0, .int .i64 0, .int .i64 0, .int .i64 0]) 4 32 Tryz.underlying45 HII.out.1 HII.out.2.1 HII.out.2.2.1 HII.out.2.2.2 rfl (by omega) _ _ _ rfl hown _ 1 1 [.int .i64 y1, .int .i64 y2, .int .i64 y3, .int .i64 y4] rfl rfl (sa_new _ (y1, y2, y3, y4) _ (by simp)) (sa_one _ _ _ _) (by omega) (by unfold maxLen; omega) (by omega) (by simp; omega) _ rfl ?_; intro gg cap1 w9 hown1 hgrow hat hlt1; have HY : Hid _ := HZk.out gg cap1 w9 hown1 hgrow hat; clear hown1 hgrow hat hlt1)) | (refine wpList_load_row rfl 50 (.tmp 9) rfl Nb rfl 50 (#[.int .i64 y1, .int .i64 y2, .int .i64 y3, .int .i64 y4]) (0, 0) _ (HY.out.2) Tryz.underlying50 rfl (by kernel_rfl) ?_) | fail)
    have hbX : Below w9.heap.size w9 (w9.alloc (.cells #[.int .i64 y1, .int .i64 y2, .int .i64 y3, .int .i64 y4] 50)) := (Below.refl _ _).alloc (Nat.le_refl _) _
    refine Calls.mono (HNS'.out o r B0 B1 B2 _ (HY.out.1.2.2.1.below hbX) (HY.out.1.2.1.trans (hbX.mono HY.out.1.2.1.size)) (by have := HBB2.out; omega)) ?_
    have HXR : Hid ((w9.alloc (.cells #[.int .i64 y1, .int .i64 y2, .int .i64 y3, .int .i64 y4] 50)).heap[w9.heap.size]? = some (.cells #[.int .i64 y1, .int .i64 y2, .int .i64 y3, .int .i64 y4] 50 (0, 0))) := new_row w9 _ _ _ rfl
    clear hbX hown HZk HRW2
    rintro e w' (⟨h1, rfl, hb⟩ | ⟨h1, r', rfl, hT, hI⟩)
    · have HNX : Hid (LS w (w'.setRow w9.heap.size #[.int .i64 0, .int .i64 0, .int .i64 0, .int .i64 0]) t a f u B0 B1 B2 gg (m + 1) cap1 w9.heap.size false o r (spL t f (u - f).toNat)) := ls_end HLS.out HKK.out h1 HY.out.1.1 HY.out.1.2.1 HY.out.1.2.2.1 HY.out.1.2.2.2.2.1 HY.out.1.2.2.2.2.2 rfl hb
      have HXW : Hid (w'.heap[w9.heap.size]? = some (.cells #[.int .i64 y1, .int .i64 y2, .int .i64 y3, .int .i64 y4] 50 (0, 0))) := row_below HXR.out hb
      have HMN : Hid (cint (w'.setRow w9.heap.size #[.int .i64 0, .int .i64 0, .int .i64 0, .int .i64 0]) B0 = o) := cint_eq (row_cell HNX.out.it.op 0 _ rfl)
      clear hb HXR HY HLS HKK
      go_wp2_with (first | (refine wpList_store_row rfl 50 (.tmp 9) (.tmp 39) rfl w9.heap.size (#[.int .i64 0, .int .i64 0, .int .i64 0, .int .i64 0]) rfl rfl 50 (#[.int .i64 y1, .int .i64 y2, .int .i64 y3, .int .i64 y4]) HXW.out (by kernel_rfl) rfl (by simp [Value.oneCell']) ?_) | fail)
      go_roundw
      case rel => exact ⟨m + 1, gg, cap1, w9.heap.size, false, o, r, _, rfl, rfl, rfl, by omega, HNX.out⟩
      case measure => rw [HMS.out, HMN.out]; simp only [bone]; omega
    · have hXT : (w9.alloc (.cells #[.int .i64 y1, .int .i64 y2, .int .i64 y3, .int .i64 y4] 50)).heap.size = w9.heap.size + 1 := by simp
      have hne : w9.heap.size ≠ B0 := by have := row_lt HY.out.1.2.2.1.op; omega
      have hro : w'.heap[w9.heap.size]? = some (.cells #[.int .i64 y1, .int .i64 y2, .int .i64 y3, .int .i64 y4] 50 (0, 0)) := (hT.block _ (by omega) hne).trans HXR.out
      have HXW : Hid (w'.heap[w9.heap.size]? = some (.cells #[.int .i64 y1, .int .i64 y2, .int .i64 y3, .int .i64 y4] 50 (0, 0))) := hro
      have HNX : Hid (LS w (w'.setRow w9.heap.size (spV t o (min r u))) t a f u B0 B1 B2 gg (m + 1) cap1 w9.heap.size true r r' (spL t f (o - f).toNat)) := ls_more HLS.out HKK.out h1 HBB2.out HY.out.1.1 HY.out.1.2.1 HY.out.1.2.2.1 HY.out.1.2.2.2.2.1 HY.out.1.2.2.2.2.2 rfl hT hI hro
      have HMN : Hid (cint (w'.setRow w9.heap.size (spV t o (min r u))) B0 = r) := cint_eq (row_cell HNX.out.it.op 0 _ rfl)
      have hor : o < r := HLS.out.it.rt.lt
      obtain ⟨q3, hq3⟩ : ∃ q, whoV t (o % t.maj) = q := ⟨_, rfl⟩
      obtain ⟨q4, hq4⟩ : ∃ q, phaseV t (o % t.maj) = q := ⟨_, rfl⟩
      have hsv : spV t o (min r u) = #[.int .i64 o, .int .i64 (min r u), .int .i64 q3, .int .i64 q4] := by unfold spV; rw [hq3, hq4]
      rw [hsv] at HNX HMN ⊢
      clear hT hI HXR HY HLS HKK hro hsv hq3 hq4
      go_wp2_with (first | (refine wpList_store_row rfl 50 (.tmp 9) (.tmp 39) rfl w9.heap.size (#[.int .i64 o, .int .i64 (min r u), .int .i64 q3, .int .i64 q4]) rfl rfl 50 (#[.int .i64 y1, .int .i64 y2, .int .i64 y3, .int .i64 y4]) HXW.out (by kernel_rfl) rfl (by simp [Value.oneCell']) ?_) | fail)
      go_roundw
      case rel => exact ⟨m + 1, gg, cap1, w9.heap.size, true, r, r', _, rfl, rfl, rfl, by omega, HNX.out⟩
      case measure => rw [HMS.out, HMN.out]; simp only [bone]; omega
end Go.Proofs.YtlomcdgfcocmmaaGreatDoor
