
/-
  What Split answers, as plain facts, and Split of the specification. Conditions: the lists lie in memory.
-/
import Derived.Test.YthieilkabcehgaaGreatDoorBas
import Derived.Test.YthieilkabcehgaaGreatDoorScp
import Derived.Test.YthieilkabcehgaaGreatDoorSp6
import Derived.Test.YthieilkabcehgaaGreatDoorTim
namespace Go.Proofs.YthieilkabcehgaaGreatDoor
open Go.ChangeShapes Go.WideShapes Go.ChangeAt Go.RowKit Go.Deep Go.Joins
set_option linter.unusedVariables false

theorem LS.below {k lo hi n : Nat} {w w' : World} {a : Option Addr} {X : Nat → List Value} (h : LS k lo hi w a n X) (hb : Below w.heap.size w w') : LS k lo hi w' a n X := ⟨h.1.below hb, h.2.below hb⟩
theorem KT.below {lo hi : Nat} {w w' : World} {t : Tb} {a : Ad} (h : KT lo hi w t a) (hb : Below w.heap.size w w') : KT lo hi w' t a :=
  ⟨h.p.below hb, h.g, fun i hi => (h.v i hi).below hb, h.d.below hb, h.c.below hb, h.s.below hb⟩
/-- No tables. -/
def tz : Tb := ⟨0, 0, 0, 0, 0, 0, 0, 0, 0, 0, 0, 0, 0, 0, 0, [], [], [], []⟩
def az : Ad := ⟨none, 0, 0, none, 0, 0, none, 0, 0, none, 0, 0, fun _ => ⟨ByteArray.empty, 0, 0, 0, none, 0, 0⟩⟩
theorem kt_zero (lo hi : Nat) (w : World) : KT lo hi w tz az :=
  ⟨⟨fun h => absurd h (Nat.lt_irrefl 0), fun h => absurd h (Nat.lt_irrefl 0)⟩, fun i hi => absurd hi (Nat.not_lt_zero i), fun i hi => absurd hi (Nat.not_lt_zero i), ⟨fun h => absurd h (Nat.lt_irrefl 0), fun h => absurd h (Nat.lt_irrefl 0)⟩, ⟨fun h => absurd h (Nat.lt_irrefl 0), fun h => absurd h (Nat.lt_irrefl 0)⟩, ⟨fun h => absurd h (Nat.lt_irrefl 0), fun h => absurd h (Nat.lt_irrefl 0)⟩⟩
theorem tw_zero : TW tz az := ⟨rfl, rfl, rfl, rfl, by decide, by decide, by decide, by decide, fun i hi => absurd hi (Nat.not_lt_zero i), fun i hi => absurd hi (Nat.not_lt_zero i), fun i hi => absurd hi (Nat.not_lt_zero i)⟩
theorem ts_zero : TS az := ⟨by decide, by decide, by decide, by decide, fun i hi => absurd hi (Nat.not_lt_zero i)⟩
/-- Slot x can be split behind its first f cycles. -/
def CanS (t : Tb) (x f : Int) : Prop := Sd t ∧ (0 ≤ x ∧ x < (t.ss.length : Int)) ∧ t.ss.length < 16 ∧ t.pad + t.grd < f ∧ t.pad + t.grd < (t.ss.getD x.toNat sl0).2.2 - f
/-- The slots behind the split. -/
def splL (ss : List slT) (k : Nat) (f : Int) : List slT := ss.take k ++ [((ss.getD k sl0).1, (ss.getD k sl0).2.1, f), ((ss.getD k sl0).1, (ss.getD k sl0).2.1 + f, (ss.getD k sl0).2.2 - f)] ++ ss.drop (k + 1)
/-- The first m of the list that grows: whole slots, and two for slot k. -/
def splM (ss : List slT) (k : Nat) (f : Int) : Nat → List slT
  | 0 => []
  | m + 1 => splM ss k f m ++ (if m = k then [((ss.getD k sl0).1, (ss.getD k sl0).2.1, f), ((ss.getD k sl0).1, (ss.getD k sl0).2.1 + f, (ss.getD k sl0).2.2 - f)] else [ss.getD m sl0])
theorem splM_len (ss : List slT) (k : Nat) (f : Int) : ∀ m, (splM ss k f m).length = m + (if k < m then 1 else 0)
  | 0 => by simp [splM]
  | m + 1 => by
    rw [splM, List.length_append, splM_len ss k f m]
    by_cases e : m = k
    · subst e
      rw [if_pos rfl, if_neg (Nat.lt_irrefl m), if_pos (Nat.lt_succ_self m)]
      rfl
    · rw [if_neg e]
      by_cases g : k < m
      · rw [if_pos g, if_pos (by omega)]
        simp
        try omega
      · rw [if_neg g, if_neg (by omega)]
        simp
theorem take_snocS {ss : List slT} {m : Nat} (h : m < ss.length) : ss.take m ++ [ss.getD m sl0] = ss.take (m + 1) := by
  have e : ss.getD m sl0 = ss[m] := by simp [List.getD, h]
  rw [e]
  exact (List.take_append_getElem h)
theorem splM_lo {ss : List slT} {k : Nat} {f : Int} : ∀ m, m ≤ k → m ≤ ss.length → splM ss k f m = ss.take m
  | 0, _, _ => by simp [splM]
  | m + 1, h, hl => by rw [splM, splM_lo m (by omega) (by omega), if_neg (by omega), take_snocS (by omega)]
theorem splM_all {ss : List slT} {k : Nat} {f : Int} (hk : k < ss.length) : splM ss k f ss.length = splL ss k f := by
  have key : ∀ m, k < m → m ≤ ss.length → splM ss k f m = ss.take k ++ [((ss.getD k sl0).1, (ss.getD k sl0).2.1, f), ((ss.getD k sl0).1, (ss.getD k sl0).2.1 + f, (ss.getD k sl0).2.2 - f)] ++ (ss.take m).drop (k + 1) := by
    intro m
    induction m with
    | zero => intro h; omega
    | succ m ih =>
      intro h1 h2
      by_cases e : m = k
      · subst e
        rw [splM, splM_lo m (Nat.le_refl _) (by omega), if_pos rfl, List.drop_eq_nil_of_le (by simp; omega), List.append_nil]
      · rw [splM, ih (by omega) (by omega), if_neg e, ← take_snocS (by omega : m < ss.length), List.drop_append_of_le_length (by simp; omega)]
        simp
  rw [key _ hk (Nat.le_refl _), List.take_length]
  rfl
theorem splM_rng {t : Tb} (h : Tm t) {k : Nat} {f : Int} (hk : k < t.ss.length) (hf : 0 ≤ f) (hf2 : f ≤ 5000) : ∀ m, m ≤ t.ss.length → ∀ i, i < (splM t.ss k f m).length → 0 ≤ ((splM t.ss k f m).getD i sl0).2.1 ∧ ((splM t.ss k f m).getD i sl0).2.1 ≤ 10000 := by
  have hs := h.st k hk
  have he := h.en k hk
  have hl := h.ln k hk
  have hm := h.maj2
  have hp := h.pad1
  have hg := h.grd1
  intro m
  induction m with
  | zero => intro _ i hi; simp [splM] at hi
  | succ m ih =>
    intro hm2 i hi
    rw [splM] at hi ⊢
    by_cases c : i < (splM t.ss k f m).length
    · have := ih (by omega) i c
      rw [List.getD, List.getElem?_append_left c, ← List.getD]
      exact this
    · rw [List.getD, List.getElem?_append_right (by omega)]
      generalize i - (splM t.ss k f m).length = j at *
      by_cases e : m = k
      · rw [if_pos e] at hi ⊢
        match j with
        | 0 => exact ⟨hs, by show (t.ss.getD k sl0).2.1 ≤ 10000; omega⟩
        | 1 => exact ⟨by show 0 ≤ (t.ss.getD k sl0).2.1 + f; omega, by show (t.ss.getD k sl0).2.1 + f ≤ 10000; omega⟩
        | j + 2 => exact ⟨Int.le_refl 0, by show (0 : Int) ≤ 10000; omega⟩
      · rw [if_neg e] at hi ⊢
        have h1 := h.st m (by omega)
        have h2 := h.en m (by omega)
        have h3 := h.ln m (by omega)
        match j with
        | 0 => exact ⟨h1, by show (t.ss.getD m sl0).2.1 ≤ 10000; omega⟩
        | j + 1 => exact ⟨Int.le_refl 0, by show (0 : Int) ≤ 10000; omega⟩
theorem slX_app (xs ys : List slT) : gcat (slX (xs ++ ys)) (xs ++ ys).length = gcat (slX xs) xs.length ++ gcat (slX ys) ys.length := by
  rw [gcat_app, List.length_append]
  refine gcat_congr fun i hi => ?_
  by_cases c : i < xs.length
  · rw [if_pos c]
    simp only [slX, List.getD, List.getElem?_append_left c]
  · rw [if_neg c]
    simp only [slX, List.getD, List.getElem?_append_right (show xs.length ≤ i by omega)]
end Go.Proofs.YthieilkabcehgaaGreatDoor
