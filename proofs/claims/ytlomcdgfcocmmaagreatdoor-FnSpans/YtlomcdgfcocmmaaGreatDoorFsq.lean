/-
  The spans of drawn cycles follow one another, and those of a partition that runs are as long as the cycles at which it may begin a step: plain facts. No function of the program in sight; no conditions but those that each fact names.
  What the laws read of the bytes that they are handed: one byte, four as a word, whether there are too many. Conditions: the bytes are at most 1048576 where one is read.
  The law on spans, walked: of all bytes it returns true. Conditions: the bytes are bytes; the program's table of extras holds what the program's text lays.
-/
import Derived.Test.YtlomcdgfcocmmaaGreatDoorBas
import Derived.Test.YtlomcdgfcocmmaaGreatDoorJa2
import Derived.Test.YtlomcdgfcocmmaaGreatDoorJa3
import Derived.Test.YtlomcdgfcocmmaaGreatDoorProg
import Derived.Deep.QuietTactic
import Derived.BigQuiet
import Derived.Test.YtlomcdgfcocmmaaGreatDoorDsp
import Derived.Test.YtlomcdgfcocmmaaGreatDoorGen
namespace Go.Proofs.YtlomcdgfcocmmaaGreatDoor
open Go.ChangeShapes Go.WideShapes Go.ChangeAt Go.RowKit Go.Deep Go.Joins
set_option linter.unusedVariables false

theorem saD_app_lt {D L : List saT} {i : Nat} (h : i < D.length) : (D ++ L).getD i sa0 = D.getD i sa0 := by
  rw [List.getD_eq_getElem?_getD, List.getElem?_append_left h, ← List.getD_eq_getElem?_getD]
theorem saD_app_eq {D : List saT} {x : saT} : (D ++ [x]).getD D.length sa0 = x := by
  rw [List.getD_eq_getElem?_getD, List.getElem?_append_right (Nat.le_refl _), Nat.sub_self]; rfl
/-- They follow one another from f to z. -/
structure Chn (f z : Int) (xs : List saT) : Prop where
  e : xs.length = 0 → z = f
  a : 0 < xs.length → (xs.getD 0 sa0).1 = f
  l : 0 < xs.length → (xs.getD (xs.length - 1) sa0).2.1 = z
  m : ∀ i, 0 < i → i < xs.length → (xs.getD i sa0).1 = (xs.getD (i - 1) sa0).2.1
theorem Chn.snoc {f z : Int} {D : List saT} {x : saT} (h : Chn f z D) (hx : x.1 = z) : Chn f x.2.1 (D ++ [x]) := by
  have hl : (D ++ [x]).length = D.length + 1 := by simp
  refine ⟨fun e => by omega, fun _ => ?_, fun _ => ?_, fun i h0 hi => ?_⟩
  · by_cases e : D.length = 0
    · have : D = [] := List.eq_nil_of_length_eq_zero e
      rw [this]; show x.1 = f; rw [hx]; exact h.e e
    · rw [saD_app_lt (by omega)]; exact h.a (by omega)
  · rw [hl, show D.length + 1 - 1 = D.length by omega, saD_app_eq]
  · by_cases e : i < D.length
    · rw [saD_app_lt e, saD_app_lt (by omega)]; exact h.m i h0 e
    · have ei : i = D.length := by omega
      subst ei
      rw [saD_app_eq, saD_app_lt (by omega), hx]
      exact (h.l (by omega)).symm
theorem Chn.last {f z z' : Int} {D : List saT} {x y : saT} (h : Chn f z (D ++ [x])) (hy : y.1 = x.1) (hz : y.2.1 = z') : Chn f z' (D ++ [y]) := by
  have hl : (D ++ [x]).length = D.length + 1 := by simp
  have hl2 : (D ++ [y]).length = D.length + 1 := by simp
  refine ⟨fun e => by omega, fun _ => ?_, fun _ => ?_, fun i h0 hi => ?_⟩
  · have := h.a (by omega)
    by_cases e : D.length = 0
    · have : D = [] := List.eq_nil_of_length_eq_zero e
      subst this; show y.1 = f; rw [hy]; exact h.a (by simp)
    · rw [saD_app_lt (by omega)] at this ⊢; exact this
  · rw [hl2, show D.length + 1 - 1 = D.length by omega, saD_app_eq]; exact hz
  · have := h.m i h0 (by omega)
    by_cases e : i < D.length
    · rw [saD_app_lt e, saD_app_lt (by omega)] at this ⊢; exact this
    · have ei : i = D.length := by omega
      subst ei
      rw [saD_app_eq, saD_app_lt (by omega)] at this ⊢
      rw [hy]; exact this
theorem spL_chn (t : Tb) (f : Int) : ∀ k : Nat, Chn f (f + (k : Int)) (spL t f k) := by
  intro k
  induction k with
  | zero => exact ⟨fun _ => by simp, fun h => by simp [spL] at h, fun h => by simp [spL] at h, fun i _ h => by simp [spL] at h⟩
  | succ k ih =>
    by_cases g : k ≠ 0 ∧ Same t (f + (k : Int))
    · rw [spL_some (by omega), spDC_on g]
      rw [spL_some g.1] at ih
      exact ih.last rfl (by show f + (k : Int) + 1 = _; omega)
    · rw [spL_new g]
      have := ih.snoc (x := (f + (k : Int), f + (k : Int) + 1, whoV t ((f + (k : Int)) % t.maj), phaseV t ((f + (k : Int)) % t.maj))) rfl
      rw [show f + ((k + 1 : Nat) : Int) = f + (k : Int) + 1 by omega]
      exact this
/-- What a span adds. -/
def vaS (p q : Int) (x : saT) : Int := if saIn p q x then x.2.1 - x.1 else 0
theorem vaS_yes {p q : Int} {x : saT} (h : saIn p q x) : vaS p q x = x.2.1 - x.1 := if_pos h
theorem vaS_no {p q : Int} {x : saT} (h : ¬ saIn p q x) : vaS p q x = 0 := if_neg h
theorem smN_pre {D L : List saT} {p q : Int} : ∀ i, i ≤ D.length → smN (D ++ L) p q i = smN D p q i
  | 0, _ => rfl
  | i + 1, h => by
    simp only [smN]
    rw [smN_pre i (by omega), saD_app_lt (by omega)]
theorem smN_snoc {D : List saT} {x : saT} {p q : Int} : smN (D ++ [x]) p q (D.length + 1) = smN D p q D.length + vaS p q x := by
  simp only [smN]
  rw [smN_pre _ (Nat.le_refl _), saD_app_eq]
  unfold vaS
  split <;> omega
theorem beg_inp {t : Tb} {p a b c : Int} (hp : 0 ≤ p) (h : InP t a b c) : (begV t (c % t.maj) = p ↔ a = p ∧ b = 2) := by
  obtain ⟨h1, h2⟩ := h
  unfold begV
  unfold whoV at h2
  by_cases e : phaseV t (c % t.maj) = 2
  · rw [if_pos e]
    obtain ⟨i, hi, hs, _⟩ := phaseV_slot (t := t) (p := c % t.maj) (by omega)
    rw [hs, if_neg (by omega)] at h2
    rw [hs, h2]
    constructor
    · intro g; exact ⟨g, by omega⟩
    · intro g; exact g.1
  · rw [if_neg e]
    constructor
    · intro g; omega
    · intro g; omega
theorem sum_num {t : Tb} {f p : Int} (hf : 0 ≤ f) (hp : 0 ≤ p) : ∀ k : Nat, f + (k : Int) ≤ 50000 → smN (spDC t f k).1 p 2 (spDC t f k).1.length + (if k = 0 then 0 else vaS p 2 (spDC t f k).2) = numB t p (f + (k : Int)).toNat - numB t p f.toNat := by
  intro k
  induction k with
  | zero => intro _; rw [if_pos rfl, show f + ((0 : Nat) : Int) = f by omega]; show smN [] p 2 0 + 0 = _; simp only [smN]; omega
  | succ k ih =>
    intro hk
    have ih := ih (by omega)
    have hn : (f + ((k + 1 : Nat) : Int)).toNat = (f + (k : Int)).toNat + 1 := by omega
    have hc : (((f + (k : Int)).toNat : Nat) : Int) = f + (k : Int) := by omega
    have hB : numB t p (f + ((k + 1 : Nat) : Int)).toNat = numB t p (f + (k : Int)).toNat + (if begV t ((f + (k : Int)) % t.maj) = p then 1 else 0) := by
      rw [hn]
      simp only [numB]
      rw [hc]
    have hg1 := (spDC_good t f (k + 1)).2 (by omega)
    rw [hB, if_neg (by omega)]
    by_cases g : k ≠ 0 ∧ Same t (f + (k : Int))
    · have hg0 := (spDC_good t f k).2 g.1
      rw [spDC_on g] at hg1 ⊢
      rw [if_neg g.1] at ih
      have hin : InP t (spDC t f k).2.2.2.1 (spDC t f k).2.2.2.2 (f + (k : Int)) := hg1.1.2.2.2 (f + (k : Int)) (by have := hg0.1.2.1; have := hg0.2; show (spDC t f k).2.1 ≤ f + (k : Int); omega) (by show f + (k : Int) < f + (k : Int) + 1; omega)
      have hb := beg_inp hp hin
      have h1 := hg0.1.1
      have h2 := hg0.1.2.1
      have h3 := hg0.2
      show smN (spDC t f k).1 p 2 (spDC t f k).1.length + vaS p 2 ((spDC t f k).2.1, f + (k : Int) + 1, (spDC t f k).2.2.2.1, (spDC t f k).2.2.2.2) = _
      have hv : vaS p 2 ((spDC t f k).2.1, f + (k : Int) + 1, (spDC t f k).2.2.2.1, (spDC t f k).2.2.2.2) = vaS p 2 (spDC t f k).2 + (if begV t ((f + (k : Int)) % t.maj) = p then 1 else 0) := by
        by_cases e : (spDC t f k).2.2.2.1 = p ∧ (spDC t f k).2.2.2.2 = 2
        · rw [if_pos (hb.2 e), vaS_yes (x := ((spDC t f k).2.1, f + (k : Int) + 1, (spDC t f k).2.2.2.1, (spDC t f k).2.2.2.2)) ⟨e.1, e.2, by show 0 ≤ (spDC t f k).2.1; omega, by show (spDC t f k).2.1 ≤ f + (k : Int) + 1; omega, by show f + (k : Int) + 1 ≤ 50000; omega⟩, vaS_yes (x := (spDC t f k).2) ⟨e.1, e.2, by omega, by omega, by omega⟩]
          show f + (k : Int) + 1 - (spDC t f k).2.1 = _
          omega
        · rw [if_neg (fun q => e (hb.1 q)), vaS_no (x := ((spDC t f k).2.1, f + (k : Int) + 1, (spDC t f k).2.2.2.1, (spDC t f k).2.2.2.2)) (fun q => e ⟨q.1, q.2.1⟩), vaS_no (x := (spDC t f k).2) (fun q => e ⟨q.1, q.2.1⟩)]
          rfl
      rw [hv]
      omega
    · rw [spDC_new g] at hg1 ⊢
      have hin : InP t (whoV t ((f + (k : Int)) % t.maj)) (phaseV t ((f + (k : Int)) % t.maj)) (f + (k : Int)) := ⟨rfl, rfl⟩
      have hb := beg_inp hp hin
      have hv : vaS p 2 (f + (k : Int), f + (k : Int) + 1, whoV t ((f + (k : Int)) % t.maj), phaseV t ((f + (k : Int)) % t.maj)) = (if begV t ((f + (k : Int)) % t.maj) = p then 1 else 0) := by
        by_cases e : whoV t ((f + (k : Int)) % t.maj) = p ∧ phaseV t ((f + (k : Int)) % t.maj) = 2
        · rw [if_pos (hb.2 e), vaS_yes ⟨e.1, e.2, by show 0 ≤ f + (k : Int); omega, by show f + (k : Int) ≤ f + (k : Int) + 1; omega, by show f + (k : Int) + 1 ≤ 50000; omega⟩]
          show f + (k : Int) + 1 - (f + (k : Int)) = _
          omega
        · rw [if_neg (fun q => e (hb.1 q)), vaS_no (fun q => e ⟨q.1, q.2.1⟩)]
      show smN (spL t f k) p 2 (spL t f k).length + vaS p 2 _ = _
      rw [hv]
      by_cases e : k = 0
      · subst e
        rw [if_pos rfl] at ih
        have : smN (spL t f 0) p 2 (spL t f 0).length = 0 := rfl
        have h0 : smN (spDC t f 0).1 p 2 (spDC t f 0).1.length = 0 := rfl
        omega
      · rw [if_neg e] at ih
        rw [spL_some e, List.length_append, List.length_singleton, smN_snoc]
        omega
theorem sum_all {t : Tb} {f u p : Int} (h : SPok t f u) (hp : 0 ≤ p) : smV (spAll t f u) p 2 (spAll t f u).length = numB t p u.toNat - numB t p f.toNat := by
  have h1 := h.2.1
  have h2 := h.2.2.1
  unfold IsC at h1 h2
  have h3 := h.2.2.2
  have e : spAll t f u = spL t f (u - f).toNat := by unfold spAll; rw [if_pos h]
  have hl := spAll_len t f u
  have hs := sum_num (t := t) (f := f) (p := p) h1.1 hp (u - f).toNat (by omega)
  unfold smV
  rw [if_pos hl, e, spL_some (by omega), List.length_append, List.length_singleton, smN_snoc]
  rw [if_neg (by omega), show f + (((u - f).toNat : Nat) : Int) = u by omega] at hs
  exact hs
theorem chn_all {t : Tb} {f u : Int} (h : SPok t f u) : Chn f u (spAll t f u) := by
  have h3 := h.2.2.2
  have e : spAll t f u = spL t f (u - f).toNat := by unfold spAll; rw [if_pos h]
  rw [e]
  have := spL_chn t f (u - f).toNat
  rw [show f + (((u - f).toNat : Nat) : Int) = u by omega] at this
  exact this
theorem blm_all {t : Tb} {f u : Int} : blmV t (spAll t f u) = -1 := by
  unfold blmV
  split
  · exact blF_none _ (fun i hi => spAll_spGood hi)
  · rfl
end Go.Proofs.YtlomcdgfcocmmaaGreatDoor
namespace Go.Proofs.YtlomcdgfcocmmaaGreatDoor
open Go.ChangeShapes Go.WideShapes Go.ChangeAt Go.RowKit Go.Deep
set_option linter.unusedVariables false

theorem big_no (a : Option Addr) (n cap : Nat) (w : World) (h : n ≤ 1048576) : Calls Tryz.prog 7 #[.slice a n cap] w fun e w' => e = .returned (.bool false) ∧ w' = w := by
  have h2 : ¬ (1048576 : Int) < (n : Int) := by omega
  go_enter Tryz.func7, Tryz.ntmps7
  go_wp2
  go_ret
  exact ⟨rfl, rfl⟩
theorem big_yes (a : Option Addr) (n cap : Nat) (w : World) (h : ¬ n ≤ 1048576) : Calls Tryz.prog 7 #[.slice a n cap] w fun e w' => e = .returned (.bool true) ∧ w' = w := by
  have h2 : (1048576 : Int) < (n : Int) := by omega
  go_enter Tryz.func7, Tryz.ntmps7
  go_wp2
  go_ret
  exact ⟨rfl, rfl⟩
set_option maxHeartbeats 400000 in
theorem at_any (a : Option Addr) (cap n : Nat) (zs : List Int) (i : Nat) (w : World) (hn : n ≤ 1048576) (hl : zs.length = n) (hi : i ≤ 1000) (hs : Seg .u8 w a zs) (hb : ∀ z ∈ zs, (Lit.int .u8 z).wf = true) :
    Calls Tryz.prog 27 #[.slice a n cap, .int .i64 i] w fun e w' => ∃ x : Int, e = .returned (.int .i64 x) ∧ 0 ≤ x ∧ x ≤ 255 ∧ w' = w := by
  by_cases h : i < n
  · obtain ⟨b, off, he, hbl, hc⟩ := hs.at i (by omega)
    have hz := bounds_u8 (hb _ (getD_mem zs i (by omega)))
    obtain ⟨hz0, hz1⟩ := hz
    subst he
    generalize zs.getD i 0 = z at hc hz0 hz1
    clear hs hb hl
    have h2 : (i : Int) < (n : Int) := by omega
    go_enter Tryz.func27, Tryz.ntmps27
    go_wp2
    go_ret
    exact ⟨z, rfl, by omega, by omega, rfl⟩
  · have h2 : ¬ (i : Int) < (n : Int) := by omega
    have HM : Hid (0 ≤ (((i : Int) * 7 + n) % 256) ∧ (((i : Int) * 7 + n) % 256) ≤ 255) := ⟨Int.emod_nonneg _ (by decide), by omega⟩
    clear hs hb hl
    go_enter Tryz.func27, Tryz.ntmps27
    go_wp2
    go_ret
    exact ⟨_, rfl, HM.out.1, HM.out.2, rfl⟩
end Go.Proofs.YtlomcdgfcocmmaaGreatDoor
namespace Go.Proofs.YtlomcdgfcocmmaaGreatDoor
open Go.ChangeShapes Go.WideShapes Go.ChangeAt Go.RowKit Go.Deep Go.Joins
set_option linter.unusedVariables false

set_option maxRecDepth 40000 in
set_option maxHeartbeats 16000000 in
theorem walk_fnspans (a : Option Addr) (zs : List Int) (cap n : Nat) (w : World) (hs : Seg .u8 w a zs) (hb : ∀ z ∈ zs, (Lit.int .u8 z).wf = true) (hl : zs.length = n) (he : TabE w) :
    Calls Tryz.prog 5 #[.slice a n cap] w fun e w' => e = .returned (.bool true) ∧ Below w.heap.size w w' := by
  by_cases hn : n ≤ 1048576
  rotate_left
  · have HY : Hid _ := big_yes a n cap w hn
    go_enter Tryz.func5, Tryz.ntmps5
    go_wp2_with fail
    refine Calls.mono HY.out ?_
    rintro e w1 ⟨rfl, rfl⟩
    go_wp2
    go_ret
    exact ⟨rfl, Below.refl _ _⟩
  have HNO : Hid _ := big_no a n cap w hn
  have HDR : Hid _ := draw_spans w a zs cap n hs hb hl hn
  have HTE : Hid (∀ X, Below w.heap.size w X → TabE X) := fun X hX => he.below hX
  clear hs hb hl he
  go_enter Tryz.func5, Tryz.ntmps5
  go_wp2_with fail
  refine Calls.mono HNO.out ?_
  rintro e w ⟨rfl, rfl⟩
  go_wp2_with fail
  refine Calls.mono HDR.out ?_
  rintro e w1 ⟨t, ad, f, u, rfl, hD, hb⟩
  have HNR : Hid (RV (w1.alloc (.cells #[.int .i64 0, .int .i64 0, .int .i64 0, .int .i64 0, .int .i64 0, .int .i64 0, .int .i64 0, .int .i64 0, .int .i64 0, .int .i64 0, .int .i64 0, .int .i64 0, .int .i64 0, .int .i64 0, .int .i64 0, .slice none 0 0, .slice none 0 0, .slice none 0 0, .slice none 0 0] 33)) w1.heap.size (#[.int .i64 0, .int .i64 0, .int .i64 0, .int .i64 0, .int .i64 0, .int .i64 0, .int .i64 0, .int .i64 0, .int .i64 0, .int .i64 0, .int .i64 0, .int .i64 0, .int .i64 0, .int .i64 0, .int .i64 0, .slice none 0 0, .slice none 0 0, .slice none 0 0, .slice none 0 0])) := new_row w1 _ _ _ rfl
  have hbV : Below w1.heap.size w1 ((w1.alloc (.cells #[.int .i64 0, .int .i64 0, .int .i64 0, .int .i64 0, .int .i64 0, .int .i64 0, .int .i64 0, .int .i64 0, .int .i64 0, .int .i64 0, .int .i64 0, .int .i64 0, .int .i64 0, .int .i64 0, .int .i64 0, .slice none 0 0, .slice none 0 0, .slice none 0 0, .slice none 0 0] 33)).setRow w1.heap.size (tbA t ad)) := below_setRow ((Below.refl _ _).alloc (Nat.le_refl _) _) (Nat.le_refl _) _
  have HX : Hid (∀ X, Below ((w1.alloc (.cells #[.int .i64 0, .int .i64 0, .int .i64 0, .int .i64 0, .int .i64 0, .int .i64 0, .int .i64 0, .int .i64 0, .int .i64 0, .int .i64 0, .int .i64 0, .int .i64 0, .int .i64 0, .int .i64 0, .int .i64 0, .slice none 0 0, .slice none 0 0, .slice none 0 0, .slice none 0 0] 33)).setRow w1.heap.size (tbA t ad)).heap.size ((w1.alloc (.cells #[.int .i64 0, .int .i64 0, .int .i64 0, .int .i64 0, .int .i64 0, .int .i64 0, .int .i64 0, .int .i64 0, .int .i64 0, .int .i64 0, .int .i64 0, .int .i64 0, .int .i64 0, .int .i64 0, .int .i64 0, .slice none 0 0, .slice none 0 0, .slice none 0 0, .slice none 0 0] 33)).setRow w1.heap.size (tbA t ad)) X → X.heap[w1.heap.size]? = some (.cells (tbA t ad) 33 (0, 0))) := fun X hX => row_below (setRow_heap _ _ _ _ _ _ HNR.out) hX
  have HB1 : Hid (Below w.heap.size w ((w1.alloc (.cells #[.int .i64 0, .int .i64 0, .int .i64 0, .int .i64 0, .int .i64 0, .int .i64 0, .int .i64 0, .int .i64 0, .int .i64 0, .int .i64 0, .int .i64 0, .int .i64 0, .int .i64 0, .int .i64 0, .int .i64 0, .slice none 0 0, .slice none 0 0, .slice none 0 0, .slice none 0 0] 33)).setRow w1.heap.size (tbA t ad))) := hb.trans (hbV.mono hb.size)
  have HTM : Hid (∀ X, Below ((w1.alloc (.cells #[.int .i64 0, .int .i64 0, .int .i64 0, .int .i64 0, .int .i64 0, .int .i64 0, .int .i64 0, .int .i64 0, .int .i64 0, .int .i64 0, .int .i64 0, .int .i64 0, .int .i64 0, .int .i64 0, .int .i64 0, .slice none 0 0, .slice none 0 0, .slice none 0 0, .slice none 0 0] 33)).setRow w1.heap.size (tbA t ad)).heap.size ((w1.alloc (.cells #[.int .i64 0, .int .i64 0, .int .i64 0, .int .i64 0, .int .i64 0, .int .i64 0, .int .i64 0, .int .i64 0, .int .i64 0, .int .i64 0, .int .i64 0, .int .i64 0, .int .i64 0, .int .i64 0, .int .i64 0, .slice none 0 0, .slice none 0 0, .slice none 0 0, .slice none 0 0] 33)).setRow w1.heap.size (tbA t ad)) X → TM 0 X t ad) := fun X hX => hD.t.below (hbV.trans (hX.mono hbV.size))
  have HTW : Hid (TW t ad) := hD.w
  have HTS : Hid (TS ad) := hD.s
  have HCP : Hid (ad.pn ≤ ad.pc ∧ ad.sn ≤ ad.sc) := ⟨hD.c1, hD.c2⟩
  have HP4 : Hid (2 ≤ ad.pn ∧ ad.pn ≤ 4) := hD.p
  have HTB : Hid (∀ X, Below ((w1.alloc (.cells #[.int .i64 0, .int .i64 0, .int .i64 0, .int .i64 0, .int .i64 0, .int .i64 0, .int .i64 0, .int .i64 0, .int .i64 0, .int .i64 0, .int .i64 0, .int .i64 0, .int .i64 0, .int .i64 0, .int .i64 0, .slice none 0 0, .slice none 0 0, .slice none 0 0, .slice none 0 0] 33)).setRow w1.heap.size (tbA t ad)).heap.size ((w1.alloc (.cells #[.int .i64 0, .int .i64 0, .int .i64 0, .int .i64 0, .int .i64 0, .int .i64 0, .int .i64 0, .int .i64 0, .int .i64 0, .int .i64 0, .int .i64 0, .int .i64 0, .int .i64 0, .int .i64 0, .int .i64 0, .slice none 0 0, .slice none 0 0, .slice none 0 0, .slice none 0 0] 33)).setRow w1.heap.size (tbA t ad)) X → TabE X) := fun X hX => HTE.out X (HB1.out.trans (hX.mono HB1.out.size))
  clear hb hbV hD HDR HNO HTE
  go_wp2_with (first | (refine wpList_store_row rfl 33 (.tmp 3) (.tmp 15) rfl w1.heap.size (tbA t ad) rfl rfl 33 (#[.int .i64 0, .int .i64 0, .int .i64 0, .int .i64 0, .int .i64 0, .int .i64 0, .int .i64 0, .int .i64 0, .int .i64 0, .int .i64 0, .int .i64 0, .int .i64 0, .int .i64 0, .int .i64 0, .int .i64 0, .slice none 0 0, .slice none 0 0, .slice none 0 0, .slice none 0 0]) HNR.out (by kernel_rfl) rfl (by simp [Value.oneCell']) ?_) | (refine wpList_load_row rfl 33 (.tmp 3) rfl w1.heap.size rfl 33 (tbA t ad) (0, 0) _ (HX.out _ (Below.refl _ _)) Tryz.underlying33 rfl (by kernel_rfl) ?_) | fail)
  clear HNR
  revert HX HB1 HTM HTB
  generalize ((w1.alloc (.cells #[.int .i64 0, .int .i64 0, .int .i64 0, .int .i64 0, .int .i64 0, .int .i64 0, .int .i64 0, .int .i64 0, .int .i64 0, .int .i64 0, .int .i64 0, .int .i64 0, .int .i64 0, .int .i64 0, .int .i64 0, .slice none 0 0, .slice none 0 0, .slice none 0 0, .slice none 0 0] 33)).setRow w1.heap.size (tbA t ad)) = V
  generalize w1.heap.size = N
  intro HX HB1 HTM HTB
  have HSS : Hid (∀ X, Below V.heap.size V X → Calls Tryz.prog 22 #[tbV t ad, .int .i64 f, .int .i64 u] X fun e w' => ∃ v, e = .returned v ∧ OwnS w' (X.heap.size + 1) v (spAll t f u) ∧ Below X.heap.size X w') := fun X hX => spec_spans t ad f u X (HTM.out X hX) HTW.out HTS.out
  have HIB : Hid (∀ (b : Option Addr) (cb : Nat) (xs : List saT) X, Below V.heap.size V X → GSeg 4 X b xs.length (saX xs) → xs.length ≤ 1048576 → Calls Tryz.prog 24 #[tbV t ad, .slice b xs.length cb] X fun e w' => e = .returned (.int .i64 (blmV t xs)) ∧ Below X.heap.size X w') := fun b cb xs X hX h1 h2 => impl_blame t ad b cb xs X (HTM.out X hX) HTW.out HTS.out (HTB.out X hX) HCP.out.1 HCP.out.2 h1 h2
  have HIS : Hid (∀ (b : Option Addr) (cb : Nat) (xs : List saT) X, Below V.heap.size V X → GSeg 4 X b xs.length (saX xs) → xs.length ≤ 1048576 → Calls Tryz.prog 23 #[tbV t ad, .int .i64 f, .int .i64 u, .slice b xs.length cb] X fun e w' => e = .returned (.bool (sokV t f u xs)) ∧ Below X.heap.size X w') := fun b cb xs X hX h1 h2 => impl_sok t ad f u b cb xs X (HTM.out X hX) HTW.out HTS.out (HTB.out X hX) HCP.out.1 HCP.out.2 h1 h2
  have HSI : Hid (∀ X, Below V.heap.size V X → Calls Tryz.prog 21 #[tbV t ad, .int .i64 f, .int .i64 u] X fun e w' => ∃ v, e = .returned v ∧ OwnS w' (X.heap.size + 1) v (spAll t f u) ∧ Below X.heap.size X w') := fun X hX => impl_spans t ad f u X (HTM.out X hX) HTW.out HTS.out (HTB.out X hX) HCP.out.1 HCP.out.2
  have HCY : Hid (∀ (p : Int) X, Below V.heap.size V X → Calls Tryz.prog 26 #[tbV t ad, .int .i64 p, .int .i64 f, .int .i64 u] X fun e w' => (∃ r : Int, e = .returned (.int .i64 r) ∧ CR t p f u r) ∧ Below X.heap.size X w') := fun p X hX => impl_cyclesof t ad p f u X (HTM.out X hX) HTW.out HTS.out (HTB.out X hX) HCP.out.1 HCP.out.2
  refine Calls.mono (HSI.out _ (Below.refl _ _)) ?_
  rintro e w2 ⟨v, rfl, ho, hb2⟩
  have HB2 : Hid (Below V.heap.size V w2) := hb2
  have HO2 : Hid (OwnS w2 (V.heap.size + 1) v (spAll t f u)) := ho
  clear ho hb2 HSI
  obtain ⟨A, c, rfl, hcc, hsg⟩ := HO2.out.seg
  have HSG2 : Hid (GSeg 4 w2 A (spAll t f u).length (saX (spAll t f u))) := hsg
  clear hsg HO2
  go_wp2_with (first | (refine wpList_load_row rfl 33 (.tmp 3) rfl N rfl 33 (tbA t ad) (0, 0) _ (HX.out _ HB2.out) Tryz.underlying33 rfl (by kernel_rfl) ?_) | fail)
  refine Calls.mono (HSS.out _ HB2.out) ?_
  rintro e w3 ⟨v3, rfl, ho, hb3⟩
  have HB3 : Hid (Below V.heap.size V w3) := HB2.out.trans (hb3.mono HB2.out.size)
  have HSG3 : Hid (GSeg 4 w3 A (spAll t f u).length (saX (spAll t f u))) := HSG2.out.below hb3
  obtain ⟨A3, c3, rfl, _, _⟩ := ho.seg
  clear ho hb3 HB2 HSG2 HSS
  have hzl : (spAll t f u).length ≤ 5000 := spAll_len t f u
  have HIS' : Hid (∀ X, Below V.heap.size V X → GSeg 4 X A (spAll t f u).length (saX (spAll t f u)) → Calls Tryz.prog 23 #[tbV t ad, .int .i64 f, .int .i64 u, .slice A (spAll t f u).length c] X fun e w' => e = .returned (.bool (sokV t f u (spAll t f u))) ∧ Below X.heap.size X w') := fun X h1 h2 => HIS.out A c (spAll t f u) X h1 h2 (by omega)
  have HIB' : Hid (∀ X, Below V.heap.size V X → GSeg 4 X A (spAll t f u).length (saX (spAll t f u)) → Calls Tryz.prog 24 #[tbV t ad, .slice A (spAll t f u).length c] X fun e w' => e = .returned (.int .i64 (-1)) ∧ Below X.heap.size X w') := fun X h1 h2 => by
    have := HIB.out A c (spAll t f u) X h1 h2 (by omega)
    rw [blm_all] at this
    exact this
  have HSU : Hid (∀ (p : Int) X, GSeg 4 X A (spAll t f u).length (saX (spAll t f u)) → Calls Tryz.prog 25 #[.slice A (spAll t f u).length c, .int .i64 p, .int .i64 2] X fun e w' => e = .returned (.int .i64 (smV (spAll t f u) p 2 (spAll t f u).length)) ∧ Below X.heap.size X w') := fun p X h => impl_sum A c _ (spAll t f u) p 2 X h (by omega)
  have hll : (((spAll t f u).length : Int) != ((spAll t f u).length : Int)) = false := by simp
  clear HIS HIB
  by_cases h0 : (spAll t f u).length = 0
  · have HE : Hid (sokV t f u (spAll t f u) = false) := decide_eq_false (fun h => h.1 h0)
    have HC : Hid _ := HIS'.out w3 HB3.out HSG3.out
    have h00 : (((spAll t f u).length : Int) == 0) = true := by simp [h0]
    rw [HE.out] at HC
    generalize (spAll t f u).length = m at *
    clear HE h0 HIS' HIB' HSU HCY
    go_wp2_with (first | (refine wpList_load_row rfl 33 (.tmp 3) rfl N rfl 33 (tbA t ad) (0, 0) _ (HX.out _ HB3.out) Tryz.underlying33 rfl (by kernel_rfl) ?_) | fail)
    refine Calls.mono HC.out ?_
    rintro e w4 ⟨rfl, hb4⟩
    have HB4 : Hid (Below w.heap.size w w4) := HB1.out.trans ((HB3.out.trans (hb4.mono HB3.out.size)).mono HB1.out.size)
    clear hb4
    go_wp2
    go_ret
    exact ⟨rfl, HB4.out⟩
  have HSP : Hid (SPok t f u) := (spAll_ok h0).1
  have HCH : Hid (Chn f u (spAll t f u)) := chn_all HSP.out
  have HE : Hid (sokV t f u (spAll t f u) = true) := decide_eq_true ⟨h0, rfl⟩
  rw [HE.out] at HIS'
  have HSM : Hid (∀ p : Int, 0 ≤ p → p < (t.ps.length : Int) → ∀ r, CR t p f u r → r = smV (spAll t f u) p 2 (spAll t f u).length) := fun p h1 h2 r hr => by
    rw [sum_all HSP.out h1]
    rcases hr with ⟨h, _⟩ | ⟨_, h⟩
    · have h3 := HSP.out.2.2.2
      exact absurd ⟨⟨HSP.out.1, HSP.out.2.1⟩, HSP.out.2.2.1, by omega, h1, h2⟩ h
    · exact h
  have h00 : (((spAll t f u).length : Int) == 0) = false := by simpa using h0
  have HPN : Hid (t.ps.length = ad.pn) := HTW.out.pl
  generalize hzz : spAll t f u = zz at *
  obtain ⟨m, hm⟩ : ∃ m, zz.length = m := ⟨_, rfl⟩
  have HM : Hid (zz.length = m) := hm
  rw [hm] at HSG3 HIS' HIB' HSU HSM hll hzl h0 h00 ⊢
  clear hm hzz HE HSP
  have hm0 : 0 < m := by omega
  have hmI : (0 : Int) < (m : Int) := by omega
  have hwm : IntKind.i64.wrap ((m : Int) - 1) = (m : Int) - 1 := by rw [IntKind.wrap_i64]; omega
  have HC : Hid _ := HIS'.out w3 HB3.out HSG3.out
  go_wp2_with (first | (refine wpList_load_row rfl 33 (.tmp 3) rfl N rfl 33 (tbA t ad) (0, 0) _ (HX.out _ HB3.out) Tryz.underlying33 rfl (by kernel_rfl) ?_) | fail)
  refine Calls.mono HC.out ?_
  rintro e w4 ⟨rfl, hb4⟩
  have HB4 : Hid (Below V.heap.size V w4) := HB3.out.trans (hb4.mono HB3.out.size)
  have HSG4 : Hid (GSeg 4 w4 A m (saX zz)) := HSG3.out.below hb4
  clear hb4 HC HB3 HSG3 HIS'
  have HC : Hid _ := HIB'.out w4 HB4.out HSG4.out
  go_wp2_with (first | (refine wpList_load_rowG rfl 33 (.tmp 3) rfl N rfl 33 (tbA t ad) (0, 0) _ (HX.out _ HB4.out) Tryz.underlying33 rfl (by kernel_rfl) ?_) | (refine wpList_load_row rfl 33 (.tmp 3) rfl N rfl 33 (tbA t ad) (0, 0) _ (HX.out _ HB4.out) Tryz.underlying33 rfl (by kernel_rfl) ?_) | fail)
  refine Calls.mono HC.out ?_
  rintro e w5 ⟨rfl, hb5⟩
  have HB5 : Hid (Below V.heap.size V w5) := HB4.out.trans (hb5.mono HB4.out.size)
  have HSG5 : Hid (GSeg 4 w5 A m (saX zz)) := HSG4.out.below hb5
  clear hb5 HC HB4 HSG4 HIB'
  obtain ⟨bA, oA, hA, hltA, _⟩ := HSG5.out hm0
  subst hA
  have HCL : Hid (∀ X, Below w5.heap.size w5 X → ∀ i, i < m → X.cell? ⟨bA, oA + i * 4, none⟩ = some (.int .i64 (zz.getD i sa0).1) ∧ X.cell? ⟨bA, oA + i * 4 + 1, none⟩ = some (.int .i64 (zz.getD i sa0).2.1)) := fun X hX i hi => by
    obtain ⟨b1, o1, e, hbl, p1⟩ := (HSG5.out.below hX).at i hi
    obtain ⟨b2, o2, e2, _, _⟩ := (HSG5.out.below hX) hm0
    have hc := (HSG5.out.below hX) hm0
    obtain ⟨b3, o3, e3, _, hcc⟩ := hc
    cases e3
    have := sa_cells (hcc i hi)
    exact ⟨this.1, this.2.1⟩
  have d0 : w5.cell? ⟨bA, oA, none⟩ = some (.int .i64 f) := by
    have h1 := (HCL.out w5 (Below.refl _ _) 0 hm0).1
    rw [HCH.out.a (by rw [HM.out]; exact hm0)] at h1
    simpa using h1
  obtain ⟨k1, hk1⟩ : ∃ k1 : Nat, m = k1 + 1 := ⟨m - 1, by omega⟩
  have HK1 : Hid (m = k1 + 1) := hk1
  have hkI : (m : Int) - 1 = (k1 : Int) := by omega
  have hkl : (k1 : Int) < (m : Int) := by omega
  have d1 : w5.cell? ⟨bA, oA + k1 * 4 + 1, none⟩ = some (.int .i64 u) := by
    have h1 := (HCL.out w5 (Below.refl _ _) k1 (by omega)).2
    have h2 := HCH.out.l (by rw [HM.out]; exact hm0)
    rw [HM.out, show m - 1 = k1 by omega] at h2
    rw [h2] at h1
    exact h1
  clear hk1
  have hff : (f != f) = false := by simp
  have huu : (u != u) = false := by simp
  go_wp2
  go_loopw [8] (fun i wr => ∃ k : Nat, 1 ≤ k ∧ k ≤ m ∧ i = .int .i64 k ∧ Hid (Below w5.heap.size w5 wr)) (fun i _ => m - (intOf i).toNat)
  case atStart => exact ⟨1, by omega, by omega, rfl, Below.refl _ _⟩
  case round =>
    clear d0 d1
    obtain ⟨k, hk1, hkm, rfl, HBR⟩ := hrel
    by_cases hlt : k < m
    · have hlt' : (k : Int) < (m : Int) := by omega
      obtain ⟨j, hj⟩ : ∃ j : Nat, k = j + 1 := ⟨k - 1, by omega⟩
      have hwk : IntKind.i64.wrap ((k : Int) - 1) = (j : Int) := by rw [IntKind.wrap_i64]; omega
      have hjm : (j : Int) < (m : Int) := by omega
      have q0 := (HCL.out wr HBR.out k hlt).1
      have q1 := (HCL.out wr HBR.out j (by omega)).2
      have hmm := HCH.out.m k (by omega) (by rw [HM.out]; exact hlt)
      rw [show k - 1 = j by omega] at hmm
      rw [hmm] at q0
      generalize (zz.getD j sa0).2.1 = y at q0 q1
      have HJ : Hid (k = j + 1) := hj
      have hyy : (y != y) = false := by simp
      clear hmm hj
      have G0 := fun X => gr_cell (W0 := wr) q0 X
      have G1 := fun X => gr_cell (W0 := wr) q1 X
      clear q0 q1
      go_wp2
      have hgr := gr_some wr
      refine region_alike (by kernel_rfl) (by kernel_rfl) ?_
      repeat (go_big_quiet_step (fail))
      refine wpQuiet_nil ?_
      intro _ hw'
      obtain ⟨X1, rfl⟩ := hw'
      have HBX : Hid (Below w5.heap.size w5 X1.w) := HBR.out.trans (X1.h.mono HBR.out.size)
      generalize X1.w = W1 at HBX ⊢
      clear G0 G1 hgr
      go_wp2
      go_roundw
      case rel => exact ⟨k + 1, by omega, by omega, by first | rfl | go_num, HBX.out⟩
      case measure => simp [intOf]; omega
    obtain rfl : k = m := by omega
    have hnl : ¬ ((k : Int) < (k : Int)) := by omega
    go_wp2
    go_loopw [9] (fun i wz => ∃ p : Nat, p ≤ ad.pn ∧ i = .int .i64 p ∧ Hid (Below w5.heap.size w5 wz)) (fun i _ => ad.pn - (intOf i).toNat)
    case atStart => exact ⟨0, by omega, rfl, HBR.out⟩
    case round =>
      clear HBR
      obtain ⟨p, hp, rfl, HBZ⟩ := hrel
      have HBV : Hid (∀ X, Below wr.heap.size wr X → Below V.heap.size V X) := fun X hX => HB5.out.trans ((HBZ.out.trans (hX.mono HBZ.out.size)).mono HB5.out.size)
      have k15 : wr.cell? ⟨N, 15, none⟩ = some (.slice ad.pa ad.pn ad.pc) := TBx.cell (HX.out _ (HBV.out _ (Below.refl _ _))) 15 rfl
      have hp4 := HP4.out.2
      by_cases hlp : p < ad.pn
      · have hlp' : (p : Int) < (ad.pn : Int) := by omega
        have HSV : Hid (∀ x : Gr wr, Calls Tryz.prog 25 #[.slice (some ⟨bA, oA, none⟩) k c, .int .i64 (p : Int), .int .i64 2] x.w fun e w' => e = .returned (.int .i64 (smV zz (p : Int) 2 k)) ∧ Below x.w.heap.size x.w w') := fun x => HSU.out (p : Int) x.w (HSG5.out.below (HBZ.out.trans (x.h.mono HBZ.out.size)))
        have HCV : Hid (∀ x : Gr wr, Calls Tryz.prog 26 #[tbV t ad, .int .i64 (p : Int), .int .i64 f, .int .i64 u] x.w fun e w' => e = .returned (.int .i64 (smV zz (p : Int) 2 k)) ∧ Below x.w.heap.size x.w w') := fun x => (HCY.out (p : Int) x.w (HBV.out _ x.h)).mono fun e w' ⟨⟨r, h1, h2⟩, h3⟩ => ⟨by rw [h1, HSM.out (p : Int) (by omega) (by rw [HPN.out]; exact hlp') r h2], h3⟩
        generalize smV zz (p : Int) 2 k = y at HSV HCV
        have HXX : Hid (∀ X, (∃ x : Gr wr, X = x.w) → X.heap[N]? = some (.cells (tbA t ad) 33 (0, 0))) := fun X ⟨x, hx⟩ => by rw [hx]; exact HX.out _ (HBV.out _ x.h)
        have hyy : (y != y) = false := by simp
        go_wp2
        have hgr := gr_some wr
        refine region_alike (by kernel_rfl) (by kernel_rfl) ?_
        repeat (first | (refine wpQuiet_load_row rfl 33 (.tmp 3) rfl N rfl 33 (tbA t ad) (0, 0) _ HXX.out Tryz.underlying33 rfl (by kernel_rfl) ?_; simp only [Act.put, List.setIfInBounds_toArray, List.set_cons_zero, List.set_cons_succ]) | go_big_quiet_step (first | (go_at_call 25; exact gr_call (HSV.out _)) | (go_at_call 26; exact gr_call (HCV.out _))))
        refine wpQuiet_nil ?_
        intro _ hw'
        obtain ⟨X1, rfl⟩ := hw'
        have HBX : Hid (Below w5.heap.size w5 X1.w) := HBZ.out.trans (X1.h.mono HBZ.out.size)
        generalize X1.w = W1 at HBX ⊢
        clear hgr HSV HCV HXX k15 HBV
        go_wp2
        go_roundw
        case rel => exact ⟨p + 1, by omega, by first | rfl | go_num, HBX.out⟩
        case measure => simp [intOf]; omega
      · obtain rfl : p = ad.pn := by omega
        have hnp : ¬ ((ad.pn : Int) < (ad.pn : Int)) := by omega
        have HBE : Hid (Below w.heap.size w wr) := HB1.out.trans ((HBV.out _ (Below.refl _ _)).mono HB1.out.size)
        go_wp2
        go_ret
        exact ⟨rfl, HBE.out⟩
end Go.Proofs.YtlomcdgfcocmmaaGreatDoor
