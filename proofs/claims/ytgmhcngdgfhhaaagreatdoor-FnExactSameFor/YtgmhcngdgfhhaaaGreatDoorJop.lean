
/-
  Who reaches whom, on lists: what the specification's rounds and the program's search come to. No function of the program in sight; no conditions but those that each fact names.
-/
import Derived.Test.YtgmhcngdgfhhaaaGreatDoorBas
import Derived.Test.YtgmhcngdgfhhaaaGreatDoorCrs
namespace Go.Proofs.YtgmhcngdgfhhaaaGreatDoor
set_option linter.unusedVariables false

/-- A channel leads from q to r. -/
def Ed (cs : List chT) (q r : Int) : Prop := ∃ i, i < cs.length ∧ (((cs.getD i ch0).2.1 = q ∧ (cs.getD i ch0).2.2.1 = r) ∨ ((cs.getD i ch0).1 = 1 ∧ (cs.getD i ch0).2.2.1 = q ∧ (cs.getD i ch0).2.1 = r))
/-- How many ways lead from q to r over the first n channels. -/
def leadN (cs : List chT) : Nat → Int → Int → Nat
  | 0, _, _ => 0
  | n + 1, q, r => leadN cs n q r + (if (cs.getD n ch0).2.1 = q ∧ (cs.getD n ch0).2.2.1 = r then 1 else 0) + (if (cs.getD n ch0).1 = 1 ∧ (cs.getD n ch0).2.2.1 = q ∧ (cs.getD n ch0).2.1 = r then 1 else 0)
theorem lead_le (cs : List chT) (n : Nat) (q r : Int) : leadN cs n q r ≤ 2 * n := by
  induction n with
  | zero => simp [leadN]
  | succ n ih => rw [leadN]; split <;> split <;> omega
theorem lead_pos (cs : List chT) (n : Nat) (q r : Int) : 0 < leadN cs n q r ↔ ∃ i, i < n ∧ (((cs.getD i ch0).2.1 = q ∧ (cs.getD i ch0).2.2.1 = r) ∨ ((cs.getD i ch0).1 = 1 ∧ (cs.getD i ch0).2.2.1 = q ∧ (cs.getD i ch0).2.1 = r)) := by
  induction n with
  | zero => simp [leadN]
  | succ n ih =>
    rw [leadN]
    constructor
    · intro h
      by_cases h1 : (cs.getD n ch0).2.1 = q ∧ (cs.getD n ch0).2.2.1 = r
      · exact ⟨n, by omega, .inl h1⟩
      by_cases h2 : (cs.getD n ch0).1 = 1 ∧ (cs.getD n ch0).2.2.1 = q ∧ (cs.getD n ch0).2.1 = r
      · exact ⟨n, by omega, .inr h2⟩
      rw [if_neg h1, if_neg h2] at h
      obtain ⟨i, hi, g⟩ := ih.1 (by omega)
      exact ⟨i, by omega, g⟩
    · rintro ⟨i, hi, g⟩
      by_cases hin : i = n
      · subst hin
        rcases g with g | g
        · rw [if_pos g]; omega
        · rw [if_pos g]; omega
      · have := ih.2 ⟨i, by omega, g⟩
        omega
theorem lead_ed (cs : List chT) (q r : Int) : 0 < leadN cs cs.length q r ↔ Ed cs q r := lead_pos cs cs.length q r
/-- Who reaches p. -/
inductive Rc (cs : List chT) (p : Int) : Int → Prop
  | base : Rc cs p p
  | step {q r : Int} : Rc cs p r → Ed cs q r → Rc cs p q
theorem Rc.trans {cs : List chT} {p q r : Int} (h : Rc cs p q) (g : Rc cs q r) : Rc cs p r := by
  induction g with
  | base => exact h
  | step _ e ih => exact .step ih e
/-- All channels lead within n partitions. -/
def Wi (cs : List chT) (np : Nat) : Prop := ∀ i, i < cs.length → (0 ≤ (cs.getD i ch0).2.1 ∧ (cs.getD i ch0).2.1 < (np : Int)) ∧ (0 ≤ (cs.getD i ch0).2.2.1 ∧ (cs.getD i ch0).2.2.1 < (np : Int))
theorem Wi.ed {cs : List chT} {np : Nat} (h : Wi cs np) {q r : Int} (e : Ed cs q r) : 0 ≤ q ∧ q < (np : Int) := by
  obtain ⟨i, hi, g⟩ := e
  have := h i hi
  rcases g with ⟨g, _⟩ | ⟨_, g, _⟩ <;> rw [← g]
  · exact this.1
  · exact this.2
theorem Rc.wi {cs : List chT} {np : Nat} (h : Wi cs np) {p q : Int} (hp : 0 ≤ p ∧ p < (np : Int)) (g : Rc cs p q) : 0 ≤ q ∧ q < (np : Int) := by
  cases g with
  | base => exact hp
  | step _ e => exact h.ed e
structure Gd (cs : List chT) (np : Nat) (p : Int) (S : List Int) : Prop where
  nd : S.Nodup
  wi : ∀ x ∈ S, 0 ≤ x ∧ x < (np : Int)
  me : p ∈ S
  rc : ∀ x ∈ S, Rc cs p x
theorem Gd.one {cs : List chT} {np : Nat} {p : Int} (hp : 0 ≤ p ∧ p < (np : Int)) : Gd cs np p [p] :=
  ⟨by simp, fun x hx => by simp at hx; rw [hx]; exact hp, by simp, fun x hx => by simp at hx; rw [hx]; exact .base⟩
theorem nodup_snoc {S : List Int} {x : Int} (h : S.Nodup) (hx : x ∉ S) : (S ++ [x]).Nodup := by
  rw [List.nodup_append]
  refine ⟨h, by simp, fun a ha b hb => ?_⟩
  simp at hb
  subst hb
  exact fun e => hx (e ▸ ha)
theorem Gd.snoc {cs : List chT} {np : Nat} {p : Int} {S : List Int} (h : Gd cs np p S) (hw : Wi cs np) {q r : Int} (hr : r ∈ S) (e : Ed cs q r) (hq : q ∉ S) : Gd cs np p (S ++ [q]) :=
  ⟨nodup_snoc h.nd hq, fun x hx => by
    rcases List.mem_append.1 hx with g | g
    · exact h.wi x g
    · simp at g; rw [g]; exact hw.ed e, List.mem_append.2 (.inl h.me), fun x hx => by
    rcases List.mem_append.1 hx with g | g
    · exact h.rc x g
    · simp at g; rw [g]; exact .step (h.rc r hr) e⟩
theorem nodup_len : ∀ (np : Nat) (S : List Int), S.Nodup → (∀ x ∈ S, 0 ≤ x ∧ x < (np : Int)) → S.length ≤ np
  | 0, S, _, h => by
    cases S with
    | nil => simp
    | cons x S => have := h x (by simp); omega
  | np + 1, S, hn, h => by
    by_cases hm : (np : Int) ∈ S
    · have h1 := List.length_erase_of_mem hm
      have h2 := nodup_len np (S.erase (np : Int)) (hn.erase _) (fun x hx => by
        rw [hn.mem_erase_iff] at hx
        have := h x hx.2
        have := hx.1
        omega)
      have h3 : 0 < S.length := List.length_pos_of_mem hm
      omega
    · have := nodup_len np S hn (fun x hx => by
        have := h x hx
        have : x ≠ (np : Int) := fun e => hm (e ▸ hx)
        omega)
      omega
theorem Gd.len {cs : List chT} {np : Nat} {p : Int} {S : List Int} (h : Gd cs np p S) : S.length ≤ np := nodup_len np S h.nd h.wi

/-! ### The specification's rounds -/
def stp1 (S : List Int) (x : chT) : List Int := if x.2.2.1 ∈ S ∧ x.2.1 ∉ S then S ++ [x.2.1] else S
def stp2 (S : List Int) (x : chT) : List Int := if x.1 = 1 ∧ x.2.1 ∈ S ∧ x.2.2.1 ∉ S then S ++ [x.2.2.1] else S
def rnd (cs : List chT) : Nat → List Int → List Int
  | 0, S => S
  | k + 1, S => stp2 (stp1 (rnd cs k S) (cs.getD k ch0)) (cs.getD k ch0)
def its (cs : List chT) : Nat → List Int → List Int
  | 0, S => S
  | k + 1, S => rnd cs cs.length (its cs k S)
theorem stp1_pre (S : List Int) (x : chT) : S <+: stp1 S x := by
  unfold stp1; split
  · exact List.prefix_append _ _
  · exact List.prefix_refl _
theorem stp2_pre (S : List Int) (x : chT) : S <+: stp2 S x := by
  unfold stp2; split
  · exact List.prefix_append _ _
  · exact List.prefix_refl _
theorem rnd_pre (cs : List chT) (S : List Int) (k : Nat) : rnd cs k S <+: rnd cs (k + 1) S := (stp1_pre _ _).trans (stp2_pre _ _)
theorem rnd_mono (cs : List chT) (S : List Int) {k l : Nat} (h : k ≤ l) : rnd cs k S <+: rnd cs l S := by
  induction h with
  | refl => exact List.prefix_refl _
  | step _ ih => exact ih.trans (rnd_pre cs S _)
theorem Gd.stp1 {cs : List chT} {np : Nat} {p : Int} {S : List Int} (h : Gd cs np p S) (hw : Wi cs np) {k : Nat} (hk : k < cs.length) : Gd cs np p (stp1 S (cs.getD k ch0)) := by
  unfold Go.Proofs.YtgmhcngdgfhhaaaGreatDoor.stp1; split
  · rename_i g; exact h.snoc hw g.1 ⟨k, hk, .inl ⟨rfl, rfl⟩⟩ g.2
  · exact h
theorem Gd.stp2 {cs : List chT} {np : Nat} {p : Int} {S : List Int} (h : Gd cs np p S) (hw : Wi cs np) {k : Nat} (hk : k < cs.length) : Gd cs np p (stp2 S (cs.getD k ch0)) := by
  unfold Go.Proofs.YtgmhcngdgfhhaaaGreatDoor.stp2; split
  · rename_i g; exact h.snoc hw g.2.1 ⟨k, hk, .inr ⟨g.1, rfl, rfl⟩⟩ g.2.2
  · exact h
theorem Gd.rnd {cs : List chT} {np : Nat} {p : Int} {S : List Int} (h : Gd cs np p S) (hw : Wi cs np) : ∀ k, k ≤ cs.length → Gd cs np p (rnd cs k S)
  | 0, _ => h
  | k + 1, hk => ((h.rnd hw k (by omega)).stp1 hw (by omega)).stp2 hw (by omega)
theorem Gd.its {cs : List chT} {np : Nat} {p : Int} {S : List Int} (h : Gd cs np p S) (hw : Wi cs np) : ∀ k, Gd cs np p (its cs k S)
  | 0 => h
  | k + 1 => (h.its hw k).rnd hw _ (Nat.le_refl _)
def Cl (cs : List chT) (S : List Int) : Prop := ∀ q r, Ed cs q r → r ∈ S → q ∈ S
theorem Cl.rc {cs : List chT} {S : List Int} (h : Cl cs S) {p q : Int} (hp : p ∈ S) (g : Rc cs p q) : q ∈ S := by
  induction g with
  | base => exact hp
  | step _ e ih => exact h _ _ e ih
theorem stp1_id {S : List Int} {x : chT} (h : stp1 S x = S) : x.2.2.1 ∈ S → x.2.1 ∈ S := fun h1 => by
  by_cases h2 : x.2.1 ∈ S
  · exact h2
  · unfold stp1 at h
    rw [if_pos ⟨h1, h2⟩] at h
    have := congrArg List.length h
    simp at this
theorem stp2_id {S : List Int} {x : chT} (h : stp2 S x = S) : x.1 = 1 → x.2.1 ∈ S → x.2.2.1 ∈ S := fun h0 h1 => by
  by_cases h2 : x.2.2.1 ∈ S
  · exact h2
  · unfold stp2 at h
    rw [if_pos ⟨h0, h1, h2⟩] at h
    have := congrArg List.length h
    simp at this
theorem pre_eq {S T : List Int} (h : S <+: T) (hl : T.length ≤ S.length) : T = S := (h.eq_of_length (Nat.le_antisymm h.length_le hl)).symm
theorem rnd_cl {cs : List chT} {S : List Int} (h : (rnd cs cs.length S).length ≤ S.length) : Cl cs S := by
  have hk : ∀ k, k ≤ cs.length → rnd cs k S = S := fun k hk => pre_eq (rnd_mono cs S (Nat.zero_le k)) (Nat.le_trans (rnd_mono cs S hk).length_le h)
  rintro q r ⟨i, hi, g⟩ hr
  have h1 := hk (i + 1) (by omega)
  rw [rnd, hk i (by omega)] at h1
  have h2 : Go.Proofs.YtgmhcngdgfhhaaaGreatDoor.stp1 S (cs.getD i ch0) = S := pre_eq (stp1_pre _ _) (by have := (stp2_pre (stp1 S (cs.getD i ch0)) (cs.getD i ch0)).length_le; rw [h1] at this; exact this)
  rw [h2] at h1
  rcases g with ⟨rfl, rfl⟩ | ⟨g0, rfl, rfl⟩
  · exact stp1_id h2 hr
  · exact stp2_id h1 g0 hr
theorem cl_rnd {cs : List chT} {S : List Int} (h : Cl cs S) : ∀ k, k ≤ cs.length → rnd cs k S = S
  | 0, _ => rfl
  | k + 1, hk => by
    rw [rnd, cl_rnd h k (by omega)]
    have h1 : stp1 S (cs.getD k ch0) = S := by
      unfold stp1
      rw [if_neg (fun g => g.2 (h _ _ ⟨k, by omega, .inl ⟨rfl, rfl⟩⟩ g.1))]
    rw [h1]
    unfold stp2
    rw [if_neg (fun g => g.2.2 (h _ _ ⟨k, by omega, .inr ⟨g.1, rfl, rfl⟩⟩ g.2.1))]
theorem its_step (cs : List chT) (S : List Int) (hS : 0 < S.length) : ∀ k, Cl cs (its cs k S) ∨ k + 1 ≤ (its cs k S).length
  | 0 => .inr hS
  | k + 1 => by
    rcases its_step cs S hS k with h | h
    · refine .inl ?_
      rw [its, cl_rnd h _ (Nat.le_refl _)]
      exact h
    · by_cases hl : (rnd cs cs.length (its cs k S)).length ≤ (its cs k S).length
      · have hc := rnd_cl hl
        refine .inl ?_
        rw [its, cl_rnd hc _ (Nat.le_refl _)]
        exact hc
      · exact .inr (by rw [its]; omega)
theorem its_cl {cs : List chT} {np : Nat} {p : Int} {S : List Int} (h : Gd cs np p S) (hw : Wi cs np) : Cl cs (its cs np S) := by
  rcases its_step cs S (List.length_pos_of_mem h.me) np with g | g
  · exact g
  · have := (h.its hw np).len
    omega
theorem its_mem {cs : List chT} {np : Nat} {p : Int} (hp : 0 ≤ p ∧ p < (np : Int)) (hw : Wi cs np) (x : Int) : x ∈ its cs np [p] ↔ Rc cs p x :=
  ⟨fun h => ((Gd.one hp).its hw np).rc x h, fun h => (its_cl (Gd.one hp) hw).rc ((Gd.one hp).its hw np).me h⟩
/-- Those of a list among the first n, ascending. -/
def flt (S : List Int) : Nat → List Int
  | 0 => []
  | n + 1 => flt S n ++ (if (n : Int) ∈ S then [(n : Int)] else [])
theorem flt_mem (S : List Int) : ∀ (n : Nat) (x : Int), x ∈ flt S n ↔ (0 ≤ x ∧ x < (n : Int)) ∧ x ∈ S
  | 0, x => by simp [flt]; omega
  | n + 1, x => by
    rw [flt, List.mem_append, flt_mem S n x]
    by_cases h : (n : Int) ∈ S
    · rw [if_pos h]
      simp
      constructor
      · rintro (⟨h1, h2⟩ | rfl)
        · exact ⟨by omega, h2⟩
        · exact ⟨by omega, h⟩
      · rintro ⟨h1, h2⟩
        by_cases e : x = (n : Int)
        · exact .inr e
        · exact .inl ⟨by omega, h2⟩
    · rw [if_neg h]
      simp only [List.not_mem_nil, or_false]
      constructor
      · rintro ⟨h1, h2⟩; exact ⟨by omega, h2⟩
      · rintro ⟨h1, h2⟩
        have : x ≠ (n : Int) := fun e => h (e ▸ h2)
        exact ⟨by omega, h2⟩
theorem flt_asc (S : List Int) : ∀ n, (flt S n).Pairwise (· < ·)
  | 0 => by simp [flt]
  | n + 1 => by
    rw [flt, List.pairwise_append]
    refine ⟨flt_asc S n, by split <;> simp, fun a ha b hb => ?_⟩
    have h1 := (flt_mem S n a).1 ha
    split at hb
    · simp at hb; omega
    · simp at hb
theorem flt_len (S : List Int) : ∀ n, (flt S n).length ≤ n
  | 0 => by simp [flt]
  | n + 1 => by
    rw [flt, List.length_append]
    have := flt_len S n
    split <;> simp <;> omega
theorem asc_ext : ∀ {l m : List Int}, l.Pairwise (· < ·) → m.Pairwise (· < ·) → (∀ x, x ∈ l ↔ x ∈ m) → l = m
  | [], [], _, _, _ => rfl
  | [], y :: m, _, _, h => by have := (h y).2 (by simp); simp at this
  | x :: l, [], _, _, h => by have := (h x).1 (by simp); simp at this
  | x :: l, y :: m, hl, hm, h => by
    rw [List.pairwise_cons] at hl hm
    have hxy : x = y := by
      have h1 := (h x).1 (by simp)
      have h2 := (h y).2 (by simp)
      simp at h1 h2
      rcases h1 with h1 | h1
      · exact h1
      rcases h2 with h2 | h2
      · exact h2.symm
      have := hm.1 x h1
      have := hl.1 y h2
      omega
    subst hxy
    rw [asc_ext hl.2 hm.2 (fun z => by
      have := h z
      simp at this
      constructor
      · intro hz
        have h1 := hl.1 z hz
        rcases this.1 (.inr hz) with e | e
        · omega
        · exact e
      · intro hz
        have h1 := hm.1 z hz
        rcases this.2 (.inr hz) with e | e
        · omega
        · exact e)]
/-- What Joined comes to. -/
def joinV (cs : List chT) (np : Nat) (p : Int) : List Int := flt (its cs np [p]) np
theorem join_mem {cs : List chT} {np : Nat} {p : Int} (hp : 0 ≤ p ∧ p < (np : Int)) (hw : Wi cs np) (x : Int) : x ∈ joinV cs np p ↔ Rc cs p x := by
  unfold joinV
  rw [flt_mem, its_mem hp hw]
  exact ⟨fun h => h.2, fun h => ⟨h.wi hw hp, h⟩⟩
theorem join_of {cs : List chT} {np : Nat} {p : Int} (hp : 0 ≤ p ∧ p < (np : Int)) (hw : Wi cs np) {zs : List Int} (ha : zs.Pairwise (· < ·)) (hm : ∀ x, x ∈ zs ↔ Rc cs p x) : zs = joinV cs np p :=
  asc_ext ha (flt_asc _ _) (fun x => by rw [hm x]; exact (join_mem hp hw x).symm)

/-! ### The program's search -/
/-- Found so far; the first k have been gone through. -/
structure Bf (cs : List chT) (np : Nat) (p : Int) (F : List Int) (k : Nat) : Prop where
  gd : Gd cs np p F
  le : k ≤ F.length
  cl : ∀ j, j < k → ∀ q, Ed cs q (F.getD j 0) → q ∈ F
/-- As above, and of the next one the first i partitions. -/
structure Bg (cs : List chT) (np : Nat) (p : Int) (F : List Int) (k i : Nat) : Prop where
  gd : Gd cs np p F
  le : k < F.length
  cl : ∀ j, j < k → ∀ q, Ed cs q (F.getD j 0) → q ∈ F
  cn : ∀ q, q < (i : Int) → Ed cs q (F.getD k 0) → q ∈ F
theorem Bf.one {cs : List chT} {np : Nat} {p : Int} (hp : 0 ≤ p ∧ p < (np : Int)) : Bf cs np p [p] 0 := ⟨.one hp, by simp, fun j hj => by omega⟩
theorem Bf.start {cs : List chT} {np : Nat} {p : Int} {F : List Int} {k : Nat} (h : Bf cs np p F k) (hw : Wi cs np) (hk : k < F.length) : Bg cs np p F k 0 :=
  ⟨h.gd, hk, h.cl, fun q hq e => by have := hw.ed e; omega⟩
theorem Bg.done {cs : List chT} {np : Nat} {p : Int} {F : List Int} {k : Nat} (h : Bg cs np p F k np) (hw : Wi cs np) : Bf cs np p F (k + 1) :=
  ⟨h.gd, by have := h.le; omega, fun j hj q e => by
    by_cases hjk : j = k
    · subst hjk; exact h.cn q (hw.ed e).2 e
    · exact h.cl j (by omega) q e⟩
theorem Bg.skip {cs : List chT} {np : Nat} {p : Int} {F : List Int} {k i : Nat} (h : Bg cs np p F k i) (hs : ¬ Ed cs (i : Int) (F.getD k 0) ∨ (i : Int) ∈ F) : Bg cs np p F k (i + 1) :=
  ⟨h.gd, h.le, h.cl, fun q hq e => by
    by_cases hqi : q = (i : Int)
    · subst hqi
      rcases hs with hs | hs
      · exact absurd e hs
      · exact hs
    · exact h.cn q (by omega) e⟩
theorem getD_snoc {F : List Int} {x : Int} {j : Nat} (h : j < F.length) : (F ++ [x]).getD j 0 = F.getD j 0 := by
  simp only [List.getD, List.getElem?_append_left h]
theorem Bg.more {cs : List chT} {np : Nat} {p : Int} {F : List Int} {k i : Nat} (h : Bg cs np p F k i) (hw : Wi cs np) (e : Ed cs (i : Int) (F.getD k 0)) (hn : (i : Int) ∉ F) : Bg cs np p (F ++ [(i : Int)]) k (i + 1) := by
  have hk := h.le
  have hin : F.getD k 0 ∈ F := by
    have : F.getD k 0 = F[k] := by simp [List.getD, hk]
    rw [this]; exact List.getElem_mem hk
  refine ⟨h.gd.snoc hw hin e hn, by simp; omega, fun j hj q g => ?_, fun q hq g => ?_⟩
  · rw [getD_snoc (by omega)] at g
    exact List.mem_append.2 (.inl (h.cl j hj q g))
  · rw [getD_snoc hk] at g
    by_cases hqi : q = (i : Int)
    · exact List.mem_append.2 (.inr (by simp [hqi]))
    · exact List.mem_append.2 (.inl (h.cn q (by omega) g))
theorem Bf.fin {cs : List chT} {np : Nat} {p : Int} {F : List Int} (h : Bf cs np p F F.length) (x : Int) : x ∈ F ↔ Rc cs p x :=
  ⟨h.gd.rc x, fun g => by
    induction g with
    | base => exact h.gd.me
    | step _ e ih =>
      obtain ⟨j, hj, hjx⟩ := List.getElem_of_mem ih
      refine h.cl j hj _ ?_
      have : F.getD j 0 = F[j] := by simp [List.getD, hj]
      rw [this, hjx]
      exact e⟩
/-- Sorted, what was found is what Joined comes to. -/
theorem bf_sorted {cs : List chT} {np : Nat} {p : Int} {F : List Int} (hp : 0 ≤ p ∧ p < (np : Int)) (hw : Wi cs np) (h : Bf cs np p F F.length) : F.mergeSort (fun x y => decide (x ≤ y)) = joinV cs np p := by
  have hperm := List.mergeSort_perm F (fun x y => decide (x ≤ y))
  have hsort := List.pairwise_mergeSort (le := fun x y : Int => decide (x ≤ y)) (fun a b c h1 h2 => by simp at *; omega) (fun a b => by simp; omega) F
  refine join_of hp hw ?_ (fun x => by rw [hperm.mem_iff]; exact h.fin x)
  have hnd : (F.mergeSort (fun x y => decide (x ≤ y))).Nodup := hperm.nodup_iff.2 h.gd.nd
  have := List.Pairwise.and hsort hnd
  refine this.imp ?_
  intro a b g
  have h1 : a ≤ b := by simpa using g.1
  have h2 : a ≠ b := g.2
  omega
end Go.Proofs.YtgmhcngdgfhhaaaGreatDoor
