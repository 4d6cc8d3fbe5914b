/-
  Labels sorted by their names: plain facts on lists. No function of the program in sight.
  Labels picked one behind the other, the least first: plain facts on lists. No function of the program in sight.
-/
import Derived.Test.YtdjapcfejmhjnaaGreatDoorMpx
import Derived.Sort.KeysCollected
import Derived.Sort.Walk0
namespace Go.Proofs.YtdjapcfejmhjnaaGreatDoor
open Go.ChangeShapes Go.WideShapes Go.ChangeAt Go.RowKit Go.Deep Go.Maps
set_option linter.unusedVariables false
set_option maxRecDepth 20000

namespace Am
/-- A label's name, byte by byte. -/
def nml (p : ByteArray × Int) : List UInt8 := p.1.data.toList
theorem nml_inj {p q : ByteArray × Int} (h : nml p = nml q) : p.1 = q.1 := ByteArray.ext (Array.toList_inj.1 h)
def leN (p q : ByteArray × Int) : Bool := decide (nml p ≤ nml q)
/-- The labels, sorted by name. -/
def srt (ls : Labs) : Labs := ls.mergeSort leN
theorem leN_trans (a b c : ByteArray × Int) (h1 : leN a b = true) (h2 : leN b c = true) : leN a c = true := by
  simp only [leN, decide_eq_true_eq] at *
  exact List.le_trans h1 h2
theorem leN_total (a b : ByteArray × Int) : (leN a b || leN b a) = true := by
  simp only [leN, Bool.or_eq_true, decide_eq_true_eq]
  exact List.le_total _ _
theorem srt_perm (ls : Labs) : (srt ls).Perm ls := List.mergeSort_perm ls leN
theorem srt_sorted (ls : Labs) : (srt ls).Pairwise (fun p q => nml p ≤ nml q) := by
  have := List.pairwise_mergeSort leN_trans leN_total ls
  exact this.imp (fun h => by simpa [leN] using h)
theorem find_mem (ls : Labs) (x : ByteArray) (h0 : 0 ≤ find ls x) : ∃ p ∈ ls, p.1 = x := by
  induction ls with
  | nil => simp [find] at h0
  | cons p ls ih =>
    rw [find] at h0
    by_cases e : p.1 = x
    · exact ⟨p, by simp, e⟩
    · rw [if_neg e] at h0
      obtain ⟨q, hq, e⟩ := ih h0
      exact ⟨q, by simp [hq], e⟩
theorem Good.found {ls : Labs} (h : Good ls) : ∀ p ∈ ls, find ls p.1 = p.2 := by
  induction h with
  | nil => intro p hp; cases hp
  | @snoc ls x n hg h1 hx h2 h3 ih =>
    intro p hp
    rw [find_snoc ls x p.1 n (fun q hq => (hg.range q hq).1)]
    rw [List.mem_append, List.mem_singleton] at hp
    rcases hp with hp | rfl
    · have := ih p hp
      have hr := (hg.range p hp).1
      rw [this, if_pos hr]
    · rw [if_neg (by simp only; omega), if_pos rfl]
theorem Good.nodup {ls : Labs} (h : Good ls) : (ls.map nml).Nodup := by
  induction h with
  | nil => simp
  | @snoc ls x n hg h1 hx h2 h3 ih =>
    rw [List.map_append, List.nodup_append]
    refine ⟨ih, by simp, ?_⟩
    intro a ha b hb e
    rw [List.map_cons, List.map_nil, List.mem_singleton] at hb
    subst hb
    subst e
    obtain ⟨q, hq, e⟩ := List.mem_map.1 ha
    have e2 : q.1 = x := nml_inj (p := q) (q := (x, n)) e
    have h4 := hg.found q hq
    have h5 := (hg.range q hq).1
    rw [e2] at h4
    omega
theorem Good.mem_find {ls : Labs} (h : Good ls) (x : ByteArray) : (∃ p ∈ ls, p.1 = x) ↔ 0 ≤ find ls x := by
  constructor
  · rintro ⟨p, hp, rfl⟩
    rw [h.found p hp]
    exact (h.range p hp).1
  · exact find_mem ls x
theorem srt_nodup {ls : Labs} (h : Good ls) : ((srt ls).map nml).Nodup := List.Perm.nodup ((srt_perm ls).map nml).symm h.nodup
/-- The sorted names: any list of the map's keys, sorted. -/
theorem sorted_names {ls : Labs} {ss : List (List UInt8)} (hp : ss.Perm (ls.map nml)) : ss.mergeSort (fun x y => decide (x ≤ y)) = (srt ls).map nml := by
  have tr : ∀ a b c : List UInt8, leB a b = true → leB b c = true → leB a c = true := fun a b c h1 h2 => by simp only [leB, decide_eq_true_eq] at *; exact List.le_trans h1 h2
  have tot : ∀ a b : List UInt8, (leB a b || leB b a) = true := fun a b => by simp only [leB, Bool.or_eq_true, decide_eq_true_eq]; exact List.le_total a b
  have h1 : (ss.mergeSort leB).Pairwise (fun a b => a ≤ b) := (List.pairwise_mergeSort tr tot ss).imp (fun h => by simpa [leB] using h)
  have h2 : ((srt ls).map nml).Pairwise (fun a b => a ≤ b) := List.pairwise_map.2 (srt_sorted ls)
  exact List.Perm.eq_of_pairwise (le := fun a b => a ≤ b) (fun a b _ _ h1 h2 => List.le_antisymm h1 h2) h1 h2 (((List.mergeSort_perm ss leB).trans hp).trans ((srt_perm ls).map nml).symm)
end Am
theorem keys_perm {w : World} {b : Nat} {ls : Am.Labs} (h : LbMap w b ls) (hg : Am.Good ls) : (ls.map Am.nml).Perm (strKeys (dm ls)) := by
  refine Collected.perm (left := fun _ => false) ⟨hg.nodup, fun x => ?_⟩ h law9 Tryz.underlying9 (fun _ => rfl)
  have h1 := (dm_find hg ⟨x.toArray⟩).1
  have hk : kl ⟨x.toArray⟩ = .string x := by simp [kl]
  rw [hk] at h1
  rw [h1, List.mem_map]
  simp only [decide_eq_true_eq, and_true]
  rw [← hg.mem_find]
  constructor
  · rintro ⟨p, hp, e⟩
    exact ⟨p, hp, ByteArray.ext (Array.toList_inj.1 (by simpa [Am.nml] using e))⟩
  · rintro ⟨p, hp, e⟩
    exact ⟨p, hp, by simp [Am.nml, e]⟩
end Go.Proofs.YtdjapcfejmhjnaaGreatDoor
namespace Go.Proofs.YtdjapcfejmhjnaaGreatDoor
open Go.ChangeShapes Go.WideShapes Go.ChangeAt Go.RowKit Go.Deep Go.Maps
set_option linter.unusedVariables false
set_option maxRecDepth 20000

namespace Am
theorem lt_le {a b c : List UInt8} (h : a < b) (g : b ≤ c) : a < c := by
  rcases Classical.em (a < c) with k | k
  · exact k
  · exact absurd h (List.le_trans g (List.not_lt.1 k))
/-- Whether a name comes behind the last one told. -/
def el : Option ByteArray → ByteArray → Bool
  | none, _ => true
  | some y, x => !(Op.bytesLess x.toList y.toList || x.toList == y.toList)
/-- Whether a name is less than the best one so far. -/
def bt : Option ByteArray → ByteArray → Bool
  | none, _ => true
  | some b, x => Op.bytesLess x.toList b.toList
theorem el_some (y x : ByteArray) : el (some y) x = true ↔ y.data.toList < x.data.toList := by
  show (!(Op.bytesLess x.toList y.toList || x.toList == y.toList)) = true ↔ _
  rw [bytesLess_eq, ByteArray.toList_eq, ByteArray.toList_eq]
  simp only [Bool.not_eq_true', Bool.or_eq_false_iff, decide_eq_false_iff_not, beq_eq_false_iff_ne]
  constructor
  · rintro ⟨h1, h2⟩
    rcases List.le_total x.data.toList y.data.toList with h | h
    · exact absurd (List.le_antisymm h (List.not_lt.1 h1)) h2
    · rcases Classical.em (y.data.toList < x.data.toList) with g | g
      · exact g
      · exact absurd (List.le_antisymm (List.not_lt.1 g) h) h2
  · intro h
    exact ⟨fun g => List.lt_irrefl _ (List.lt_trans g h), fun e => List.lt_irrefl _ (by rw [e] at h; exact h)⟩
theorem bt_some (b x : ByteArray) : bt (some b) x = true ↔ x.data.toList < b.data.toList := by
  show Op.bytesLess x.toList b.toList = true ↔ _
  rw [bytesLess_eq, ByteArray.toList_eq, ByteArray.toList_eq, decide_eq_true_eq]
def nmAt (ls : Labs) (j : Nat) : ByteArray := (ls.getD j (⟨#[]⟩, 0)).1
/-- The best place behind i names. -/
def sel (ls : Labs) (last : Option ByteArray) : Nat → Option Nat
  | 0 => none
  | i + 1 => if (el last (nmAt ls i) && bt ((sel ls last i).map (nmAt ls)) (nmAt ls i)) = true then some i else sel ls last i
theorem sel_inv (ls : Labs) (last : Option ByteArray) : ∀ i, (sel ls last i = none → ∀ j, j < i → el last (nmAt ls j) = false) ∧ (∀ b, sel ls last i = some b → b < i ∧ el last (nmAt ls b) = true ∧ ∀ j, j < i → el last (nmAt ls j) = true → (nmAt ls b).data.toList ≤ (nmAt ls j).data.toList)
  | 0 => ⟨fun _ j h => absurd h (by omega), fun b h => by cases h⟩
  | i + 1 => by
    have ih := sel_inv ls last i
    rw [sel]
    by_cases h : (el last (nmAt ls i) && bt ((sel ls last i).map (nmAt ls)) (nmAt ls i)) = true
    · rw [if_pos h]
      rw [Bool.and_eq_true] at h
      refine ⟨(fun e => by cases e), fun b e => ?_⟩
      cases e
      refine ⟨by omega, h.1, fun j hj hej => ?_⟩
      by_cases e : j = i
      · subst e; exact List.le_refl _
      · have hj' : j < i := by omega
        cases hs : sel ls last i with
        | none =>
          have := ih.1 hs j hj'
          rw [this] at hej; cases hej
        | some b =>
          have h2 := h.2
          rw [hs] at h2
          have hlt := (bt_some _ _).1 h2
          have hle := (ih.2 b hs).2.2 j hj' hej
          exact List.not_lt.1 (fun g => List.lt_irrefl _ (lt_le (List.lt_trans g hlt) hle))
    · rw [if_neg h]
      have h' : (el last (nmAt ls i) && bt ((sel ls last i).map (nmAt ls)) (nmAt ls i)) = false := by simpa using h
      refine ⟨fun e j hj => ?_, fun b e => ?_⟩
      · by_cases ej : j = i
        · subst ej
          rw [e] at h'
          simpa [bt] using h'
        · exact ih.1 e j (by omega)
      · obtain ⟨h1, h2, h3⟩ := ih.2 b e
        refine ⟨by omega, h2, fun j hj hej => ?_⟩
        by_cases ej : j = i
        · subst ej
          rw [hej, e, Bool.true_and] at h'
          have hn : ¬ (nmAt ls j).data.toList < (nmAt ls b).data.toList := fun g => by
            have := (bt_some (nmAt ls b) (nmAt ls j)).2 g
            rw [Option.map_some, this] at h'
            cases h'
          exact List.not_lt.1 hn
        · exact h3 j (by omega) hej
theorem srt_strict {ls : Labs} (h : Good ls) : (srt ls).Pairwise (fun p q => nml p < nml q) := by
  have h1 := srt_sorted ls
  have h2 : (srt ls).Pairwise (fun p q => nml p ≠ nml q) := List.pairwise_map.1 (srt_nodup h)
  refine (h1.and h2).imp (fun {p q} ⟨a, b⟩ => ?_)
  rcases Classical.em (nml p < nml q) with g | g
  · exact g
  · exact absurd (List.le_antisymm a (List.not_lt.1 g)) b
def lastOf (S : Labs) : Nat → Option ByteArray
  | 0 => none
  | k + 1 => some (nmAt S k)
theorem getD_lt {ls : Labs} {j : Nat} (h : j < ls.length) : ls.getD j (⟨#[]⟩, 0) = ls[j] := by simp [List.getD, h]
/-- The place that is picked behind k labels is that of the k-th in order. -/
theorem sel_ok {ls : Labs} (h : Good ls) (k : Nat) (hk : k < (srt ls).length) : ∃ j, j < ls.length ∧ sel ls (lastOf (srt ls) k) ls.length = some j ∧ ls.getD j (⟨#[]⟩, 0) = (srt ls).getD k (⟨#[]⟩, 0) := by
  have hst := srt_strict h
  have hpw := List.pairwise_iff_getElem.1 hst
  obtain ⟨hn, hs⟩ := sel_inv ls (lastOf (srt ls) k) ls.length
  -- the k-th in order is among the labels, and comes behind the last
  have hmem : (srt ls)[k] ∈ ls := (srt_perm ls).mem_iff.1 (List.getElem_mem hk)
  obtain ⟨jk, hjk, ejk⟩ := List.getElem_of_mem hmem
  have hel : el (lastOf (srt ls) k) (nmAt ls jk) = true := by
    cases k with
    | zero => rfl
    | succ k =>
      show el (some (nmAt (srt ls) k)) _ = true
      rw [el_some]
      unfold nmAt
      rw [getD_lt hjk, getD_lt (by omega), ejk]
      exact hpw k (k + 1) (by omega) hk (by omega)
  cases hsel : sel ls (lastOf (srt ls) k) ls.length with
  | none => have := hn hsel jk hjk; rw [this] at hel; cases hel
  | some b =>
    obtain ⟨hb, heb, hmin⟩ := hs b hsel
    refine ⟨b, hb, rfl, ?_⟩
    rw [getD_lt hb, getD_lt hk]
    have hle := hmin jk hjk hel
    unfold nmAt at hle
    rw [getD_lt hb, getD_lt hjk, ejk] at hle
    -- where the picked one stands in the order
    have hmb : ls[b] ∈ srt ls := (srt_perm ls).mem_iff.2 (List.getElem_mem hb)
    obtain ⟨m, hm, em⟩ := List.getElem_of_mem hmb
    have hge : k ≤ m := by
      cases k with
      | zero => omega
      | succ k =>
        have heb' : el (some (nmAt (srt ls) k)) (nmAt ls b) = true := heb
        rw [el_some] at heb'
        unfold nmAt at heb'
        rw [getD_lt hb, getD_lt (by omega), ← em] at heb'
        rcases Nat.lt_or_ge m (k + 1) with g | g
        · exfalso
          rcases Nat.lt_or_ge m k with g2 | g2
          · exact List.lt_irrefl _ (List.lt_trans heb' (hpw m k (by omega) (by omega) g2))
          · have : m = k := by omega
            subst this
            exact List.lt_irrefl _ heb'
        · exact g
    rcases Nat.lt_or_ge k m with g | g
    · exfalso
      have hlt := hpw k m hk hm g
      rw [em] at hlt
      exact List.lt_irrefl _ (lt_le hlt hle)
    · have : m = k := by omega
      subst this
      exact em.symm
end Am
end Go.Proofs.YtdjapcfejmhjnaaGreatDoor
