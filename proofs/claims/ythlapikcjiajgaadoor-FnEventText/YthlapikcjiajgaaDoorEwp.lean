
/-
  The words of an event's text: how long they are together; what the readers of a word say, the specification's and the program's own; which texts say an event. Condition: the program's table of names lies in memory as the text lays it.
-/
import Derived.Test.YthlapikcjiajgaaDoorBas
import Derived.Test.YthlapikcjiajgaaDoorEvn
namespace Go.Proofs.YthlapikcjiajgaaDoor
open Go.ChangeShapes Go.WideShapes Go.ChangeAt Go.RowKit Go.Deep
set_option linter.unusedVariables false
set_option maxRecDepth 20000

namespace Sp
theorem glue_short (p : List UInt8) (R : List (List UInt8)) (n : Nat) (hp : p.length ≤ 1) (h : ∀ x ∈ R, x.length ≤ n) : ∀ x ∈ glue p R, x.length ≤ n + 1 := by
  cases R with
  | nil => intro x hx; simp [glue] at hx; subst hx; omega
  | cons y r =>
    intro x hx
    simp only [glue, List.mem_cons] at hx
    rcases hx with rfl | hx
    · have := h y (by simp)
      simp
      omega
    · have := h x (by simp [hx])
      omega
theorem cut_short (c : UInt8) : ∀ l, ∀ x ∈ cut c l, x.length ≤ l.length
  | [] => by simp [cut]
  | b :: l => by
    have ih := cut_short c l
    unfold cut
    split
    · intro x hx
      simp only [List.mem_cons] at hx
      rcases hx with rfl | hx
      · simp
      · have := ih x hx
        simp
        omega
    · exact glue_short [b] _ l.length (by simp) ih
theorem texts_short (c : UInt8) (s : ByteArray) : ∀ x ∈ texts c s, x.size ≤ s.size := by
  intro x hx
  unfold texts at hx
  rw [List.mem_map] at hx
  obtain ⟨l, hl, rfl⟩ := hx
  have := cut_short c _ l hl
  show l.toArray.size ≤ _
  rw [List.size_toArray]
  exact this

theorem glue_sum (p : List UInt8) : ∀ R : List (List UInt8), R ≠ [] → ((glue p R).map List.length).sum = p.length + (R.map List.length).sum
  | [], h => absurd rfl h
  | y :: R, _ => by simp [glue]; omega
theorem cut_sum (c : UInt8) : ∀ l, ((cut c l).map List.length).sum + (cut c l).length = l.length + 1
  | [] => by simp [cut]
  | b :: l => by
    have ih := cut_sum c l
    unfold cut
    split
    · simp; omega
    · rw [glue_sum _ _ (cut_ne c l)]
      have : (glue [b] (cut c l)).length = (cut c l).length := by
        cases h : cut c l with
        | nil => exact absurd h (cut_ne c l)
        | cons y r => simp [glue]
      rw [this]
      simp
      omega
theorem texts_sum (c : UInt8) (s : ByteArray) : ((texts c s).map ByteArray.size).sum + (texts c s).length = s.size + 1 := by
  have h := cut_sum c s.data.toList
  have e : (texts c s).map ByteArray.size = (cut c s.data.toList).map List.length := by
    unfold texts
    rw [List.map_map]
    apply List.map_congr_left
    intro x _
    show x.toArray.size = _
    rw [List.size_toArray]
  rw [e]
  unfold texts
  rw [List.length_map]
  exact h
end Sp
namespace Ex
def hexv (x : ByteArray) : Int := if x.size = 8 then Wd.hexN x else 0
def hexq (x : ByteArray) : Bool := if x.size = 8 then Wd.hexOk x else false
def opf (s : ByteArray) : Int := match (List.range 33).find? (fun t => (nm t).toList == s.toList) with | some t => (t : Int) | none => -1
theorem opf_miss (s : ByteArray) (h : NoneUp s 33) : opf s = -1 := by
  unfold opf
  rw [List.find?_eq_none.2]
  intro t ht
  rw [List.mem_range] at ht
  rw [h t ht]
  exact Bool.false_ne_true
theorem opf_hit (s : ByteArray) (t : Nat) (ht : t < 33) (he : ((nm t).toList == s.toList) = true) (hn : NoneUp s t) : opf s = t := by
  unfold opf
  have : (List.range 33).find? (fun t => (nm t).toList == s.toList) = some t := by
    rw [List.find?_range_eq_some]
    refine ⟨he, by rw [List.mem_range]; exact ht, fun j hj => ?_⟩
    rw [hn j hj]
    rfl
  rw [this]
theorem opf_rng (s : ByteArray) : opf s = -1 ∨ (0 ≤ opf s ∧ opf s < 33 ∧ nm (opf s).toNat = s) := by
  rcases up_or s 33 with h | ⟨t, ht, he, hn⟩
  · exact .inl (opf_miss s h)
  · right
    rw [opf_hit s t ht he hn]
    refine ⟨by omega, by omega, ?_⟩
    have e : (nm t).toList = s.toList := by simpa using he
    rw [show ((t : Int)).toNat = t by omega]
    apply ByteArray.ext
    apply Array.toList_inj.1
    rw [ByteArray.toList_eq, ByteArray.toList_eq] at e
    exact e
end Ex
theorem spec_op (s : ByteArray) (w : World) : Calls Tryd.prog 25 #[.string s] w fun e w' => e = .returned (.int .i64 (Ex.opf s)) ∧ Below w.heap.size w w' := by
  rcases up_or s 33 with h | ⟨t, ht, he, hn⟩
  · rw [Ex.opf_miss s h]; exact spec_of_miss s w h
  · rw [Ex.opf_hit s t ht he hn]; exact spec_of_hit s t w ht he hn
theorem impl_op (s : ByteArray) (w : World) (hT : TabN w) : Calls Tryd.prog 43 #[.string s] w fun e w' => e = .returned (.int .i64 (Ex.opf s)) ∧ w' = w := by
  rcases up_or s 33 with h | ⟨t, ht, he, hn⟩
  · rw [Ex.opf_miss s h]; exact impl_of_miss s w hT h
  · rw [Ex.opf_hit s t ht he hn]; exact impl_of_hit s t w hT ht he hn
theorem spec_hx (s : ByteArray) (w : World) (hs : s.size ≤ 1048576) : Calls Tryd.prog 24 #[.string s] w fun e w' => e = .returned (.tuple #[.int .u32 (Ex.hexv s), .bool (Ex.hexq s)]) ∧ w' = w := by
  by_cases h : s.size = 8
  · unfold Ex.hexv Ex.hexq; rw [if_pos h, if_pos h]; exact spec_hexnum s w h
  · unfold Ex.hexv Ex.hexq; rw [if_neg h, if_neg h]; exact spec_hexnum_no s w h hs
theorem impl_hx (s : ByteArray) (w : World) (hs : s.size ≤ 1048576) : Calls Tryd.prog 42 #[.string s] w fun e w' => e = .returned (.tuple #[.int .u32 (Ex.hexv s), .bool (Ex.hexq s)]) ∧ Below w.heap.size w w' := by
  by_cases h : s.size = 8
  · unfold Ex.hexv Ex.hexq; rw [if_pos h, if_pos h]; exact impl_hexnum s w h
  · unfold Ex.hexv Ex.hexq; rw [if_neg h, if_neg h]; exact impl_hexnum_no s w h hs
namespace Ex
def wgt (ws : List ByteArray) (i : Nat) : ByteArray := ws.getD i ⟨#[]⟩
def opq (x : ByteArray) : Bool := decide (0 ≤ opf x) || decide (x = dash)
def good (ws : List ByteArray) : Bool := rdq (wgt ws 0) && (rdq (wgt ws 1) && (rdq (wgt ws 4) && (rdq (wgt ws 5) && (hexq (wgt ws 2) && (hexq (wgt ws 6) && opq (wgt ws 3))))))
def says (ws : List ByteArray) : evT := (rdv (wgt ws 0), rdv (wgt ws 1), hexv (wgt ws 2), opf (wgt ws 3), rdv (wgt ws 4), rdv (wgt ws 5), hexv (wgt ws 6))
theorem rdq_size (x : ByteArray) (h : rdq x = true) : x.size ≤ 11 := by
  rcases Nat.lt_or_ge 11 x.size with g | g
  · exfalso
    unfold rdq rdn Dc.ans at h
    rw [if_pos (by omega), Dc.num_long _ _ (by omega) (by omega) (by rw [Tx.nums_len]; omega)] at h
    cases h
  · exact g
theorem hexq_size (x : ByteArray) (h : hexq x = true) : x.size ≤ 8 := by
  unfold hexq at h
  split at h
  · omega
  · cases h
theorem opq_size (x : ByteArray) (h : opq x = true) : x.size ≤ 5 := by
  unfold opq at h
  rw [Bool.or_eq_true, decide_eq_true_eq, decide_eq_true_eq] at h
  rcases h with h | h
  · rcases opf_rng x with g | ⟨g1, g2, g3⟩
    · omega
    · rw [← g3]; exact (nm_size _ (by omega)).2
  · rw [h]; decide
theorem list7 {α : Type} (ws : List α) (h : ws.length = 7) : ∃ a b c d e f g, ws = [a, b, c, d, e, f, g] := by
  match ws, h with
  | [a, b, c, d, e, f, g], _ => exact ⟨a, b, c, d, e, f, g, rfl⟩
theorem good_size (s : ByteArray) (h : (Sp.texts 32 s).length = 7) (hg : good (Sp.texts 32 s) = true) : s.size ≤ 100 := by
  have hsum := Sp.texts_sum 32 s
  revert h hg hsum
  generalize Sp.texts 32 s = ws
  intro h hg hsum
  obtain ⟨a, b, c, d, e, f, g, rfl⟩ := list7 ws h
  simp only [good, wgt, Bool.and_eq_true] at hg
  obtain ⟨g0, g1, g4, g5, g2, g6, g3⟩ := hg
  have k0 := rdq_size _ g0
  have k1 := rdq_size _ g1
  have k4 := rdq_size _ g4
  have k5 := rdq_size _ g5
  have k2 := hexq_size _ g2
  have k6 := hexq_size _ g6
  have k3 := opq_size _ g3
  simp at k0 k1 k2 k3 k4 k5 k6 hsum
  omega
end Ex
end Go.Proofs.YthlapikcjiajgaaDoor
