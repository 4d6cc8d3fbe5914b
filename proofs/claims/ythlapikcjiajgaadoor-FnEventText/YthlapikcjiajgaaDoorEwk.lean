
/-
  EventOf: one answer for the specification and the program. Conditions: texts are at most 1048576 bytes long; the program's table of names and the library's variable lie in memory as the texts lay them.
-/
import Derived.Test.YthlapikcjiajgaaDoorBas
import Derived.Test.YthlapikcjiajgaaDoorEwj
namespace Go.Proofs.YthlapikcjiajgaaDoor
open Go.ChangeShapes Go.WideShapes Go.ChangeAt Go.RowKit Go.Deep
set_option linter.unusedVariables false

namespace Ex
def evo (s : ByteArray) : evT × Bool := if (Sp.texts 32 s).length = 7 ∧ good (Sp.texts 32 s) = true then (says (Sp.texts 32 s), true) else ((0, 0, 0, 0, 0, 0, 0), false)
end Ex
theorem OwnN.at4 {w : World} {base n : Nat} {v : Value} {zs : List Int} (h : OwnN w base v zs) (hn : zs.length = n + 1) : ∃ g cap, v = .slice (some ⟨g, 0, none⟩) (n + 1) cap ∧ ∀ i x, zs[i]? = some x → w.cell? ⟨g, i, none⟩ = some (.int .i64 x) := by
  obtain ⟨a, cap, hv, hcap, hf⟩ := OwnN.flds h
  rcases h.2 with ⟨h0, h1⟩ | ⟨g, cap2, cur, rfl, hb, hg, h1, h2, h3, h4⟩
  · omega
  · rw [hn] at hv
    refine ⟨g, cap2, by rw [hn], fun i x hi => ?_⟩
    obtain ⟨b, off, e, _, hc⟩ := hf (by omega)
    rw [e] at hv
    cases hv
    have := hc i x hi
    rw [Nat.zero_add] at this
    exact this
theorem nums4 (y0 y1 y4 y5 : ByteArray) (z0 : y0.size ≤ 1048576) (z1 : y1.size ≤ 1048576) (z4 : y4.size ≤ 1048576) (z5 : y5.size ≤ 1048576) (X : World) (N : Nat) (h : X.heap[N]? = some (.cells #[.string y0, .string y1, .string y4, .string y5] 9 (0, 0))) :
    Calls Tryd.prog 23 #[.slice (some ⟨N, 0, none⟩) 4 4] X fun e w' => ∃ V Q, e = .returned (.tuple #[V, .bool Q]) ∧ Below X.heap.size X w' ∧ NV w' V Q (Ex.rdq y0 && (Ex.rdq y1 && (Ex.rdq y4 && Ex.rdq y5))) (Ex.rdv y0) (Ex.rdv y1) (Ex.rdv y4) (Ex.rdv y5) := by
  refine (spec_nums N 0 4 [y0, y1, y4, y5] 4 X rfl (by omega) (row_lt h) ?_ ?_).mono ?_
  · intro i x hi
    rw [Nat.zero_add]
    refine row_cell h i ?_
    have e : (#[.string y0, .string y1, .string y4, .string y5] : Array Value)[i]? = (([y0, y1, y4, y5] : List ByteArray).map Value.string)[i]? := by simp
    rw [e, List.getElem?_map, hi]
    rfl
  · intro x hx
    simp only [List.mem_cons, List.not_mem_nil, or_false] at hx
    rcases hx with rfl | rfl | rfl | rfl
    · exact z0
    · exact z1
    · exact z4
    · exact z5
  · rintro e w' ⟨v, q, rfl, hb, hq, ho⟩
    refine ⟨v, q, rfl, hb, ?_, fun hqt => ?_⟩
    · have := hq.out
      simpa [List.all] using this
    · obtain ⟨g, cap, rfl, hc⟩ := OwnN.at4 (n := 3) (ho.out hqt) rfl
      exact ⟨g, cap, rfl, hc 0 _ rfl, hc 1 _ rfl, hc 2 _ rfl, hc 3 _ rfl⟩
theorem texts_small (s : ByteArray) (hs : s.size ≤ 1048576) (j : Nat) : (Ex.wgt (Sp.texts 32 s) j).size ≤ 1048576 := by
  unfold Ex.wgt
  rw [List.getD_eq_getElem?_getD]
  cases h : (Sp.texts 32 s)[j]? with
  | none => decide
  | some x => exact Nat.le_trans (Sp.texts_short 32 s x (List.mem_of_getElem? h)) hs
theorem spec_evo (s : ByteArray) (w : World) (hs : s.size ≤ 1048576) :
    Calls Tryd.prog 9 #[.string s] w fun e w' => e = .returned (.tuple #[evV (Ex.evo s).1, .bool (Ex.evo s).2]) ∧ Below w.heap.size w w' := by
  by_cases hl : 100 < s.size
  · have e : Ex.evo s = ((0, 0, 0, 0, 0, 0, 0), false) := by
      unfold Ex.evo
      rw [if_neg]
      rintro ⟨h1, h2⟩
      have := Ex.good_size s h1 h2
      omega
    rw [e]
    exact spec_evof_long s hl hs w
  · have hl2 : s.size ≤ 100 := by omega
    by_cases h7 : (Sp.texts 32 s).length = 7
    · have hsm := texts_small s hs
      have hsp := fun X => spec_split s X hs
      unfold Ex.evo
      revert h7 hsm hsp
      generalize Sp.texts 32 s = ws
      intro h7 hsm hsp
      obtain ⟨y0, y1, y2, y3, y4, y5, y6, rfl⟩ := Ex.list7 ws h7
      have HSP : Hid (∀ X, Calls Tryd.prog 22 #[.string s] X fun e w' => ∃ g off cap, e = .returned (.slice (some ⟨g, off, none⟩) 7 cap) ∧ Below X.heap.size X w' ∧ w'.cell? ⟨g, off, none⟩ = some (.string y0) ∧ w'.cell? ⟨g, off + 1, none⟩ = some (.string y1) ∧ w'.cell? ⟨g, off + 2, none⟩ = some (.string y2) ∧ w'.cell? ⟨g, off + 3, none⟩ = some (.string y3) ∧ w'.cell? ⟨g, off + 4, none⟩ = some (.string y4) ∧ w'.cell? ⟨g, off + 5, none⟩ = some (.string y5) ∧ w'.cell? ⟨g, off + 6, none⟩ = some (.string y6)) := fun X =>
        (hsp X).mono fun e w' ⟨a, cap, he, _, hf, hb⟩ => by
          obtain ⟨g, off, rfl, _, hc⟩ := hf (by simp)
          exact ⟨g, off, cap, he, hb, hc 0 _ rfl, hc 1 _ rfl, hc 2 _ rfl, hc 3 _ rfl, hc 4 _ rfl, hc 5 _ rfl, hc 6 _ rfl⟩
      have z0 := hsm 0
      have z1 := hsm 1
      have z2 := hsm 2
      have z4 := hsm 4
      have z5 := hsm 5
      have z6 := hsm 6
      have KN : Hid (∀ (X : World) (N : Nat), X.heap[N]? = some (.cells #[.string y0, .string y1, .string y4, .string y5] 9 (0, 0)) → Calls Tryd.prog 23 #[.slice (some ⟨N, 0, none⟩) 4 4] X fun e w' => ∃ V Q, e = .returned (.tuple #[V, .bool Q]) ∧ Below X.heap.size X w' ∧ NV w' V Q (Ex.rdq y0 && (Ex.rdq y1 && (Ex.rdq y4 && Ex.rdq y5))) (Ex.rdv y0) (Ex.rdv y1) (Ex.rdv y4) (Ex.rdv y5)) := fun X N h => nums4 y0 y1 y4 y5 z0 z1 z4 z5 X N h
      have K2 := fun X => spec_hx y2 X z2
      have K6 := fun X => spec_hx y6 X z6
      have KO := fun X => spec_op y3 X
      have hgd : Ex.good [y0, y1, y2, y3, y4, y5, y6] = (Ex.rdq y0 && (Ex.rdq y1 && (Ex.rdq y4 && (Ex.rdq y5 && (Ex.hexq y2 && (Ex.hexq y6 && Ex.opq y3)))))) := rfl
      have hsy : Ex.says [y0, y1, y2, y3, y4, y5, y6] = (Ex.rdv y0, Ex.rdv y1, Ex.hexv y2, Ex.opf y3, Ex.rdv y4, Ex.rdv y5, Ex.hexv y6) := rfl
      rw [hgd, hsy]
      cases hq : (Ex.rdq y0 && (Ex.rdq y1 && (Ex.rdq y4 && Ex.rdq y5))) with
      | false =>
        have e : (Ex.rdq y0 && (Ex.rdq y1 && (Ex.rdq y4 && (Ex.rdq y5 && (Ex.hexq y2 && (Ex.hexq y6 && Ex.opq y3)))))) = false := by
          have : (Ex.rdq y0 && (Ex.rdq y1 && (Ex.rdq y4 && (Ex.rdq y5 && (Ex.hexq y2 && (Ex.hexq y6 && Ex.opq y3)))))) = ((Ex.rdq y0 && (Ex.rdq y1 && (Ex.rdq y4 && Ex.rdq y5))) && (Ex.hexq y2 && (Ex.hexq y6 && Ex.opq y3))) := by simp only [Bool.and_assoc]
          rw [this, hq, Bool.false_and]
        rw [e, if_neg (fun h => Bool.false_ne_true h.2)]
        rw [hq] at KN
        exact spec_evof_n s hl2 y0 y1 y2 y3 y4 y5 y6 _ _ _ _ _ _ _ _ _ _ rfl HSP KN K2 K6 KO w
      | true =>
        have e : (Ex.rdq y0 && (Ex.rdq y1 && (Ex.rdq y4 && (Ex.rdq y5 && (Ex.hexq y2 && (Ex.hexq y6 && Ex.opq y3)))))) = (Ex.hexq y2 && (Ex.hexq y6 && Ex.opq y3)) := by
          have : (Ex.rdq y0 && (Ex.rdq y1 && (Ex.rdq y4 && (Ex.rdq y5 && (Ex.hexq y2 && (Ex.hexq y6 && Ex.opq y3)))))) = ((Ex.rdq y0 && (Ex.rdq y1 && (Ex.rdq y4 && Ex.rdq y5))) && (Ex.hexq y2 && (Ex.hexq y6 && Ex.opq y3))) := by simp only [Bool.and_assoc]
          rw [this, hq, Bool.true_and]
        rw [e]
        rw [hq] at KN
        cases h2 : Ex.hexq y2 with
        | false =>
          rw [Bool.false_and, if_neg (fun h => Bool.false_ne_true h.2)]
          simp only [h2] at K2
          exact spec_evof_h s hl2 y0 y1 y2 y3 y4 y5 y6 _ _ _ _ _ _ _ _ _ _ rfl rfl HSP KN K2 K6 KO w
        | true =>
          simp only [h2] at K2
          cases h6 : Ex.hexq y6 with
          | false =>
            rw [Bool.false_and, Bool.true_and, if_neg (fun h => Bool.false_ne_true h.2)]
            simp only [h6] at K6
            exact spec_evof_s s hl2 y0 y1 y2 y3 y4 y5 y6 _ _ _ _ _ _ _ _ _ _ rfl rfl rfl HSP KN K2 K6 KO w
          | true =>
            simp only [h6] at K6
            rw [Bool.true_and, Bool.true_and]
            by_cases hz : 0 ≤ Ex.opf y3
            · have eo : Ex.opq y3 = true := by unfold Ex.opq; rw [decide_eq_true hz, Bool.true_or]
              rw [eo, if_pos ⟨rfl, rfl⟩]
              exact spec_evof_g s hl2 y0 y1 y2 y3 y4 y5 y6 _ _ _ _ _ _ _ _ _ _ rfl rfl rfl hz HSP KN K2 K6 KO w
            · by_cases hd : y3 = Ex.dash
              · have eo : Ex.opq y3 = true := by unfold Ex.opq; rw [decide_eq_true hd, Bool.or_true]
                rw [eo, if_pos ⟨rfl, rfl⟩]
                exact spec_evof_d s hl2 y0 y1 y2 y3 y4 y5 y6 _ _ _ _ _ _ _ _ _ _ rfl rfl rfl (by omega) hd HSP KN K2 K6 KO w
              · have eo : Ex.opq y3 = false := by unfold Ex.opq; rw [decide_eq_false hd, decide_eq_false hz]; rfl
                rw [eo, if_neg (fun h => Bool.false_ne_true h.2)]
                exact spec_evof_o s hl2 y0 y1 y2 y3 y4 y5 y6 _ _ _ _ _ _ _ _ _ _ rfl rfl rfl (by omega) hd HSP KN K2 K6 KO w
    · have e : Ex.evo s = ((0, 0, 0, 0, 0, 0, 0), false) := by
        unfold Ex.evo
        rw [if_neg (fun h => h7 h.1)]
      rw [e]
      refine spec_evof_ne s hl2 (Sp.texts 32 s).length h7 ?_ (fun X => (spec_split s X hs).mono fun e w' ⟨a, cap, he, _, _, hb⟩ => ⟨a, cap, he, hb⟩) w
      have := Sp.texts_sum 32 s
      omega
theorem impl_evo (s : ByteArray) (w : World) (hs : s.size ≤ 1048576) (hT : TabN w) (hM : TabM w) :
    Calls Tryd.prog 10 #[.string s] w fun e w' => e = .returned (.tuple #[evV (Ex.evo s).1, .bool (Ex.evo s).2]) ∧ Below w.heap.size w w' := by
  have hb0 : Below w.heap.size w (w.alloc (.cells #[.int .i64 0, .int .i64 0, .int .u32 0, .int .i64 0, .int .i64 0, .int .i64 0, .int .u32 0] 26)) := (Below.refl _ _).alloc (Nat.le_refl _) _
  have hM1 : TabM (w.alloc (.cells #[.int .i64 0, .int .i64 0, .int .u32 0, .int .i64 0, .int .i64 0, .int .i64 0, .int .u32 0] 26)) := by
    obtain ⟨m, hm⟩ := hM
    exact ⟨m, (hb0.cell (World.block_lt_of_cell? _ _ hm)).trans hm⟩
  have HSP : Hid (Calls Tryd.prog 26 #[.string s, .string ⟨#[32]⟩] (w.alloc (.cells #[.int .i64 0, .int .i64 0, .int .u32 0, .int .i64 0, .int .i64 0, .int .i64 0, .int .u32 0] 26)) fun e w' => e = .returned (.slice (some ⟨w.heap.size + 1, 0, none⟩) (Sp.texts 32 s).length (Sp.texts 32 s).length) ∧ (∀ j, j < (Sp.texts 32 s).length → w'.cell? ⟨w.heap.size + 1, j, none⟩ = some (.string (Ex.wgt (Sp.texts 32 s) j))) ∧ Below (w.heap.size + 1) (w.alloc (.cells #[.int .i64 0, .int .i64 0, .int .u32 0, .int .i64 0, .int .i64 0, .int .i64 0, .int .u32 0] 26)) w') := by
    have hsz : (w.alloc (.cells #[.int .i64 0, .int .i64 0, .int .u32 0, .int .i64 0, .int .i64 0, .int .i64 0, .int .u32 0] 26)).heap.size = w.heap.size + 1 := by simp
    refine (split_any 32 s _ (w.alloc (.cells #[.int .i64 0, .int .i64 0, .int .u32 0, .int .i64 0, .int .i64 0, .int .i64 0, .int .u32 0] 26)) hM1 hs rfl).mono ?_
    rintro e w' ⟨he, hb, hf, _⟩
    rw [hsz] at he hb hf
    refine ⟨he, fun j hj => ?_, hb⟩
    obtain ⟨b, off, e1, _, hc⟩ := hf (by omega)
    cases e1
    have := hc j _ (List.getElem?_eq_getElem hj)
    rw [Nat.zero_add] at this
    rw [this]
    unfold Ex.wgt
    rw [List.getD_eq_getElem?_getD, List.getElem?_eq_getElem hj]
    rfl
  by_cases h7 : (Sp.texts 32 s).length = 7
  · cases hg : Ex.good (Sp.texts 32 s) with
    | false =>
      have e : Ex.evo s = ((0, 0, 0, 0, 0, 0, 0), false) := by
        unfold Ex.evo
        rw [if_neg (fun h => by rw [hg] at h; exact Bool.false_ne_true h.2)]
      rw [e]
      exact impl_evof_bad s _ _ w h7 hT (texts_small s hs) hg _ _ _ _ _ _ _ rfl HSP
    | true =>
      have e : Ex.evo s = (Ex.says (Sp.texts 32 s), true) := by
        unfold Ex.evo
        rw [if_pos ⟨h7, hg⟩]
      rw [e]
      exact impl_evof_good s _ _ w h7 hT (texts_small s hs) hg _ _ _ _ _ _ _ rfl HSP
  · have e : Ex.evo s = ((0, 0, 0, 0, 0, 0, 0), false) := by
      unfold Ex.evo
      rw [if_neg (fun h => h7 h.1)]
    rw [e]
    refine impl_evof_ne s _ _ w h7 ?_ HSP
    have := Sp.texts_sum 32 s
    omega
end Go.Proofs.YthlapikcjiajgaaDoor
