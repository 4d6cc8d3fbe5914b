
/-
  Names of ops: what OpName and OpOf return, the specification's and the program's own. Condition: the program's table of names lies in memory as the program's text lays it.
-/
import Derived.Test.YthlapikcjiajgaaDoorBas
import Derived.Test.YthlapikcjiajgaaDoorProg
import Derived.WalkKit
import Derived.ProofKit
import Derived.LaidMore
import Derived.OpenShut
import Derived.Stop.Joined
import Derived.Stop.LaidErr
import Derived.SevenTiedAt
import Derived.Lib.LaidTab
import Derived.ChangeVars
import Derived.Below
import Derived.Deep.MidRow
namespace Go.Proofs.YthlapikcjiajgaaDoor
open Go.ChangeShapes Go.WideShapes Go.ChangeAt Go.WideMaps Go.WideElems Go.RowKit
set_option linter.unusedVariables false
set_option maxRecDepth 20000

theorem opin_yes (x a b : Int) (w : World) (h1 : a ≤ x) (h2 : x ≤ b) : Calls Tryd.prog 32 #[.int .i64 x, .int .i64 a, .int .i64 b] w fun e w' => e = .returned (.bool true) ∧ w' = w := by
  go_enter Tryd.func32, Tryd.ntmps32
  go_wp2
  go_ret
  exact ⟨rfl, rfl⟩
theorem opin_no (x a b : Int) (w : World) (h : ¬ (a ≤ x ∧ x ≤ b)) : Calls Tryd.prog 32 #[.int .i64 x, .int .i64 a, .int .i64 b] w fun e w' => e = .returned (.bool false) ∧ w' = w := by
  go_enter Tryd.func32, Tryd.ntmps32
  by_cases h1 : a ≤ x
  · have h2 : ¬ x ≤ b := fun h2 => h ⟨h1, h2⟩
    go_wp2
    go_ret
    exact ⟨rfl, rfl⟩
  · go_wp2
    go_ret
    exact ⟨rfl, rfl⟩
theorem isOp_yes (x : Int) (w : World) (h1 : 0 ≤ x) (h2 : x < 33) : Calls Tryd.prog 17 #[.int .i64 x] w fun e w' => e = .returned (.bool true) ∧ w' = w := by
  go_enter Tryd.func17, Tryd.ntmps17
  go_wp2
  go_ret
  exact ⟨rfl, rfl⟩
theorem isOp_no (x : Int) (w : World) (h : ¬ (0 ≤ x ∧ x < 33)) : Calls Tryd.prog 17 #[.int .i64 x] w fun e w' => e = .returned (.bool false) ∧ w' = w := by
  go_enter Tryd.func17, Tryd.ntmps17
  by_cases h1 : 0 ≤ x
  · have h2 : ¬ x < 33 := fun h2 => h ⟨h1, h2⟩
    go_wp2
    go_ret
    exact ⟨rfl, rfl⟩
  · go_wp2
    go_ret
    exact ⟨rfl, rfl⟩
def names : List (List UInt8) := [[110, 111, 112], [97, 100, 100], [115, 117, 98], [97, 110, 100], [111, 114], [120, 111, 114], [115, 104, 108], [115, 104, 114], [115, 97, 114], [109, 117, 108], [100, 105, 118], [115, 108, 116], [115, 108, 116, 117], [97, 100, 100, 105], [108, 117, 105], [108, 119], [115, 119], [108, 98], [115, 98], [98, 101, 113], [98, 110, 101], [98, 108, 116], [106, 97, 108], [106, 114], [114, 100, 99], [115, 101, 110, 100], [114, 101, 99, 118], [114, 100, 101, 118], [99, 115, 114, 114], [99, 115, 114, 119], [105, 114, 101, 116], [121, 105, 101, 108, 100], [116, 114, 97, 112]]
def nm (i : Nat) : ByteArray := ⟨(names.getD i []).toArray⟩
abbrev strs (l : List (List UInt8)) : List Value := l.map fun x => Value.string ⟨x.toArray⟩
/-- The table of names, as the program lays it, lies in block 1. -/
def TabN (w : World) : Prop := ∀ i, i < 33 → w.cell? ⟨0, i, none⟩ = some (.string (nm i))
theorem TabN.below {w w' : World} (h : TabN w) (hb : Below w.heap.size w w') : TabN w' := fun i hi =>
  (hb.cell (p := ⟨0, i, none⟩) (World.block_lt_of_cell? w _ (h i hi))).trans (h i hi)
/-- An array of texts that reads as the table holds the table's texts, cell for cell. -/
theorem cells_of_strs {H : Type} {enc : TypeId × Value → H} {P : Program} {w : World} {base : Nat} {sp : Nat → Bool} {held : Bool} {fuel : Nat} {t e : TypeId} {n : Nat} {cs : List Value} {zs : List (List UInt8)} {p : List MemPlace}
    (ht : P.underlying t = some (.array n e)) (he : P.underlying e = some .string) (hce : P.cellsOf e = 1) (hct : P.cellsOf t = n)
    (h : DataW.trod enc P w base sp held fuel t cs = some (.agg (zs.map fun z => (.lit (.string z) : DataW H)), p)) : cs = strs zs := by
  cases fuel with
  | zero => simp [DataW.trod] at h
  | succ fuel =>
    simp only [DataW.trod, ht, hce, hct, Nat.mul_one] at h
    split at h
    · rename_i hl
      obtain ⟨xs, hm, hx⟩ := Option.map_eq_some_iff.1 h
      have hxs : xs.map (·.1) = zs.map fun z => (DataW.lit (.string z) : DataW H) := by
        have := congrArg Prod.fst hx
        simpa using this
      have hxl : xs.length = n := by simpa using Lib.mapM_length hm
      have hzl : zs.length = n := by
        have := congrArg List.length hxs
        simp at this
        omega
      apply List.ext_getElem?
      intro i
      by_cases hi : i < n
      · obtain ⟨b, hb, hf⟩ := Lib.mapM_at hm i i (by simp [hi])
        obtain ⟨s, hc, rfl, _⟩ := DataW.trod_string he hf
        have h1 : cs[i]? = some (.string s) := by
          have := congrArg (·[0]?) hc
          simpa [List.getElem?_take, List.getElem?_drop] using this
        have h2 : (xs.map (·.1))[i]? = some (DataW.lit (.string s.data.toList) : DataW H) := by simp [hb]
        rw [hxs] at h2
        simp only [List.getElem?_map, Option.map_eq_some_iff, DataW.lit.injEq, Lit.string.injEq] at h2
        obtain ⟨z', hz', e⟩ := h2
        rw [h1, List.getElem?_map, hz', e]
        cases s
        simp
      · rw [List.getElem?_eq_none (by omega), List.getElem?_eq_none (by simp; omega)]
    · cases h
theorem new_str (w : World) (l : List (List UInt8)) (T : TypeId) (i : Nat) (hi : i < l.length) :
    (w.alloc (.cells (strs l).toArray T)).cell? ⟨w.heap.size, i, none⟩ = some (.string ⟨(l.getD i []).toArray⟩) := by
  simp [hi]
theorem spec_names (w : World) : Calls Tryd.prog 33 #[] w fun e w' => e = .returned (.slice (some ⟨w.heap.size, 0, none⟩) 33 33) ∧ Below w.heap.size w w' ∧ ∀ i, i < 33 → w'.cell? ⟨w.heap.size, i, none⟩ = some (.string (nm i)) := by
  go_enter Tryd.func33, Tryd.ntmps33
  go_wp2
  go_ret
  exact ⟨rfl, (Below.refl _ _).alloc (Nat.le_refl _) _, fun i hi => new_str w names 9 i hi⟩
theorem impl_name (k : Nat) (s : ByteArray) (w : World) (hk : k < 33) (hc : w.cell? ⟨0, k, none⟩ = some (.string s)) :
    Calls Tryd.prog 18 #[.int .i64 k] w fun e w' => e = .returned (.string s) ∧ w' = w := by
  go_enter Tryd.func18, Tryd.ntmps18
  go_wp2_with fail
  refine (isOp_yes _ _ (by omega) (by omega)).mono ?_
  rintro e w1 ⟨rfl, rfl⟩
  go_wp2
  go_ret
  exact ⟨rfl, rfl⟩
theorem impl_name_no (x : Int) (w : World) (h : ¬ (0 ≤ x ∧ x < 33)) :
    Calls Tryd.prog 18 #[.int .i64 x] w fun e w' => e = .returned (.string ⟨#[]⟩) ∧ w' = w := by
  have H : Hid _ := h
  clear h
  go_enter Tryd.func18, Tryd.ntmps18
  go_wp2_with fail
  refine (isOp_no _ _ H.out).mono ?_
  rintro e w1 ⟨rfl, rfl⟩
  go_wp2
  go_ret
  exact ⟨rfl, rfl⟩
theorem spec_name (k : Nat) (s : ByteArray) (w : World) (hk : k < 33) (hf : nm k = s) :
    Calls Tryd.prog 14 #[.int .i64 k] w fun e w' => e = .returned (.string s) ∧ Below w.heap.size w w' := by
  have HF : Hid _ := hf
  clear hf
  go_enter Tryd.func14, Tryd.ntmps14
  go_wp2_with fail
  refine (opin_yes _ _ _ _ (by omega) (by omega)).mono ?_
  rintro e w1 ⟨rfl, rfl⟩
  go_wp2_with fail
  refine (spec_names _).mono ?_
  rintro e w2 ⟨rfl, hb, hc⟩
  have hk' := hc k hk
  rw [HF.out] at hk'
  clear hc
  go_wp2
  go_ret
  exact ⟨rfl, hb⟩
theorem spec_name_no (x : Int) (w : World) (h : ¬ (0 ≤ x ∧ x ≤ 32)) :
    Calls Tryd.prog 14 #[.int .i64 x] w fun e w' => e = .returned (.string ⟨#[]⟩) ∧ w' = w := by
  have H : Hid _ := h
  clear h
  go_enter Tryd.func14, Tryd.ntmps14
  go_wp2_with fail
  refine (opin_no _ _ _ _ H.out).mono ?_
  rintro e w1 ⟨rfl, rfl⟩
  go_wp2
  go_ret
  exact ⟨rfl, rfl⟩
/-- Up to 'n' no op bears the name 's'. -/
def NoneUp (s : ByteArray) (n : Nat) : Prop := ∀ j, j < n → ((nm j).toList == s.toList) = false
theorem up_or (s : ByteArray) : ∀ n, NoneUp s n ∨ ∃ t, t < n ∧ ((nm t).toList == s.toList) = true ∧ NoneUp s t
  | 0 => .inl fun j hj => absurd hj (by omega)
  | n + 1 => by
    rcases up_or s n with h | ⟨t, ht, he, hn⟩
    · cases hq : ((nm n).toList == s.toList)
      · left
        intro j hj
        by_cases e : j = n
        · subst e; exact hq
        · exact h j (by omega)
      · exact .inr ⟨n, by omega, hq, h⟩
    · exact .inr ⟨t, by omega, he, hn⟩
set_option maxHeartbeats 400000 in
theorem spec_of_hit (s : ByteArray) (t : Nat) (w : World) (ht : t < 33) (hs : ((nm t).toList == s.toList) = true) (hn : NoneUp s t) : Calls Tryd.prog 25 #[.string s] w fun e w' => e = .returned (.int .i64 t) ∧ Below w.heap.size w w' := by
  have HS : Hid _ := hs
  have HN : Hid _ := hn
  clear hs hn
  go_enter Tryd.func25, Tryd.ntmps25
  go_wp2
  go_loopw [3] (fun i wr => ∃ k : Nat, k ≤ t ∧ i = .int .i64 k ∧ Below w.heap.size w wr) (fun i _ => 33 - (intOf i).toNat)
  case atStart => exact ⟨0, by omega, rfl, Below.refl _ _⟩
  case round =>
    obtain ⟨k, hk, rfl, hb⟩ := hrel
    go_wp2_with fail
    refine (spec_names _).mono ?_
    rintro e w2 ⟨rfl, hb2, hc⟩
    have hk' := hc k (by omega)
    have hb3 := hb.trans (hb2.mono hb.size)
    clear hc
    by_cases hkt : k < t
    · have hne := HN.out k hkt
      generalize nm k = x at hk' hne
      go_wp2
      go_roundw
      case rel => exact ⟨k + 1, by omega, by go_num, hb3⟩
      case measure => simp [intOf]; omega
    · obtain rfl : k = t := by omega
      have hne := HS.out
      clear HS HN
      generalize nm k = x at hk' hne
      go_wp2
      go_ret
      exact ⟨rfl, hb3⟩
set_option maxHeartbeats 400000 in
theorem spec_of_miss (s : ByteArray) (w : World) (hn : NoneUp s 33) : Calls Tryd.prog 25 #[.string s] w fun e w' => e = .returned (.int .i64 (-1)) ∧ Below w.heap.size w w' := by
  have HN : Hid _ := hn
  clear hn
  go_enter Tryd.func25, Tryd.ntmps25
  go_wp2
  go_loopw [3] (fun i wr => ∃ k : Nat, k ≤ 33 ∧ i = .int .i64 k ∧ Below w.heap.size w wr) (fun i _ => 33 - (intOf i).toNat)
  case atStart => exact ⟨0, by omega, rfl, Below.refl _ _⟩
  case round =>
    obtain ⟨k, hk, rfl, hb⟩ := hrel
    by_cases hkt : k < 33
    · go_wp2_with fail
      refine (spec_names _).mono ?_
      rintro e w2 ⟨rfl, hb2, hc⟩
      have hk' := hc k hkt
      have hb3 := hb.trans (hb2.mono hb.size)
      clear hc
      have hne := HN.out k hkt
      generalize nm k = x at hk' hne
      go_wp2
      go_roundw
      case rel => exact ⟨k + 1, by omega, by go_num, hb3⟩
      case measure => simp [intOf]; omega
    · go_wp2
      go_ret
      exact ⟨rfl, hb⟩
theorem i71 : (Tryd.prog.info? 58).map (·.size) = some 33 := by kernel_rfl
theorem range_names {w : World} (ht : TabN w) : ∃ cs : List Value, cs.length = 33 ∧ (∀ i, i < 33 → cs[i]? = some (.string (nm i))) ∧ w.rangeAt 0 0 cs := by
  have e : ∀ i, i < 33 → (strs names)[i]? = some (.string (nm i)) := fun i hi => by
    have hl : i < names.length := hi
    simp [nm, hl]
  refine ⟨strs names, rfl, e, fun j v h => ?_⟩
  have hj : j < 33 := by
    obtain ⟨hj, _⟩ := List.getElem?_eq_some_iff.1 h
    simpa [names] using hj
  rw [e j hj] at h
  rw [Nat.zero_add, ht j hj]
  exact h
theorem index_names (cs : List Value) (k : Nat) (v : Value) (w : World) (hk : k < 33) (h : cs[k]? = some v) : (Instr.index 58 (.agg cs.toArray) (.int .i64 k)).run Tryd.prog w = .ok v w := by
  have h1 : (0 : Int) ≤ (k : Int) ∧ (k : Int) < ((33 : Nat) : Int) := by omega
  simp [Instr.index, run_underlying Tryd.underlying58, asIntOf, part, h1, h, go_sem, Tryd.isAgg9, Tryd.sizeOf9]
  exact fun h2 => absurd h2 (by omega)
set_option maxHeartbeats 400000 in
theorem impl_of_hit (s : ByteArray) (t : Nat) (w : World) (hT : TabN w) (ht : t < 33) (hs : ((nm t).toList == s.toList) = true) (hn : NoneUp s t) : Calls Tryd.prog 43 #[.string s] w fun e w' => e = .returned (.int .i64 t) ∧ w' = w := by
  have HS : Hid _ := hs
  have HN : Hid _ := hn
  obtain ⟨cs, hl, hcs, hr⟩ := range_names hT
  have HL : Hid _ := hl
  have HC : Hid _ := hcs
  have HR : Hid _ := hr
  clear hs hn hl hcs hr hT
  go_enter Tryd.func43, Tryd.ntmps43
  go_wp2_with (refine wpList_load_mid rfl 58 (.global 0) rfl 0 0 rfl cs _ HR.out Tryd.underlying58 rfl (by rw [i71, HL.out]) ?_)
  go_loop [6] (fun i => ∃ k : Nat, k ≤ t ∧ i = .int .i64 k) (fun i => 33 - (intOf i).toNat)
  case atStart => exact ⟨0, by omega, rfl⟩
  case round =>
    obtain ⟨k, hk, rfl⟩ := hrel
    have hc := HC.out k (by omega)
    by_cases hkt : k < t
    · have hne := HN.out k hkt
      generalize nm k = x at hc hne
      have hx := index_names cs k _ w (by omega) hc
      clear hc
      go_wp2
      go_round
      case rel => exact ⟨k + 1, by omega, by go_num⟩
      case measure => simp [intOf]; omega
    · obtain rfl : k = t := by omega
      have hne := HS.out
      clear HS HN
      generalize nm k = x at hc hne
      have hx := index_names cs k _ w (by omega) hc
      clear hc
      go_wp2
      go_ret
      exact ⟨rfl, rfl⟩
set_option maxHeartbeats 400000 in
theorem impl_of_miss (s : ByteArray) (w : World) (hT : TabN w) (hn : NoneUp s 33) : Calls Tryd.prog 43 #[.string s] w fun e w' => e = .returned (.int .i64 (-1)) ∧ w' = w := by
  have HN : Hid _ := hn
  obtain ⟨cs, hl, hcs, hr⟩ := range_names hT
  have HL : Hid _ := hl
  have HC : Hid _ := hcs
  have HR : Hid _ := hr
  clear hn hl hcs hr hT
  go_enter Tryd.func43, Tryd.ntmps43
  go_wp2_with (refine wpList_load_mid rfl 58 (.global 0) rfl 0 0 rfl cs _ HR.out Tryd.underlying58 rfl (by rw [i71, HL.out]) ?_)
  go_loop [6] (fun i => ∃ k : Nat, k ≤ 33 ∧ i = .int .i64 k) (fun i => 33 - (intOf i).toNat)
  case atStart => exact ⟨0, by omega, rfl⟩
  case round =>
    obtain ⟨k, hk, rfl⟩ := hrel
    by_cases hkt : k < 33
    · have hc := HC.out k hkt
      have hne := HN.out k hkt
      generalize nm k = x at hc hne
      have hx := index_names cs k _ w hkt hc
      clear hc
      go_wp2
      go_round
      case rel => exact ⟨k + 1, by omega, by go_num⟩
      case measure => simp [intOf]; omega
    · go_wp2
      go_ret
      exact ⟨rfl, rfl⟩
end Go.Proofs.YthlapikcjiajgaaDoor
