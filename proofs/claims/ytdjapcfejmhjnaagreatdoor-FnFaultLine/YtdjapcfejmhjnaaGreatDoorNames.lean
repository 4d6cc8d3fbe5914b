/-
  The names of the ops: the table as the program's text lays it, what OpName returns, the specification's and the program's own. Condition: the program's table of names lies in memory as the program's text lays it.
-/
import Derived.Test.YtdjapcfejmhjnaaGreatDoorIsa
import Derived.ProofKit
import Derived.LaidMore
import Derived.OpenShut
import Derived.Stop.Joined
import Derived.Stop.LaidErr
import Derived.SevenTiedAt
import Derived.Lib.LaidTab
import Derived.ChangeVars
namespace Go.Proofs.YtdjapcfejmhjnaaGreatDoor
open Go.ChangeShapes Go.WideShapes Go.ChangeAt Go.WideMaps Go.WideElems Go.RowKit
set_option linter.unusedVariables false

def names : List (List UInt8) := [[110, 111, 112], [97, 100, 100], [115, 117, 98], [97, 110, 100], [111, 114], [120, 111, 114], [115, 104, 108], [115, 104, 114], [115, 97, 114], [109, 117, 108], [100, 105, 118], [115, 108, 116], [115, 108, 116, 117], [97, 100, 100, 105], [108, 117, 105], [108, 119], [115, 119], [108, 98], [115, 98], [98, 101, 113], [98, 110, 101], [98, 108, 116], [106, 97, 108], [106, 114], [114, 100, 99], [115, 101, 110, 100], [114, 101, 99, 118], [114, 100, 101, 118], [99, 115, 114, 114], [99, 115, 114, 119], [105, 114, 101, 116], [121, 105, 101, 108, 100], [116, 114, 97, 112]]
def nm (i : Nat) : ByteArray := ⟨(names.getD i []).toArray⟩
abbrev strs (l : List (List UInt8)) : List Value := l.map fun x => Value.string ⟨x.toArray⟩
/-- The table of names, as the program lays it, lies in block 1. -/
def TabN (w : World) : Prop := ∀ i, i < 33 → w.cell? ⟨2, i, none⟩ = some (.string (nm i))
theorem TabN.below {w w' : World} (h : TabN w) (hb : Below w.heap.size w w') : TabN w' := fun i hi =>
  (hb.cell (p := ⟨2, i, none⟩) (World.block_lt_of_cell? w _ (h i hi))).trans (h i hi)
/-- An array of texts that reads as the table holds the table's texts, cell for cell. -/
theorem cells_of_strs {H : Type} {enc : TypeId × Value → H} {P : Program} {w : World} {base : Nat} {sp : Nat → Bool} {held : Bool} {fuel : Nat} {t e : TypeId} {n : Nat} {cs : List Value} {zs : List (List UInt8)} {p : List MemPlace}
    (ht : P.underlying t = some (.array n e)) (he : P.underlying e = some .string) (hce : P.cellsOf e = 1) (hct : P.cellsOf t = n)
    (h : DataW.trod enc P w base sp held fuel t cs = some (.agg (zs.map fun z => (.lit (.string z) : DataW H)), p)) : cs = strs zs := by
  cases fuel with
  | zero => simp [DataW.trod] at h
  | succ fuel =>
    simp only [DataW.trod, ht, hce, hct, Nat.mul_one] at h
    split at h
    · rename_i hl
      obtain ⟨xs, hm, hx⟩ := Option.map_eq_some_iff.1 h
      have hxs : xs.map (·.1) = zs.map fun z => (DataW.lit (.string z) : DataW H) := by
        have := congrArg Prod.fst hx
        simpa using this
      have hxl : xs.length = n := by simpa using Lib.mapM_length hm
      have hzl : zs.length = n := by
        have := congrArg List.length hxs
        simp at this
        omega
      apply List.ext_getElem?
      intro i
      by_cases hi : i < n
      · obtain ⟨b, hb, hf⟩ := Lib.mapM_at hm i i (by simp [hi])
        obtain ⟨s, hc, rfl, _⟩ := DataW.trod_string he hf
        have h1 : cs[i]? = some (.string s) := by
          have := congrArg (·[0]?) hc
          simpa [List.getElem?_take, List.getElem?_drop] using this
        have h2 : (xs.map (·.1))[i]? = some (DataW.lit (.string s.data.toList) : DataW H) := by simp [hb]
        rw [hxs] at h2
        simp only [List.getElem?_map, Option.map_eq_some_iff, DataW.lit.injEq, Lit.string.injEq] at h2
        obtain ⟨z', hz', e⟩ := h2
        rw [h1, List.getElem?_map, hz', e]
        cases s
        simp
      · rw [List.getElem?_eq_none (by omega), List.getElem?_eq_none (by simp; omega)]
    · cases h
theorem new_str (w : World) (l : List (List UInt8)) (T : TypeId) (i : Nat) (hi : i < l.length) :
    (w.alloc (.cells (strs l).toArray T)).cell? ⟨w.heap.size, i, none⟩ = some (.string ⟨(l.getD i []).toArray⟩) := by
  simp [hi]
theorem spec_names (w : World) : Calls Tryz.prog 115 #[] w fun e w' => e = .returned (.slice (some ⟨w.heap.size, 0, none⟩) 33 33) ∧ Below w.heap.size w w' ∧ ∀ i, i < 33 → w'.cell? ⟨w.heap.size, i, none⟩ = some (.string (nm i)) := by
  go_enter Tryz.func115, Tryz.ntmps115
  go_wp2
  go_ret
  exact ⟨rfl, (Below.refl _ _).alloc (Nat.le_refl _) _, fun i hi => new_str w names 9 i hi⟩
theorem spec_name (k : Nat) (s : ByteArray) (w : World) (hk : k < 33) (hf : nm k = s) :
    Calls Tryz.prog 114 #[.int .i64 k] w fun e w' => e = .returned (.string s) ∧ Below w.heap.size w w' := by
  have HF : Hid _ := hf
  clear hf
  go_enter Tryz.func114, Tryz.ntmps114
  go_wp2_with fail
  refine (in_yes _ _ _ _ (by omega) (by omega)).mono ?_
  rintro e w1 ⟨rfl, rfl⟩
  go_wp2_with fail
  refine (spec_names _).mono ?_
  rintro e w2 ⟨rfl, hb, hc⟩
  have hk' := hc k hk
  rw [HF.out] at hk'
  clear hc
  go_wp2
  go_ret
  exact ⟨rfl, hb⟩
theorem spec_name_no (x : Int) (w : World) (h : ¬ (0 ≤ x ∧ x ≤ 32)) :
    Calls Tryz.prog 114 #[.int .i64 x] w fun e w' => e = .returned (.string ⟨#[]⟩) ∧ w' = w := by
  have H : Hid _ := h
  clear h
  go_enter Tryz.func114, Tryz.ntmps114
  go_wp2_with fail
  refine (in_no _ _ _ _ H.out).mono ?_
  rintro e w1 ⟨rfl, rfl⟩
  go_wp2
  go_ret
  exact ⟨rfl, rfl⟩
end Go.Proofs.YtdjapcfejmhjnaaGreatDoor
