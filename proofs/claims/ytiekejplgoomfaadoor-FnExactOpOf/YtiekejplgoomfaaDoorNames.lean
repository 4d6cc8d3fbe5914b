/-
  The names of the ops: the table as the program's text lays it, what OpName returns, the specification's and the program's own. Condition: the program's table of names lies in memory as the program's text lays it.
-/
import Derived.Test.YtiekejplgoomfaaDoorIsa
import Derived.ProofKit
import Derived.LaidMore
import Derived.OpenShut
import Derived.Stop.Joined
import Derived.Stop.LaidErr
import Derived.SevenTiedAt
import Derived.Lib.LaidTab
import Derived.ChangeVars
namespace Go.Proofs.YtiekejplgoomfaaDoor
open Go.ChangeShapes Go.WideShapes Go.ChangeAt Go.WideMaps Go.WideElems Go.RowKit
set_option linter.unusedVariables false

def names : List (List UInt8) := [[110, 111, 112], [97, 100, 100], [115, 117, 98], [97, 110, 100], [111, 114], [120, 111, 114], [115, 104, 108], [115, 104, 114], [115, 97, 114], [109, 117, 108], [100, 105, 118], [115, 108, 116], [115, 108, 116, 117], [97, 100, 100, 105], [108, 117, 105], [108, 119], [115, 119], [108, 98], [115, 98], [98, 101, 113], [98, 110, 101], [98, 108, 116], [106, 97, 108], [106, 114], [114, 100, 99], [115, 101, 110, 100], [114, 101, 99, 118], [114, 100, 101, 118], [99, 115, 114, 114], [99, 115, 114, 119], [105, 114, 101, 116], [121, 105, 101, 108, 100], [116, 114, 97, 112]]
def nm (i : Nat) : ByteArray := ⟨(names.getD i []).toArray⟩
abbrev strs (l : List (List UInt8)) : List Value := l.map fun x => Value.string ⟨x.toArray⟩
/-- The table of names, as the program lays it, lies in block 1. -/
def TabN (w : World) : Prop := ∀ i, i < 33 → w.cell? ⟨1, i, none⟩ = some (.string (nm i))
theorem TabN.below {w w' : World} (h : TabN w) (hb : Below w.heap.size w w') : TabN w' := fun i hi =>
  (hb.cell (p := ⟨1, i, none⟩) (World.block_lt_of_cell? w _ (h i hi))).trans (h i hi)
/-- An array of texts that reads as the table holds the table's texts, cell for cell. -/
theorem cells_of_strs {H : Type} {enc : TypeId × Value → H} {P : Program} {w : World} {base : Nat} {sp : Nat → Bool} {held : Bool} {fuel : Nat} {t e : TypeId} {n : Nat} {cs : List Value} {zs : List (List UInt8)} {p : List MemPlace}
    (ht : P.underlying t = some (.array n e)) (he : P.underlying e = some .string) (hce : P.cellsOf e = 1) (hct : P.cellsOf t = n)
    (h : DataW.trod enc P w base sp held fuel t cs = some (.agg (zs.map fun z => (.lit (.string z) : DataW H)), p)) : cs = strs zs := by
  cases fuel with
  | zero => simp [DataW.trod] at h
  | succ fuel =>
    simp only [DataW.trod, ht, hce, hct, Nat.mul_one] at h
    split at h
    · rename_i hl
      obtain ⟨xs, hm, hx⟩ := Option.map_eq_some_iff.1 h
      have hxs : xs.map (·.1) = zs.map fun z => (DataW.lit (.string z) : DataW H) := by
        have := congrArg Prod.fst hx
        simpa using this
      have hxl : xs.length = n := by simpa using Lib.mapM_length hm
      have hzl : zs.length = n := by
        have := congrArg List.length hxs
        simp at this
        omega
      apply List.ext_getElem?
      intro i
      by_cases hi : i < n
      · obtain ⟨b, hb, hf⟩ := Lib.mapM_at hm i i (by simp [hi])
        obtain ⟨s, hc, rfl, _⟩ := DataW.trod_string he hf
        have h1 : cs[i]? = some (.string s) := by
          have := congrArg (·[0]?) hc
          simpa [List.getElem?_take, List.getElem?_drop] using this
        have h2 : (xs.map (·.1))[i]? = some (DataW.lit (.string s.data.toList) : DataW H) := by simp [hb]
        rw [hxs] at h2
        simp only [List.getElem?_map, Option.map_eq_some_iff, DataW.lit.injEq, Lit.string.injEq] at h2
        obtain ⟨z', hz', e⟩ := h2
        rw [h1, List.getElem?_map, hz', e]
        cases s
        simp
      · rw [List.getElem?_eq_none (by omega), List.getElem?_eq_none (by simp; omega)]
    · cases h
abbrev laidN : List (String × DataW Unit) := Rows.fnExactOpNameRow.laid
theorem gNames : Tryd.prog.globalNamed "loop.example/g00076/impl.opNames" = some 1 := by kernel_rfl
theorem tNames : (Tryd.prog.globals[1]?).map (·.type) = some 53 := by kernel_rfl
theorem names_met (os : Os) (args : Array Value) : laidMetH Tryd.prog laidN ((World.doorLaid Tryd.prog 40 os).forCall (fun _ _ => 0) ⟨#[], args, []⟩).memory :=
  laidMetH_of_parts3 (fuel := 8) (laidMet_of_run' 8 (by kernel_rfl) (by kernel_rfl)) (by kernel_rfl) (by kernel_rfl)
abbrev cellsN : Array Value := (strs names).toArray
def NamesIs (W : World) : Prop := W.var? Tryd.prog "loop.example/g00076/impl.opNames" = some cellsN
theorem names_of_laid {W : World} (h : laidMetH Tryd.prog laidN W) : NamesIs W := by
  rw [MakeChecks.laidMetH_plain _ _ _ (by kernel_rfl)] at h
  obtain ⟨ps, ⟨g', t', cs, fuel, p, q, hg', ht', hvar, hd, _, _⟩, _⟩ := h
  obtain rfl := Option.some.inj (gNames.symm.trans hg')
  obtain rfl := Option.some.inj (tNames.symm.trans ht')
  unfold NamesIs
  rw [hvar]
  have := cells_of_strs (zs := names) (n := 33) (e := 9) Tryd.underlying53 Tryd.underlying9 (by kernel_rfl) (by kernel_rfl) hd
  rw [cellsN, ← this]
theorem tab_of_names {W : World} (h : NamesIs W) : TabN W := fun i hi => by
  have := World.var?_cell gNames h i
  rw [this]
  have hl : i < names.length := hi
  simp [nm, hl]
theorem reads_names {H : Type} (enc : TypeId × Value → H) (W : World) (sp : Nat → Bool) : DataW.trod enc Tryd.prog W 0 sp true 3 53 cellsN.toList = some (Rows.laid_loop_example_g00076_impl_opNames, []) := by kernel_rfl
theorem var_below' {P : Program} {W W' : World} {n : String} {g : Nat} {cs : Array Value} (hg : P.globalNamed n = some g) (h : W.var? P n = some cs) (hlt : g < W.heap.size) (hb : Below W.heap.size W W') : W'.var? P n = some cs := by
  simp only [World.var?, hg, Option.bind_some] at h ⊢
  rw [hb.block g hlt]
  exact h
theorem vars_names {H : Type} {enc : TypeId × Value → H} {W : World} {gs : List (DataW H)} {q : List MemPlace} (h : NamesIs W)
    (hV : DataW.TrodVars enc Tryd.prog W (fun _ => true) ["loop.example/g00076/impl.opNames"] gs q) :
    gs = [Rows.laid_loop_example_g00076_impl_opNames] ∧ ∀ W' sp, Below W.heap.size W W' → DataW.TrodVars enc Tryd.prog W' sp ["loop.example/g00076/impl.opNames"] [Rows.laid_loop_example_g00076_impl_opNames] (MemPlace.row ⟨1, 0, none⟩ cellsN.size ++ [] ++ []) := by
  obtain ⟨g, t, cs, fuel, d, p', rfl, hg, ht, hvar, hd, rfl⟩ := trodVars_one hV
  obtain rfl := Option.some.inj (gNames.symm.trans hg)
  obtain rfl := Option.some.inj (tNames.symm.trans ht)
  obtain rfl : cs = cellsN := Option.some.inj (hvar.symm.trans h)
  obtain ⟨rfl, rfl⟩ := DataW.Trod.unique (v := .agg cellsN) ⟨fuel, hd⟩ ⟨3, reads_names enc W _⟩
  refine ⟨rfl, fun W' sp hb => ⟨1, 53, cellsN, 3, [], [], hg, ht, ?_, reads_names enc W' sp, rfl, rfl⟩⟩
  exact var_below' hg hvar (World.block_lt_of_cell? W _ (tab_of_names h 0 (by omega))) hb
theorem ownN : ownKnob Tryd.prog.godebug = none := by kernel_rfl
theorem new_str (w : World) (l : List (List UInt8)) (T : TypeId) (i : Nat) (hi : i < l.length) :
    (w.alloc (.cells (strs l).toArray T)).cell? ⟨w.heap.size, i, none⟩ = some (.string ⟨(l.getD i []).toArray⟩) := by
  simp [hi]
theorem spec_names (w : World) : Calls Tryd.prog 31 #[] w fun e w' => e = .returned (.slice (some ⟨w.heap.size, 0, none⟩) 33 33) ∧ Below w.heap.size w w' ∧ ∀ i, i < 33 → w'.cell? ⟨w.heap.size, i, none⟩ = some (.string (nm i)) := by
  go_enter Tryd.func31, Tryd.ntmps31
  go_wp2
  go_ret
  exact ⟨rfl, (Below.refl _ _).alloc (Nat.le_refl _) _, fun i hi => new_str w names 9 i hi⟩
theorem impl_name (k : Nat) (s : ByteArray) (w : World) (hk : k < 33) (hc : w.cell? ⟨1, k, none⟩ = some (.string s)) :
    Calls Tryd.prog 20 #[.int .i64 k] w fun e w' => e = .returned (.string s) ∧ w' = w := by
  go_enter Tryd.func20, Tryd.ntmps20
  go_wp2_with fail
  refine (isOp_yes _ _ (by omega) (by omega)).mono ?_
  rintro e w1 ⟨rfl, rfl⟩
  go_wp2
  go_ret
  exact ⟨rfl, rfl⟩
theorem impl_name_no (x : Int) (w : World) (h : ¬ (0 ≤ x ∧ x < 33)) :
    Calls Tryd.prog 20 #[.int .i64 x] w fun e w' => e = .returned (.string ⟨#[]⟩) ∧ w' = w := by
  have H : Hid _ := h
  clear h
  go_enter Tryd.func20, Tryd.ntmps20
  go_wp2_with fail
  refine (isOp_no _ _ H.out).mono ?_
  rintro e w1 ⟨rfl, rfl⟩
  go_wp2
  go_ret
  exact ⟨rfl, rfl⟩
theorem spec_name (k : Nat) (s : ByteArray) (w : World) (hk : k < 33) (hf : nm k = s) :
    Calls Tryd.prog 19 #[.int .i64 k] w fun e w' => e = .returned (.string s) ∧ Below w.heap.size w w' := by
  have HF : Hid _ := hf
  clear hf
  go_enter Tryd.func19, Tryd.ntmps19
  go_wp2_with fail
  refine (in_yes _ _ _ _ (by omega) (by omega)).mono ?_
  rintro e w1 ⟨rfl, rfl⟩
  go_wp2_with fail
  refine (spec_names _).mono ?_
  rintro e w2 ⟨rfl, hb, hc⟩
  have hk' := hc k hk
  rw [HF.out] at hk'
  clear hc
  go_wp2
  go_ret
  exact ⟨rfl, hb⟩
theorem spec_name_no (x : Int) (w : World) (h : ¬ (0 ≤ x ∧ x ≤ 32)) :
    Calls Tryd.prog 19 #[.int .i64 x] w fun e w' => e = .returned (.string ⟨#[]⟩) ∧ w' = w := by
  have H : Hid _ := h
  clear h
  go_enter Tryd.func19, Tryd.ntmps19
  go_wp2_with fail
  refine (in_no _ _ _ _ H.out).mono ?_
  rintro e w1 ⟨rfl, rfl⟩
  go_wp2
  go_ret
  exact ⟨rfl, rfl⟩
end Go.Proofs.YtiekejplgoomfaaDoor
