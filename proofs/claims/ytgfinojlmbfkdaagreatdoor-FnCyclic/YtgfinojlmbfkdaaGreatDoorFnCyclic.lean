/-
  Bytes that come in, and how they are read. No function of the program in sight; no conditions but those that each fact names.
  Of all bytes the law FnCyclic returns true, and its argument reads as before: what is so at a cycle of drawn tables is so a frame later, a slot's first cycle is what NextSwitch finds, the core is held just in phases in which steps run; the tied card. Condition: the program's table of extras holds what the program's text lays (the card ties it to it).
-/
import Derived.Test.YtgfinojlmbfkdaaGreatDoorBas
import Derived.Test.YtgfinojlmbfkdaaGreatDoorProg
import Derived.Test.YtgfinojlmbfkdaaGreatDoorOpn
import Derived.ChangeSlices
import Derived.Deep.SlicePairs
import Derived.OpenShut
import Derived.Test.YtgfinojlmbfkdaaGreatDoorRows
import Derived.Test.YtgfinojlmbfkdaaGreatDoorTie
import Derived.Test.YtgfinojlmbfkdaaGreatDoorCards
import Derived.Test.YtgfinojlmbfkdaaGreatDoorVrs
import Derived.Test.YtgfinojlmbfkdaaGreatDoorFcy
namespace Go.Proofs.YtgfinojlmbfkdaaGreatDoor
open Go.ChangeShapes Go.WideShapes Go.ChangeAt Go.RowKit Go.Joins Go.Deep
set_option linter.unusedVariables false

theorem cells5 : Tryz.prog.cellsOf 5 = 1 := by kernel_rfl
set_option maxRecDepth 40000 in
theorem nums_open {H : Type} {enc : TypeId × Value → H} {W : World} {base : Nat} {held : Bool} {fuel : Nat} {cs : List Value} {x : DataW H × List MemPlace} {t e : TypeId} {k : IntKind} (ht : Tryz.prog.underlying t = some (.slice e)) (he : Tryz.prog.underlying e = some (.int k)) (hc : Tryz.prog.cellsOf e = 1)
    (h : DataW.trod enc Tryz.prog W base (fun _ => true) held fuel t cs = some x) : ∃ a zs c, cs = [.slice a (List.length zs) c] ∧ Seg k W a zs ∧ (∀ z ∈ zs, (Lit.int k z).wf = true) ∧ zs.length ≤ 9223372036854775807 ∧ zs.length ≤ c := by
  rcases open_ints ht he hc h with ⟨rfl, _⟩ | ⟨a, l, c, zs, rfl, _, hl, hm, hz, _, hcell, hwz⟩
  · exact ⟨none, [], 0, rfl, fun h => absurd h (by simp), by simp, by simp, by simp⟩
  · obtain ⟨ys, hy1, hy2, hy3⟩ := seg_of_row (k := k) (w := W) (a := some a) (len := l) (cap := c) (zs := zs) (.inr ⟨a, rfl, hl, hm, by simpa using hz, hcell, hwz⟩)
    have : maxLen = 9223372036854775807 := rfl
    exact ⟨some a, ys, c, by rw [hy1], hy2, hy3, by omega, by omega⟩
set_option maxRecDepth 40000 in
theorem code_arg {H : Type} {enc : TypeId × Value → H} {W : World} {r : Reach} {b0 base : Nat} {held : Bool} {v : Value} {d : DataW H} {p : List MemPlace}
    (hv : Value.okWide Tryz.prog W r b0 56 v) (h : DataW.Trod enc Tryz.prog W base (fun _ => true) held 56 v d p) :
    ∃ a zs c, v = .slice a (List.length zs) c ∧ Seg .u8 W a zs ∧ ∀ z ∈ zs, (Lit.int .u8 z).wf = true := by
  obtain ⟨a, len, cap, rfl⟩ := okWide_slice Tryz.underlying56 hv
  obtain ⟨fuel, hf⟩ := h
  obtain ⟨a', zs, c, e, hs, h1, _⟩ := nums_open Tryz.underlying56 Tryz.underlying5 cells5 hf
  simp [Value.cells] at e
  obtain ⟨rfl, rfl, rfl⟩ := e
  exact ⟨_, zs, _, rfl, hs, h1⟩
end Go.Proofs.YtgfinojlmbfkdaaGreatDoor
namespace Go.Proofs.YtgfinojlmbfkdaaGreatDoor.Cyclic
open Go.ChangeShapes Go.WideShapes Go.ChangeAt Go.WideMaps Go.WideElems Go.RowKit
open Go.ChangeMaps (open_string shut_string)
set_option linter.unusedVariables false

set_option maxRecDepth 100000 in
theorem jf_in : (Rows.fnCyclicRow.inPlace == Tryz.prog.inPlace 6) = true := by kernel_rfl
set_option maxRecDepth 100000 in
theorem jf_un : (Rows.fnCyclicRow.unfollowed == Tryz.prog.unfollowed 6) = true := by kernel_rfl
set_option maxRecDepth 100000 in
theorem jf_re : (Rows.fnCyclicRow.recurses == Tryz.prog.recurses 6) = true := by kernel_rfl
set_option maxRecDepth 100000 in
theorem jf_nm : (Rows.fnCyclicRow.named == Tryz.prog.varsNamed 6) = true := by kernel_rfl
set_option maxRecDepth 100000 in
theorem closed : joinedFacts Tryz.prog 6 Tryz.f6 Rows.fnCyclicSpec Rows.fnCyclicRow = true := by
  simp only [joinedFacts, jf_in, jf_un, jf_re, jf_nm, laidOut, jf_mr, Bool.and_true]
  kernel_rfl
set_option maxRecDepth 100000 in
theorem lifted (os : Os) (started : os.Started) (H : Type) (enc : TypeId × Value → H) :
    ReturnsInHanded {} Tryz.checked os 6 .any (fun w args => (Rows.fnCyclicSpec.pre enc Tryz.prog Tryz.f6 [] false w args ∧ laidMetH Tryz.prog laidF w) ∧ sizedMet enc Tryz.prog Tryz.f6 (OpenSpec.ofChange Rows.fnCyclicSpec) false w args)
      (Rows.fnCyclicSpec.post enc Tryz.prog Tryz.f6 false true false false) := by
  refine returnsInHanded_of_change_and (C := Tryz.checked) (X := fun w _ => laidMetH Tryz.prog laidF w) (fun _ _ _ hh h => h.of_heap hh) own started (by kernel_rfl) Tryz.func6
    (ChangeSpec.witness_shaped (enc := enc) (C := Tryz.checked) (os := os) (X := fun w _ => laidMetH Tryz.prog laidF w) false (World.doorLaid Tryz.prog 40 os) #[.slice none 0 0] 8 rfl (World.shaped_of_RefB (by kernel_rfl) (by kernel_rfl)) (by kernel_rfl) (by kernel_rfl) (by kernel_rfl) (forms_met os _)) ?_
  intro W base args ds gs before hval0 hW _ _ hL _
  have hval : ∀ (j : Nat) t v, Tryz.f6.params[j]? = some t → args[j]? = some v → Value.okWide Tryz.prog W .any base t v := hval0
  have hW' := hW
  obtain ⟨p, q, hA0, hV, rfl, hfz, hnd⟩ := hW
  have hA : DataW.TrodAll enc Tryz.prog W 0 (fun _ => true) true Tryz.f6.params.toList args.toList ds p := hA0
  rw [Tryz.params6] at hA hval
  obtain ⟨v0, vs0, d0, ds0, p0, q0, hargs, rfl, rfl, h0, r0⟩ := trodAll_cons hA
  obtain ⟨rfl, rfl, rfl⟩ := trodAll_nil r0
  obtain rfl : args = #[v0] := by cases args; simp_all
  have htab := forms_of_laid hL
  obtain ⟨rfl, hvars⟩ := vars_forms htab hV
  have k0 := h0
  have lt0 : ∀ x ∈ p0, x.block < W.heap.size := by obtain ⟨m, hm⟩ := k0; exact DataW.trod_lt m _ _ _ hm
  obtain ⟨a, zs, cap, rfl, hs, hb⟩ := code_arg (hval 0 56 v0 rfl rfl) h0
  clear hA0 hval0
  refine (walk_cyclic a zs cap zs.length W hs hb rfl (tab_of htab)).mono fun e W' ⟨he, bel⟩ => ?_
  subst he
  exact ⟨_, rfl, _, _, _, [], _, _, hW', (trodAll_cons_mk (shut_bool Tryz.underlying4 _) trodAll_mk0), (trodAll_cons_mk (Below.trod laidOut (by kernel_rfl) (of_decide_eq_true (by kernel_rfl)) k0 bel lt0) trodAll_mk0), hvars W' _ bel, bel.frame _, fun h => by cases h⟩
theorem row_holds : Rows.FnCyclicSaid :=
  OpenClaim.holds_of_wide 6 Tryz.f6 rfl rfl rfl rfl rfl rfl rfl ⟨rfl, rfl, rfl, rfl, rfl⟩ rfl rfl rfl rfl rfl (by kernel_rfl) Tryz.func6 closed
    (of_decide_eq_true (by kernel_rfl)) (by unfold Func.isWrapper; first | (rw [if_pos (by decide +kernel)]; kernel_rfl) | (rw [if_neg (by decide +kernel)]; exact ⟨rfl, rfl⟩))
    (fun os started H enc _ => lifted os started H enc)
end Go.Proofs.YtgfinojlmbfkdaaGreatDoor.Cyclic
namespace Go.Proofs.YtgfinojlmbfkdaaGreatDoor
set_option maxHeartbeats 8000000 in
set_option maxRecDepth 100000 in
theorem FnCyclic_holds : Rows.FnCyclicCardSaid :=
  Claim7.holds_tied_plain_at .later [] [.data] true (true, "4ae8299ce4cf0b5749c45a2aade096cfd08ff0ec798dc43875aae8a818dd40ca") false
    Cyclic.row_holds (fun _ h => by cases h) (by as_aux_lemma => kernel_rfl) (fun _ h => by cases h) fnCyclic_row_tie rfl ⟨rfl, rfl⟩ (by as_aux_lemma => kernel_rfl) rfl
    (fun f fn hf hfn => by
      obtain rfl : f = 6 := Option.some.inj ((show Tryz.prog.funcNamed "loop.example/g00076/laws.FnCyclic" = some 6 by as_aux_lemma => kernel_rfl).symm.trans hf) |>.symm
      obtain rfl : fn = Tryz.f6 := (Option.some.inj (Tryz.func6.symm.trans hfn)).symm
      exact ⟨by as_aux_lemma => kernel_rfl, fun j t ht => by
        rw [Tryz.params6] at ht
        have hm : t ∈ [56] := by simpa using Array.mem_of_getElem? ht
        have hall : ([56].all fun u => !Tryz.prog.wantsStandIn u) = true := by as_aux_lemma => kernel_rfl
        exact (show Tryz.prog.wantsStandIn t = false by simpa using List.all_eq_true.1 hall t hm)⟩)
    (by as_aux_lemma => kernel_rfl)
end Go.Proofs.YtgfinojlmbfkdaaGreatDoor
