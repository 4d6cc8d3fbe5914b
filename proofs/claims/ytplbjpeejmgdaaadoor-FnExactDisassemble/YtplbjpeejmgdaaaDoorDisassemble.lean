/-
  At every list of words Disassemble answers as its model: the law FnExactDisassemble returns true and its argument reads as before; the tied card. Condition: the tables hold what the text lays (the card ties them to it).
  Built over the program of the commit that COMMIT names.
-/
import Derived.Test.YtplbjpeejmgdaaaDoorRows
import Derived.Test.YtplbjpeejmgdaaaDoorTie
import Derived.Test.YtplbjpeejmgdaaaDoorCards
import Derived.Test.YtplbjpeejmgdaaaDoorVars
import Derived.ChangeOld
import Derived.Test.YtplbjpeejmgdaaaDoorDis
namespace Go.Proofs.YtplbjpeejmgdaaaDoor.Disassemble
open Go.ChangeShapes Go.WideShapes Go.ChangeAt Go.WideMaps Go.WideElems Go.RowKit
open Go.ChangeMaps (open_string shut_string)
set_option linter.unusedVariables false

theorem laidOut : laidOutB Tryd.prog = true := by kernel_rfl
def IsRow (k : IntKind) (w : World) (a : Option Addr) (len cap : Nat) (zs : List Int) : Prop :=
  (a = none ∧ len = 0 ∧ cap = 0 ∧ zs = []) ∨
  ∃ x, a = some x ∧ len ≤ cap ∧ cap ≤ maxLen ∧ zs.length = cap ∧ (∀ i, i < zs.length → w.cell? (x.add i) = some (.int k (zs.getD i 0))) ∧ ∀ n ∈ zs, (Lit.int k n).wf = true
/-- What Disassemble answers. -/
def ans (zs : List Int) : ByteArray × Bool := if zs.length ≤ 256 then (Dz.text zs, true) else (⟨#[]⟩, false)
theorem spec_any (a : Option Addr) (cap n : Nat) (zs : List Int) (t : ByteArray) (q : Bool) (w : World) (hs : Seg .u32 w a zs) (hw : Words zs) (Hn : Hid (n = zs.length)) (h : n ≤ 1048576) (he : ans zs = (t, q)) :
    Calls Tryd.prog 30 #[.slice a n cap] w fun e w' => e = .returned (.tuple #[.string t, .bool q]) ∧ Below w.heap.size w w' := by
  unfold ans at he
  by_cases h2 : n ≤ 256
  · rw [if_pos (by rw [← Hn.out]; exact h2)] at he
    injection he with e1 e2
    subst e1 e2
    exact spec_dis a cap n zs w hs hw Hn h2
  · rw [if_neg (by rw [← Hn.out]; exact h2)] at he
    injection he with e1 e2
    subst e1 e2
    exact spec_dis_long a n cap w (by omega) h
theorem impl_any (a : Option Addr) (cap n : Nat) (zs : List Int) (t : ByteArray) (q : Bool) (w : World) (hT : Tabs w) (hs : Seg .u32 w a zs) (hw : Words zs) (Hn : Hid (n = zs.length)) (h : n ≤ 1048576) (he : ans zs = (t, q)) :
    Calls Tryd.prog 32 #[.slice a n cap] w fun e w' => e = .returned (.tuple #[.string t, .bool q]) ∧ Below w.heap.size w w' := by
  unfold ans at he
  by_cases h2 : n ≤ 256
  · rw [if_pos (by rw [← Hn.out]; exact h2)] at he
    injection he with e1 e2
    subst e1 e2
    exact impl_dis a cap n zs w hT hs hw Hn h2
  · rw [if_neg (by rw [← Hn.out]; exact h2)] at he
    injection he with e1 e2
    subst e1 e2
    exact impl_dis_long a n cap w (by omega) h
theorem walk (a0 : Option Addr) (len0 cap0 : Nat) (z0 : List Int) {w : World} (w0 : IsRow .u32 w a0 len0 cap0 z0) (ww : World) (hww : ww = w) (hT : Tabs w) :
    Calls Tryd.prog 8 #[.slice a0 len0 cap0] w fun e w' => e = .returned (.bool true) ∧ Below w.heap.size w w' := by
  obtain ⟨zs, hlen, hs, hw⟩ := seg_of_row w0
  subst hlen
  have Hw : Hid (Words zs) := hw
  have HT : Hid _ := hT
  clear hw w0 hT hww
  obtain ⟨⟨t, q⟩, he⟩ : ∃ x, ans zs = x := ⟨_, rfl⟩
  have HE : Hid _ := he
  clear he
  by_cases hn : zs.length ≤ 1048576
  · go_enter Tryd.func8, Tryd.ntmps8
    go_wp2_with fail
    refine (to_words _ _ _ _ hs hn).mono ?_
    rintro e w1 ⟨rfl, hb1, hz1, ho1⟩
    clear hz1
    go_wp2_with fail
    refine (spec_any _ _ _ _ t q _ ho1.seg Hw.out rfl hn HE.out).mono ?_
    rintro e w2 ⟨rfl, hb2⟩
    have hb12 := Below.hop hb1 hb2
    have hs2 := hs.below hb12
    go_wp2_with fail
    refine (to_words _ _ _ _ hs2 hn).mono ?_
    rintro e w3 ⟨rfl, hb3, hz3, ho3⟩
    clear hz3
    have hb13 := Below.hop hb12 hb3
    go_wp2_with fail
    refine (impl_any _ _ _ _ t q _ (Tabs.below HT.out hb13) ho3.seg Hw.out rfl hn HE.out).mono ?_
    rintro e w4 ⟨rfl, hb4⟩
    have hb14 := Below.hop hb13 hb4
    have hs4 := hs.below hb14
    have ho4 := ho3.below hb4
    cases q
    all_goals
      go_wp2_with fail
      refine (to_words _ _ _ _ hs4 hn).mono ?_
      rintro e w5 ⟨rfl, hb5, hz5, ho5⟩
      clear hz5
      have hb15 := Below.hop hb14 hb5
      go_wp2_with fail
      refine (eq_words _ _ _ _ _ _ (ho4.below hb5).seg ho5.seg hn).mono ?_
      rintro e w6 ⟨rfl, m6, rfl⟩
      go_wp2
      go_ret
      exact ⟨rfl, below_drewN hb15 m6⟩
  · go_enter Tryd.func8, Tryd.ntmps8
    go_wp2
    go_ret
    exact ⟨rfl, Below.refl _ _⟩

set_option maxRecDepth 100000 in
theorem lifted (os : Os) (started : os.Started) (H : Type) (enc : TypeId × Value → H) :
    ReturnsInHanded {} Tryd.checked os 8 .any (fun w args => (Rows.fnExactDisassembleSpec.pre enc Tryd.prog Tryd.f8 [] false w args ∧ laidMetH Tryd.prog laidS w) ∧ sizedMet enc Tryd.prog Tryd.f8 (OpenSpec.ofChange Rows.fnExactDisassembleSpec) false w args)
      (Rows.fnExactDisassembleSpec.post enc Tryd.prog Tryd.f8 false true false false) := by
  refine returnsInHanded_of_change_and (C := Tryd.checked) (X := fun w _ => laidMetH Tryd.prog laidS w) (fun _ _ _ hh h => h.of_heap hh) own started (by kernel_rfl) Tryd.func8
    (ChangeSpec.witness_shaped (enc := enc) (C := Tryd.checked) (os := os) (X := fun w _ => laidMetH Tryd.prog laidS w) false (World.doorLaid Tryd.prog 80 os) #[.slice none 0 0] 8 rfl (World.shaped_of_RefB (by kernel_rfl) (by kernel_rfl)) (by kernel_rfl) (by kernel_rfl) (by kernel_rfl) (show_met os _)) ?_
  intro W base args ds gs before hval0 hW _ _ hL _
  have hval : ∀ (j : Nat) t v, Tryd.f8.params[j]? = some t → args[j]? = some v → Value.okWide Tryd.prog W .any base t v := hval0
  have hW' := hW
  obtain ⟨p, q, hA0, hV, rfl, hfz, hnd⟩ := hW
  have hA : DataW.TrodAll enc Tryd.prog W 0 (fun _ => true) true Tryd.f8.params.toList args.toList ds p := hA0
  rw [Tryd.params8] at hA hval
  obtain ⟨v0, d0, rfl, rfl, h0⟩ := trodAll_one hA
  have htab := show_of_laid hL
  obtain ⟨rfl, hvars⟩ := vars_show htab hV
  obtain ⟨a0, len0, cap0, rfl⟩ := okWide_slice Tryd.underlying43 (hval 0 43 v0 rfl rfl)
  have k0 := h0
  have lt0 : ∀ x ∈ p, x.block < W.heap.size := by obtain ⟨m, hm⟩ := k0; exact DataW.trod_lt m _ _ _ hm
  obtain ⟨z0, w0⟩ : ∃ zs, IsRow .u32 W a0 len0 cap0 zs := by
    obtain ⟨fuel, hf⟩ := h0
    rcases open_ints Tryd.underlying43 Tryd.underlying27 (by kernel_rfl) hf with ⟨hcs, _⟩ | ⟨x, l, c, zs, hcs, _, hl, hm, hz, _, hcell, hwz⟩
    · simp [Value.cells] at hcs
      obtain ⟨rfl, rfl, rfl⟩ := hcs
      exact ⟨[], .inl ⟨rfl, rfl, rfl, rfl⟩⟩
    · simp [Value.cells] at hcs
      obtain ⟨rfl, rfl, rfl⟩ := hcs
      exact ⟨zs, .inr ⟨_, rfl, hl, hm, by simpa using hz, hcell, hwz⟩⟩
  clear hA0 hval0
  refine (walk a0 len0 cap0 z0 w0 W rfl (tab_of_show htab)).mono fun e W' ⟨he, bel⟩ => ?_
  subst he
  exact ⟨_, rfl, _, _, _, [], _, _, hW', (trodAll_mk1 (shut_bool Tryd.underlying4 _)), (trodAll_mk1 (Below.trod laidOut (by kernel_rfl) (of_decide_eq_true (by kernel_rfl)) k0 bel lt0)), hvars W' _ bel, bel.frame _, fun h => by cases h⟩
theorem row_holds : Rows.FnExactDisassembleSaid :=
  OpenClaim.holds_of_wide 8 Tryd.f8 rfl rfl rfl rfl rfl rfl rfl ⟨rfl, rfl, rfl, rfl, rfl⟩ rfl rfl rfl rfl rfl (by kernel_rfl) Tryd.func8 (by kernel_rfl)
    (of_decide_eq_true (by kernel_rfl)) (by unfold Func.isWrapper; first | (rw [if_pos (by decide +kernel)]; kernel_rfl) | (rw [if_neg (by decide +kernel)]; exact ⟨rfl, rfl⟩))
    (fun os started H enc _ => lifted os started H enc)
end Go.Proofs.YtplbjpeejmgdaaaDoor.Disassemble
namespace Go.Proofs.YtplbjpeejmgdaaaDoor
theorem FnExactDisassemble_holds : Rows.FnExactDisassembleCardSaid :=
  Claim7.holds_tied_plain_at .later [] [.data, .data, .data, .data, .data] true (true, "0e9a5867fcfba9d3e7e5da597f9d221a76d5b1c8bce492a4ebc560dd9f53807d") true
    Disassemble.row_holds (fun _ h => by cases h) (by kernel_rfl) (fun _ h => by cases h) fnExactDisassemble_row_tie rfl ⟨rfl, rfl⟩ (by kernel_rfl) rfl
    (fun f fn hf hfn => by
      obtain rfl : f = 8 := Option.some.inj ((show Tryd.prog.funcNamed "loop.example/g00076/laws.FnExactDisassemble" = some 8 by kernel_rfl).symm.trans hf) |>.symm
      obtain rfl : fn = Tryd.f8 := (Option.some.inj (Tryd.func8.symm.trans hfn)).symm
      exact ⟨by kernel_rfl, fun j t ht => by
        rw [Tryd.params8] at ht
        have hm : t ∈ [43] := by simpa using Array.mem_of_getElem? ht
        have hall : ([43].all fun u => !Tryd.prog.wantsStandIn u) = true := by kernel_rfl
        exact (show Tryd.prog.wantsStandIn t = false by simpa using List.all_eq_true.1 hall t hm)⟩)
    (by kernel_rfl)

end Go.Proofs.YtplbjpeejmgdaaaDoor
