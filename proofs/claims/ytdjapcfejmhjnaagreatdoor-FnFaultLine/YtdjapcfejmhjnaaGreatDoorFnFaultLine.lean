/-
  At every drawing FnFaultLine holds: a text refused at a line is refused in the same way when it is cut behind that line, and not by form when it is cut ahead of it; the law returns true and its argument reads as before; the tied card. Condition: the tables hold what the text lays (the card ties them to it).
  Built over the program of the commit that COMMIT names.
-/
import Derived.Test.YtdjapcfejmhjnaaGreatDoorRows
import Derived.Test.YtdjapcfejmhjnaaGreatDoorTie
import Derived.Test.YtdjapcfejmhjnaaGreatDoorCards
import Derived.Test.YtdjapcfejmhjnaaGreatDoorVax
import Derived.Test.YtdjapcfejmhjnaaGreatDoorFtl
import Derived.LaidHandle
import Derived.ChangeOld
namespace Go.Proofs.YtdjapcfejmhjnaaGreatDoor
open Go.ChangeShapes Go.WideShapes Go.ChangeAt Go.WideMaps Go.WideElems Go.RowKit
set_option linter.unusedVariables false
set_option maxRecDepth 100000

/-- The great table and the handle laid where their variables lie. -/
def lay5 (h : Array Obj) : Array Obj := (lay4 h).modify 0 fun o => match o with
  | .cells _ t fr => .cells #[.iface 138 (.agg #[.pointer (some ⟨9, 53, none⟩)])] t fr
  | o => o
abbrev laidC : List (String × DataW Unit) := Rows.fnFaultLineRow.laid
theorem codec_met (os : Os) (args : Array Value) : laidMetH Tryz.prog laidC (({ World.doorLaid Tryz.prog 80 os with heap := lay5 (World.doorLaid Tryz.prog 80 os).heap } : World).forCall (fun _ _ => 0) ⟨#[], args, []⟩).memory :=
  laidMetH_of_parts3 (fuel := 8) (laidMet_of_run' 8 (by kernel_rfl) (by kernel_rfl)) (by kernel_rfl) (by kernel_rfl)
theorem gErr : Tryz.prog.globalNamed "errors.errorType" = some 0 := by kernel_rfl
theorem rtErr : (Tryz.prog.cutTypes.find? (·.1 == "internal/reflectlite.rtype")).map (·.2) = some 138 := by kernel_rfl
theorem oneErr : ((List.range Tryz.prog.types.size).filter fun t => Tryz.prog.rowNamed t [101, 114, 114, 111, 114]) = [53] := by kernel_rfl
theorem handleErr : typeHandle Tryz.prog 53 = .pointer (some ⟨9, 53, none⟩) := by kernel_rfl
def ShowIs (W : World) : Prop := FormsIs W ∧ NamesIs W ∧ TabT W
theorem codec_of_laid {W : World} (h : laidMetH Tryz.prog laidC W) : ShowIs W := by
  have h' : laidMet Tryz.prog (("unicode/utf8.acceptRanges", Rows.laid_unicode_utf8_acceptRanges) :: ("loop.example/g00076/impl.opForms", Lib.tabData .i64 forms) :: ("loop.example/g00076/impl.opNames", Rows.laid_loop_example_g00076_impl_opNames) :: ("unicode/utf8.first", Rows.laid_unicode_utf8_first) :: []) W ∧ handlesMet Tryz.prog [("errors.errorType", Rows.laid_errors_errorType)] W := h
  have h2 := laidMet.tail h'.1
  refine ⟨forms_head h2, names_head (laidMet.tail h2), ?_⟩
  obtain ⟨name, u, ty, e1, e2, e3, e4, e5⟩ := h'.2 _ (List.mem_singleton.2 rfl)
  have en : name = [101, 114, 114, 111, 114] := (Option.some.inj e1).symm
  subst en
  obtain rfl := Option.some.inj (rtErr.symm.trans e2)
  have hm : ty ∈ (List.range Tryz.prog.types.size).filter fun t => Tryz.prog.rowNamed t [101, 114, 114, 111, 114] := List.mem_filter.2 ⟨List.mem_range.2 e3, e4⟩
  rw [oneErr] at hm
  obtain rfl := List.mem_singleton.1 hm
  rw [handleErr] at e5
  have := World.var?_cell gErr e5 0
  simpa [TabT] using this
theorem tab_of_codec {W : World} (h : ShowIs W) : Tab W ∧ TabN W ∧ TabT W := ⟨tab_forms h.1, tab_names h.2.1, h.2.2⟩
end Go.Proofs.YtdjapcfejmhjnaaGreatDoor
namespace Go.Proofs.YtdjapcfejmhjnaaGreatDoor.FnFaultLine
open Go.ChangeShapes Go.WideShapes Go.ChangeAt Go.WideMaps Go.WideElems Go.RowKit
open Go.ChangeMaps (open_string shut_string)
set_option linter.unusedVariables false

theorem laidOut : laidOutB Tryz.prog = true := by kernel_rfl
def IsRow (k : IntKind) (w : World) (a : Option Addr) (len cap : Nat) (zs : List Int) : Prop :=
  (a = none ∧ len = 0 ∧ cap = 0 ∧ zs = []) ∨
  ∃ x, a = some x ∧ len ≤ cap ∧ cap ≤ maxLen ∧ zs.length = cap ∧ (∀ i, i < zs.length → w.cell? (x.add i) = some (.int k (zs.getD i 0))) ∧ ∀ n ∈ zs, (Lit.int k n).wf = true
theorem walk (a0 : Option Addr) (len0 cap0 : Nat) (z0 : List Int) {w : World} (w0 : IsRow .u8 w a0 len0 cap0 z0) (ww : World) (hww : ww = w) (hT : Tab w ∧ TabN w ∧ TabT w) (hM : TabM w) :
    Calls Tryz.prog 4 #[.slice a0 len0 cap0] w fun e w' => e = .returned (.bool true) ∧ Below w.heap.size w w' := by
  obtain ⟨zs, hlen, hs, hw⟩ := seg_of_row w0
  subst hlen
  clear w0 hww
  by_cases hn : zs.length ≤ 1048576
  · exact fault_law a0 zs.length cap0 zs w rfl hs hw hn hM hT.1 hT.2.1 hT.2.2
  · have HN : Hid _ := hn
    clear hs hw hT hM
    generalize zs.length = n at hn HN
    go_enter Tryz.func4, Tryz.ntmps4
    go_wp2_with fail
    refine (big_yes a0 n cap0 _ HN.out).mono ?_
    rintro e w1 ⟨rfl, hw1⟩
    subst hw1
    go_wp2
    go_ret
    exact ⟨rfl, Below.refl _ _⟩

set_option maxRecDepth 100000 in
theorem lifted (os : Os) (started : os.Started) (H : Type) (enc : TypeId × Value → H) :
    ReturnsInHanded {} Tryz.checked os 4 .any (fun w args => (Rows.fnFaultLineSpec.pre enc Tryz.prog Tryz.f4 [] false w args ∧ laidMetH Tryz.prog laidC w) ∧ sizedMet enc Tryz.prog Tryz.f4 (OpenSpec.ofChange Rows.fnFaultLineSpec) false w args)
      (Rows.fnFaultLineSpec.post enc Tryz.prog Tryz.f4 false true false false) := by
  refine returns_shaped (C := Tryz.checked) (X := fun w _ => laidMetH Tryz.prog laidC w) (fun _ _ _ hh h => h.of_heap hh) own started (by kernel_rfl) Tryz.func4
    (ChangeSpec.witness_shaped (enc := enc) (C := Tryz.checked) (os := os) (X := fun w _ => laidMetH Tryz.prog laidC w) false ({ World.doorLaid Tryz.prog 80 os with heap := lay5 (World.doorLaid Tryz.prog 80 os).heap } : World) #[.slice none 0 0] 8 rfl (World.shaped_of_RefB (by kernel_rfl) (by kernel_rfl)) (by kernel_rfl) (by kernel_rfl) (by kernel_rfl) (codec_met os _)) ?_
  intro W base args ds gs before hval0 hW _ _ hL hsh
  have hval : ∀ (j : Nat) t v, Tryz.f4.params[j]? = some t → args[j]? = some v → Value.okWide Tryz.prog W .any base t v := hval0
  have hW' := hW
  obtain ⟨p, q, hA0, hV, rfl, hfz, hnd⟩ := hW
  have hA : DataW.TrodAll enc Tryz.prog W 0 (fun _ => true) true Tryz.f4.params.toList args.toList ds p := hA0
  rw [Tryz.params4] at hA hval
  obtain ⟨v0, d0, rfl, rfl, h0⟩ := trodAll_one hA
  have htab := codec_of_laid hL
  obtain ⟨rfl, hvars⟩ := vars_nf htab.1 htab.2.1 hV
  obtain ⟨a0, len0, cap0, rfl⟩ := okWide_slice Tryz.underlying22 (hval 0 22 v0 rfl rfl)
  have k0 := h0
  have lt0 : ∀ x ∈ p, x.block < W.heap.size := by obtain ⟨m, hm⟩ := k0; exact DataW.trod_lt m _ _ _ hm
  obtain ⟨z0, w0⟩ : ∃ zs, IsRow .u8 W a0 len0 cap0 zs := by
    obtain ⟨fuel, hf⟩ := h0
    rcases open_ints Tryz.underlying22 Tryz.underlying5 (by kernel_rfl) hf with ⟨hcs, _⟩ | ⟨x, l, c, zs, hcs, _, hl, hm, hz, _, hcell, hwz⟩
    · simp [Value.cells] at hcs
      obtain ⟨rfl, rfl, rfl⟩ := hcs
      exact ⟨[], .inl ⟨rfl, rfl, rfl, rfl⟩⟩
    · simp [Value.cells] at hcs
      obtain ⟨rfl, rfl, rfl⟩ := hcs
      exact ⟨zs, .inr ⟨_, rfl, hl, hm, by simpa using hz, hcell, hwz⟩⟩
  clear hA0 hval0
  refine (walk a0 len0 cap0 z0 w0 W rfl (tab_of_codec htab) (tab_shape hsh)).mono fun e W' ⟨he, bel⟩ => ?_
  subst he
  exact ⟨_, rfl, _, _, _, [], _, _, hW', (trodAll_mk1 (shut_bool Tryz.underlying4 _)), (trodAll_mk1 (Below.trod laidOut (by kernel_rfl) (of_decide_eq_true (by kernel_rfl)) k0 bel lt0)), hvars W' _ bel, bel.frame _, fun h => by cases h⟩
theorem row_holds : Rows.FnFaultLineSaid :=
  OpenClaim.holds_of_wide 4 Tryz.f4 rfl rfl rfl rfl rfl rfl rfl ⟨rfl, rfl, rfl, rfl, rfl⟩ rfl rfl rfl rfl rfl (by kernel_rfl) Tryz.func4 (by kernel_rfl)
    (of_decide_eq_true (by kernel_rfl)) (by unfold Func.isWrapper; first | (rw [if_pos (by decide +kernel)]; kernel_rfl) | (rw [if_neg (by decide +kernel)]; exact ⟨rfl, rfl⟩))
    (fun os started H enc _ => lifted os started H enc)
end Go.Proofs.YtdjapcfejmhjnaaGreatDoor.FnFaultLine
namespace Go.Proofs.YtdjapcfejmhjnaaGreatDoor
theorem FnFaultLine_holds : Rows.FnFaultLineCardSaid :=
  Claim7.holds_tied_plain_at .later [] [.data, .handle, .data, .data, .pinned] true (true, "001b353484bc7acc15b766161553dbc35a320286ec5682d97561fb9db6b98406") true
    FnFaultLine.row_holds (fun _ h => by cases h) (by kernel_rfl) (fun _ h => by cases h) fnFaultLine_row_tie rfl ⟨rfl, rfl⟩ (by kernel_rfl) rfl
    (fun f fn hf hfn => by
      obtain rfl : f = 4 := Option.some.inj ((show Tryz.prog.funcNamed "loop.example/g00076/laws.FnFaultLine" = some 4 by kernel_rfl).symm.trans hf) |>.symm
      obtain rfl : fn = Tryz.f4 := (Option.some.inj (Tryz.func4.symm.trans hfn)).symm
      exact ⟨by kernel_rfl, fun j t ht => by
        rw [Tryz.params4] at ht
        have hm : t ∈ [22] := by simpa using Array.mem_of_getElem? ht
        have hall : ([22].all fun u => !Tryz.prog.wantsStandIn u) = true := by kernel_rfl
        exact (show Tryz.prog.wantsStandIn t = false by simpa using List.all_eq_true.1 hall t hm)⟩)
    (by kernel_rfl)

end Go.Proofs.YtdjapcfejmhjnaaGreatDoor
