
/-
  At every text EventOf answers as its model: the law FnExactEventOf returns true and its argument reads as before; the tied card. Condition: the program's table of names and the library's tables hold what the texts lay (the card ties them to it).
  Built over the program of the commit that COMMIT names.
-/
import Derived.Test.YthlapikcjiajgaaDoorBas
import Derived.Test.YthlapikcjiajgaaDoorRows
import Derived.Test.YthlapikcjiajgaaDoorTie
import Derived.Test.YthlapikcjiajgaaDoorCards
import Derived.Test.YthlapikcjiajgaaDoorVev
import Derived.Test.YthlapikcjiajgaaDoorEwk
namespace Go.Proofs.YthlapikcjiajgaaDoor.EventOf
open Go.ChangeShapes Go.WideShapes Go.ChangeAt Go.WideMaps Go.WideElems Go.RowKit
open Go.ChangeMaps (open_string shut_string)
set_option linter.unusedVariables false

set_option maxHeartbeats 4000000 in
theorem walk_at (s : ByteArray) (x1 x2 x3 x4 x5 x6 x7 : Int) (b : Bool) (w : World) (hs : ¬ 1048576 < s.size)
    (HS : Hid (∀ X, Calls Tryd.prog 9 #[.string s] X fun e w' => e = .returned (.tuple #[.agg #[.int .i64 x1, .int .i64 x2, .int .u32 x3, .int .i64 x4, .int .i64 x5, .int .i64 x6, .int .u32 x7], .bool b]) ∧ Below X.heap.size X w'))
    (HI : Hid (∀ X, Below w.heap.size w X → Calls Tryd.prog 10 #[.string s] X fun e w' => e = .returned (.tuple #[.agg #[.int .i64 x1, .int .i64 x2, .int .u32 x3, .int .i64 x4, .int .i64 x5, .int .i64 x6, .int .u32 x7], .bool b]) ∧ Below X.heap.size X w')) :
    Calls Tryd.prog 4 #[.string s] w fun e w' => e = .returned (.bool true) ∧ Below w.heap.size w w' := by
  have hd : decide ((1048576 : Int) < (s.size : Int)) = false := decide_eq_false (by omega)
  have HL : Hid (¬ 1048576 < s.size) := hs
  have HEQ : Hid (∀ X, Calls Tryd.prog 11 #[.agg #[.int .i64 x1, .int .i64 x2, .int .u32 x3, .int .i64 x4, .int .i64 x5, .int .i64 x6, .int .u32 x7], .agg #[.int .i64 x1, .int .i64 x2, .int .u32 x3, .int .i64 x4, .int .i64 x5, .int .i64 x6, .int .u32 x7]] X fun e w' => e = .returned (.bool true) ∧ Below X.heap.size X w') := fun X => ev_eq1 (x1, x2, x3, x4, x5, x6, x7) X
  clear hs
  go_enter Tryd.func4, Tryd.ntmps4
  go_wp2_with fail
  refine Calls.mono (HS.out _) ?_
  rintro e w1 ⟨rfl, hb1⟩
  have HN1 : Hid ((w1.alloc (.cells #[.int .i64 0, .int .i64 0, .int .u32 0, .int .i64 0, .int .i64 0, .int .i64 0, .int .u32 0] 26)).heap[w1.heap.size]? = some (.cells #[.int .i64 0, .int .i64 0, .int .u32 0, .int .i64 0, .int .i64 0, .int .i64 0, .int .u32 0] 26 (0, 0))) := new_row w1 _ _ _ rfl
  have HR1 : Hid (((w1.alloc (.cells #[.int .i64 0, .int .i64 0, .int .u32 0, .int .i64 0, .int .i64 0, .int .i64 0, .int .u32 0] 26)).setRow w1.heap.size #[.int .i64 x1, .int .i64 x2, .int .u32 x3, .int .i64 x4, .int .i64 x5, .int .i64 x6, .int .u32 x7]).heap[w1.heap.size]? = some (.cells #[.int .i64 x1, .int .i64 x2, .int .u32 x3, .int .i64 x4, .int .i64 x5, .int .i64 x6, .int .u32 x7] 26 (0, 0))) := setRow_heap _ _ _ _ _ _ HN1.out
  have HB1 : Hid (Below w.heap.size w ((w1.alloc (.cells #[.int .i64 0, .int .i64 0, .int .u32 0, .int .i64 0, .int .i64 0, .int .i64 0, .int .u32 0] 26)).setRow w1.heap.size #[.int .i64 x1, .int .i64 x2, .int .u32 x3, .int .i64 x4, .int .i64 x5, .int .i64 x6, .int .u32 x7])) := hb1.trans ((below_setRow ((Below.refl w1.heap.size w1).alloc (Nat.le_refl _) _) (Nat.le_refl _) _).mono hb1.size)
  have HK1 : Hid (w1.heap.size < ((w1.alloc (.cells #[.int .i64 0, .int .i64 0, .int .u32 0, .int .i64 0, .int .i64 0, .int .i64 0, .int .u32 0] 26)).setRow w1.heap.size #[.int .i64 x1, .int .i64 x2, .int .u32 x3, .int .i64 x4, .int .i64 x5, .int .i64 x6, .int .u32 x7]).heap.size) := by show _ < _; simp [World.setRow]
  clear hb1
  go_wp2_with (first | (refine wpList_store_row rfl 26 (.tmp 3) (.tmp 13) rfl w1.heap.size #[.int .i64 x1, .int .i64 x2, .int .u32 x3, .int .i64 x4, .int .i64 x5, .int .i64 x6, .int .u32 x7] rfl rfl 26 #[.int .i64 0, .int .i64 0, .int .u32 0, .int .i64 0, .int .i64 0, .int .i64 0, .int .u32 0] HN1.out (by kernel_rfl) rfl (by simp [Value.oneCell']) ?_) | fail)
  generalize ((w1.alloc (.cells #[.int .i64 0, .int .i64 0, .int .u32 0, .int .i64 0, .int .i64 0, .int .i64 0, .int .u32 0] 26)).setRow w1.heap.size #[.int .i64 x1, .int .i64 x2, .int .u32 x3, .int .i64 x4, .int .i64 x5, .int .i64 x6, .int .u32 x7]) = U1 at HR1 HB1 HK1 ⊢
  refine Calls.mono (HI.out _ HB1.out) ?_
  rintro e w2 ⟨rfl, hb2⟩
  have HN2 : Hid ((w2.alloc (.cells #[.int .i64 0, .int .i64 0, .int .u32 0, .int .i64 0, .int .i64 0, .int .i64 0, .int .u32 0] 26)).heap[w2.heap.size]? = some (.cells #[.int .i64 0, .int .i64 0, .int .u32 0, .int .i64 0, .int .i64 0, .int .i64 0, .int .u32 0] 26 (0, 0))) := new_row w2 _ _ _ rfl
  have hbs : Below w2.heap.size w2 ((w2.alloc (.cells #[.int .i64 0, .int .i64 0, .int .u32 0, .int .i64 0, .int .i64 0, .int .i64 0, .int .u32 0] 26)).setRow w2.heap.size #[.int .i64 x1, .int .i64 x2, .int .u32 x3, .int .i64 x4, .int .i64 x5, .int .i64 x6, .int .u32 x7]) := below_setRow ((Below.refl w2.heap.size w2).alloc (Nat.le_refl _) _) (Nat.le_refl _) _
  have HR2 : Hid (((w2.alloc (.cells #[.int .i64 0, .int .i64 0, .int .u32 0, .int .i64 0, .int .i64 0, .int .i64 0, .int .u32 0] 26)).setRow w2.heap.size #[.int .i64 x1, .int .i64 x2, .int .u32 x3, .int .i64 x4, .int .i64 x5, .int .i64 x6, .int .u32 x7]).heap[w2.heap.size]? = some (.cells #[.int .i64 x1, .int .i64 x2, .int .u32 x3, .int .i64 x4, .int .i64 x5, .int .i64 x6, .int .u32 x7] 26 (0, 0))) := setRow_heap _ _ _ _ _ _ HN2.out
  have HR3 : Hid (((w2.alloc (.cells #[.int .i64 0, .int .i64 0, .int .u32 0, .int .i64 0, .int .i64 0, .int .i64 0, .int .u32 0] 26)).setRow w2.heap.size #[.int .i64 x1, .int .i64 x2, .int .u32 x3, .int .i64 x4, .int .i64 x5, .int .i64 x6, .int .u32 x7]).heap[w1.heap.size]? = some (.cells #[.int .i64 x1, .int .i64 x2, .int .u32 x3, .int .i64 x4, .int .i64 x5, .int .i64 x6, .int .u32 x7] 26 (0, 0))) := row_below HR1.out (hb2.trans (hbs.mono hb2.size))
  have HB2 : Hid (Below w.heap.size w ((w2.alloc (.cells #[.int .i64 0, .int .i64 0, .int .u32 0, .int .i64 0, .int .i64 0, .int .i64 0, .int .u32 0] 26)).setRow w2.heap.size #[.int .i64 x1, .int .i64 x2, .int .u32 x3, .int .i64 x4, .int .i64 x5, .int .i64 x6, .int .u32 x7])) := HB1.out.trans ((hb2.trans (hbs.mono hb2.size)).mono HB1.out.size)
  clear hb2 hbs HB1 HR1 HK1
  go_wp2_with (first | (refine wpList_store_row rfl 26 (.tmp 5) (.tmp 18) rfl w2.heap.size #[.int .i64 x1, .int .i64 x2, .int .u32 x3, .int .i64 x4, .int .i64 x5, .int .i64 x6, .int .u32 x7] rfl rfl 26 #[.int .i64 0, .int .i64 0, .int .u32 0, .int .i64 0, .int .i64 0, .int .i64 0, .int .u32 0] HN2.out (by kernel_rfl) rfl (by simp [Value.oneCell']) ?_; generalize ((w2.alloc (.cells #[.int .i64 0, .int .i64 0, .int .u32 0, .int .i64 0, .int .i64 0, .int .i64 0, .int .u32 0] 26)).setRow w2.heap.size #[.int .i64 x1, .int .i64 x2, .int .u32 x3, .int .i64 x4, .int .i64 x5, .int .i64 x6, .int .u32 x7]) = U2 at HR2 HR3 HB2 ⊢) | (refine wpList_load_row rfl 26 (.tmp 5) rfl w2.heap.size rfl 26 #[.int .i64 x1, .int .i64 x2, .int .u32 x3, .int .i64 x4, .int .i64 x5, .int .i64 x6, .int .u32 x7] (0, 0) _ HR2.out Tryd.underlying26 rfl (by kernel_rfl) ?_) | (refine wpList_load_row rfl 26 (.tmp 3) rfl w1.heap.size rfl 26 #[.int .i64 x1, .int .i64 x2, .int .u32 x3, .int .i64 x4, .int .i64 x5, .int .i64 x6, .int .u32 x7] (0, 0) _ HR3.out Tryd.underlying26 rfl (by kernel_rfl) ?_) | fail)
  refine Calls.mono (HEQ.out _) ?_
  rintro e w3 ⟨rfl, hb3⟩
  have HB3 : Hid (Below w.heap.size w w3) := HB2.out.trans (hb3.mono HB2.out.size)
  clear hb3
  cases b
  · go_wp2
    go_ret
    exact ⟨rfl, HB3.out⟩
  · go_wp2
    go_ret
    exact ⟨rfl, HB3.out⟩
theorem walk_big (s : ByteArray) (w : World) (hs : 1048576 < s.size) (hm : s.size ≤ 9223372036854775807) :
    Calls Tryd.prog 4 #[.string s] w fun e w' => e = .returned (.bool true) ∧ Below w.heap.size w w' := by
  have hd : decide ((1048576 : Int) < (s.size : Int)) = true := decide_eq_true (by omega)
  go_enter Tryd.func4, Tryd.ntmps4
  go_wp2
  go_ret
  exact ⟨rfl, Below.refl _ _⟩
theorem walk (s : ByteArray) (w0 : s.size ≤ maxLen) (w : World) (hT : NamesIs w) (hM : TabM w) : Calls Tryd.prog 4 #[.string s] w fun e w' => e = .returned (.bool true) ∧ Below w.heap.size w w' := by
  by_cases hs : 1048576 < s.size
  · exact walk_big s w hs (Nat.le_trans w0 (by unfold maxLen; omega))
  · have hN := tab_names hT
    have hs2 : s.size ≤ 1048576 := by omega
    exact walk_at s _ _ _ _ _ _ _ _ w hs (fun X => spec_evo s X hs2) (fun X hX => impl_evo s X hs2 (fun i hi => (hX.cell (World.block_lt_of_cell? _ _ (hN i hi))).trans (hN i hi)) (by
      obtain ⟨m, hm⟩ := hM
      exact ⟨m, (hX.cell (World.block_lt_of_cell? _ _ hm)).trans hm⟩))
theorem returns_shaped {H : Type} {enc : TypeId × Value → H} {a : Assume} {C : Checked} {os : Os} {f : FuncId} {fn : Func} {s : ChangeSpec} {conds : List PathCond} {apart fresh handsOn again : Bool} {X : World → Array Value → Prop}
    (hX : ∀ (w w' : World) (args : Array Value), w.heap = w'.heap → X w args → X w' args)
    (own : ownKnob C.prog.godebug = none) (started : os.Started) (noInit : C.prog.inits.idxOf? f = none) (hfn : C.prog.funcs[f]? = some fn)
    (witness : ∃ (w : World) (tape : Tape) (i : Input), w.os = os ∧ (w.forCall tape i).Shaped C.prog ∧ i.vars = [] ∧ Input.okWide C.prog (w.forCall tape i) .any w.heap.size f i ∧
      ((s.pre enc C.prog fn conds apart (w.forCall tape i).memory i.args ∧ X (w.forCall tape i).memory i.args) ∧ sizedMet enc C.prog fn (OpenSpec.ofChange s) apart (w.forCall tape i).memory i.args) ∧ a.holds C.prog (lone (Frame.enter C.prog f i.args .normal) [] (w.forCall tape i)))
    (contract : ∀ (W : World) (base : Nat) (args : Array Value) (ds gs : List (DataW H)) (before : List MemPlace),
      (∀ (j : Nat) t v, fn.params[j]? = some t → args[j]? = some v → Value.okWide C.prog W .any base t v) →
      DataW.Whole enc C.prog fn.params.toList s.vars apart W args.toList ds gs before →
      conds.all (PathCond.test C.prog ⟨fn.params.toList, ds, s.plain.varTypes C.prog, gs⟩) = true →
      (DataW.weightsEach C.prog (fn.params.toList ++ s.plain.varTypes C.prog) (ds ++ gs)).all (· ≤ reachBytes) = true → X W args →
      W.ShapedOpen C.prog →
      Calls C.prog f args W fun e W' => ∃ v, e = .returned v ∧ s.post enc C.prog fn apart fresh handsOn again W args v W') :
    ReturnsInHanded a C os f .any (fun w args => (s.pre enc C.prog fn conds apart w args ∧ X w args) ∧ sizedMet enc C.prog fn (OpenSpec.ofChange s) apart w args) (s.post enc C.prog fn apart fresh handsOn again) := by
  refine returnsInHanded_of_calls own started noInit witness ?_
  intro w tape i _ hsh _ hok hpre hholds
  obtain ⟨_, _, _, fn', hfn', _, _, _, _, hval⟩ := hok
  obtain rfl : fn' = fn := Option.some.inj (hfn'.symm.trans hfn)
  obtain ⟨⟨⟨ds, gs, before, hw, hc⟩, hx⟩, hz⟩ := hpre
  refine (contract (w.forCall tape i) w.heap.size i.args ds gs before hval (DataW.Whole.of_heap (w' := w.forCall tape i) (by rfl) hw) hc (hz.weights hw) (hX _ _ _ (by rfl) hx) hsh).mono fun e W' ⟨v, he, hp⟩ => ?_
  subst he
  exact ChangeSpec.post_blind hp
theorem tab_shape {W : World} (h : W.ShapedOpen Tryd.prog) : TabM W :=
  Go.Proofs.cell_of_shapedOpen_int (zero := #[.int .i64 0]) (t := 3) h (of_decide_eq_true (by kernel_rfl)) (by kernel_rfl) rfl (by kernel_rfl) (by kernel_rfl) Tryd.underlying3
set_option maxRecDepth 100000 in
theorem lifted (os : Os) (started : os.Started) (H : Type) (enc : TypeId × Value → H) :
    ReturnsInHanded {} Tryd.checked os 4 .any (fun w args => (Rows.fnExactEventOfSpec.pre enc Tryd.prog Tryd.f4 [] false w args ∧ laidMetH Tryd.prog laidO w) ∧ sizedMet enc Tryd.prog Tryd.f4 (OpenSpec.ofChange Rows.fnExactEventOfSpec) false w args)
      (Rows.fnExactEventOfSpec.post enc Tryd.prog Tryd.f4 false true false false) := by
  refine returns_shaped (C := Tryd.checked) (X := fun w _ => laidMetH Tryd.prog laidO w) (fun _ _ _ hh h => h.of_heap hh) own started (by kernel_rfl) Tryd.func4
    (ChangeSpec.witness_shaped (enc := enc) (C := Tryd.checked) (os := os) (X := fun w _ => laidMetH Tryd.prog laidO w) false ({ World.doorLaid Tryd.prog 80 os with heap := lay4 (World.doorLaid Tryd.prog 80 os).heap } : World) #[.string ⟨#[]⟩] 8 rfl (World.shaped_of_RefB (by kernel_rfl) (by kernel_rfl)) (by kernel_rfl) (by kernel_rfl) (by kernel_rfl) (evo_met os _)) ?_
  intro W base args ds gs before hval0 hW _ _ hL hSH
  have hval : ∀ (j : Nat) t v, Tryd.f4.params[j]? = some t → args[j]? = some v → Value.okWide Tryd.prog W .any base t v := hval0
  have hW' := hW
  obtain ⟨p, q, hA0, hV, rfl, hfz, hnd⟩ := hW
  have hA : DataW.TrodAll enc Tryd.prog W 0 (fun _ => true) true Tryd.f4.params.toList args.toList ds p := hA0
  rw [Tryd.params4] at hA hval
  obtain ⟨v0, d0, rfl, rfl, h0⟩ := trodAll_one hA
  have htab := evo_of_laid hL
  obtain ⟨rfl, hvars⟩ := vars_names htab hV
  obtain ⟨s, rfl, rfl, rfl, w0⟩ := open_string Tryd.underlying9 (hval 0 9 v0 rfl rfl) h0
  clear hA0 hval0
  refine (walk s w0 W htab (tab_shape hSH)).mono fun e W' ⟨he, bel⟩ => ?_
  subst he
  exact ⟨_, rfl, _, _, _, [], [], _, hW', (trodAll_mk1 (shut_bool Tryd.underlying4 _)), (trodAll_mk1 (shut_string Tryd.underlying9 w0)), hvars W' _ bel, bel.frame _, fun h => by cases h⟩
theorem row_holds : Rows.FnExactEventOfSaid :=
  OpenClaim.holds_of_wide 4 Tryd.f4 rfl rfl rfl rfl rfl rfl rfl ⟨rfl, rfl, rfl, rfl, rfl⟩ rfl rfl rfl rfl rfl (by kernel_rfl) Tryd.func4 (by kernel_rfl)
    (of_decide_eq_true (by kernel_rfl)) (by unfold Func.isWrapper; first | (rw [if_pos (by decide +kernel)]; kernel_rfl) | (rw [if_neg (by decide +kernel)]; exact ⟨rfl, rfl⟩))
    (fun os started H enc _ => lifted os started H enc)
end Go.Proofs.YthlapikcjiajgaaDoor.EventOf
namespace Go.Proofs.YthlapikcjiajgaaDoor
theorem FnExactEventOf_holds : Rows.FnExactEventOfCardSaid :=
  Claim7.holds_tied_plain_at .later [] [.data, .data, .pinned] true (true, "0f4e3510fee660209f4a714a224e311810183024428db9a01c9e744bb90ca98d") false
    EventOf.row_holds (fun _ h => by cases h) (by kernel_rfl) (fun _ h => by cases h) fnExactEventOf_row_tie rfl ⟨rfl, rfl⟩ (by kernel_rfl) rfl
    (fun f fn hf hfn => by
      obtain rfl : f = 4 := Option.some.inj ((show Tryd.prog.funcNamed "loop.example/g00076/laws.FnExactEventOf" = some 4 by kernel_rfl).symm.trans hf) |>.symm
      obtain rfl : fn = Tryd.f4 := (Option.some.inj (Tryd.func4.symm.trans hfn)).symm
      exact ⟨by kernel_rfl, fun j t ht => by
        rw [Tryd.params4] at ht
        have hm : t ∈ [9] := by simpa using Array.mem_of_getElem? ht
        have hall : ([9].all fun u => !Tryd.prog.wantsStandIn u) = true := by kernel_rfl
        exact (show Tryd.prog.wantsStandIn t = false by simpa using List.all_eq_true.1 hall t hm)⟩)
    (by kernel_rfl)


end Go.Proofs.YthlapikcjiajgaaDoor
