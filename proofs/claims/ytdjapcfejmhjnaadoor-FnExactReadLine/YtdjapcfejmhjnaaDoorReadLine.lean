/-
  At every line ReadLine answers as its model: the law FnExactReadLine returns true and its argument reads as before; the tied card. Condition: the tables hold what the text lays (the card ties them to it).
  Built over the program of the commit that COMMIT names.
-/
import Derived.Test.YtdjapcfejmhjnaaDoorRows
import Derived.Test.YtdjapcfejmhjnaaDoorTie
import Derived.Test.YtdjapcfejmhjnaaDoorCards
import Derived.Test.YtdjapcfejmhjnaaDoorVars2
import Derived.Test.YtdjapcfejmhjnaaDoorSrx
namespace Go.Proofs.YtdjapcfejmhjnaaDoor.ReadLine
open Go.ChangeShapes Go.WideShapes Go.ChangeAt Go.WideMaps Go.WideElems Go.RowKit
open Go.ChangeMaps (open_string shut_string)
set_option linter.unusedVariables false

theorem walk (s : ByteArray) (w0 : s.size ≤ maxLen) (w : World) (hT : Tab w ∧ TabN w) (hM : TabM w) : Calls Tryd.prog 4 #[.string s] w fun e w' => e = .returned (.bool true) ∧ Below w.heap.size w w' := by
  by_cases hs : s.size ≤ 1048576
  · obtain ⟨⟨k1, o1, a1, b1, c1, m1, wd1, lab1⟩, hA⟩ : ∃ A, Rl.line s = A := ⟨_, rfl⟩
    have HS : Hid (∀ w, Calls Tryd.prog 20 #[.string s] w fun e w' => e = .returned (.agg #[.int .i64 k1, .int .i64 o1, .int .i64 a1, .int .i64 b1, .int .i64 c1, .int .i64 m1, .int .u32 wd1, .string lab1]) ∧ Below w.heap.size w w') := fun w => by
      have := spec_rl s w hs
      rw [hA] at this
      exact this
    have HI : Hid (∀ w, TabM w → Tab w → TabN w → Calls Tryd.prog 14 #[.string s] w fun e w' => e = .returned (.agg #[.int .i64 k1, .int .i64 o1, .int .i64 a1, .int .i64 b1, .int .i64 c1, .int .i64 m1, .int .u32 wd1, .string lab1]) ∧ Below w.heap.size w w') := fun w h1 h2 h3 => by
      have := impl_rl s w hs h1 h2 h3
      rw [hA] at this
      exact this
    have HT : Hid _ := hT
    have HM : Hid _ := hM
    clear hA hT hM
    go_enter Tryd.func4, Tryd.ntmps4
    go_wp2_with fail
    refine (HS.out _).mono ?_
    rintro e w1 ⟨rfl, hb1⟩
    have hb2 := hb1.alloc hb1.size (.cells #[.int .i64 k1, .int .i64 o1, .int .i64 a1, .int .i64 b1, .int .i64 c1, .int .i64 m1, .int .u32 wd1, .string lab1] 33)
    go_wp2_with fail
    refine (HI.out _ (TabM.below HM.out hb2) (Tab.below HT.out.1 hb2) (TabN.below HT.out.2 hb2)).mono ?_
    rintro e w3 ⟨rfl, hb3⟩
    have hb4 := (bhop hb2 hb3).alloc (bhop hb2 hb3).size (.cells #[.int .i64 k1, .int .i64 o1, .int .i64 a1, .int .i64 b1, .int .i64 c1, .int .i64 m1, .int .u32 wd1, .string lab1] 33)
    have hr : ∀ o i v, (#[Value.int .i64 k1, .int .i64 o1, .int .i64 a1, .int .i64 b1, .int .i64 c1, .int .i64 m1, .int .u32 wd1, .string lab1] : Array Value)[i]? = some v → (w3.alloc o).cell? ⟨w1.heap.size, i, none⟩ = some v := fun o i v h =>
      cell_alloc ((hb3.cell (p := ⟨w1.heap.size, i, none⟩) (by simp)).trans (new_cell w1 _ 33 i v h))
    have d0 := fun o => hr o 0 _ rfl
    have d1 := fun o => hr o 1 _ rfl
    have d2 := fun o => hr o 2 _ rfl
    have d3 := fun o => hr o 3 _ rfl
    have d4 := fun o => hr o 4 _ rfl
    have d5 := fun o => hr o 5 _ rfl
    have d6 := fun o => hr o 6 _ rfl
    have d7 := fun o => hr o 7 _ rfl
    clear hr hb3
    go_wp2_with fail
    refine (eq_asm k1 o1 a1 b1 c1 m1 wd1 lab1 _).mono ?_
    rintro e w5 ⟨rfl, hb5⟩
    have hb6 := bhop hb4 hb5
    go_wp2
    go_ret
    exact ⟨rfl, hb6⟩
  · go_enter Tryd.func4, Tryd.ntmps4
    go_wp2
    go_ret
    exact ⟨rfl, Below.refl _ _⟩

set_option maxRecDepth 100000 in
theorem lifted (os : Os) (started : os.Started) (H : Type) (enc : TypeId × Value → H) :
    ReturnsInHanded {} Tryd.checked os 4 .any (fun w args => (Rows.fnExactReadLineSpec.pre enc Tryd.prog Tryd.f4 [] false w args ∧ laidMetH Tryd.prog laidL w) ∧ sizedMet enc Tryd.prog Tryd.f4 (OpenSpec.ofChange Rows.fnExactReadLineSpec) false w args)
      (Rows.fnExactReadLineSpec.post enc Tryd.prog Tryd.f4 false true false false) := by
  refine returns_shaped (C := Tryd.checked) (X := fun w _ => laidMetH Tryd.prog laidL w) (fun _ _ _ hh h => h.of_heap hh) own started (by kernel_rfl) Tryd.func4
    (ChangeSpec.witness_shaped (enc := enc) (C := Tryd.checked) (os := os) (X := fun w _ => laidMetH Tryd.prog laidL w) false ({ World.doorLaid Tryd.prog 80 os with heap := lay4 (World.doorLaid Tryd.prog 80 os).heap } : World) #[.string ⟨#[]⟩] 8 rfl (World.shaped_of_RefB (by kernel_rfl) (by kernel_rfl)) (by kernel_rfl) (by kernel_rfl) (by kernel_rfl) (line_met os _)) ?_
  intro W base args ds gs before hval0 hW _ _ hL hsh
  have hval : ∀ (j : Nat) t v, Tryd.f4.params[j]? = some t → args[j]? = some v → Value.okWide Tryd.prog W .any base t v := hval0
  have hW' := hW
  obtain ⟨p, q, hA0, hV, rfl, hfz, hnd⟩ := hW
  have hA : DataW.TrodAll enc Tryd.prog W 0 (fun _ => true) true Tryd.f4.params.toList args.toList ds p := hA0
  rw [Tryd.params4] at hA hval
  obtain ⟨v0, d0, rfl, rfl, h0⟩ := trodAll_one hA
  have htab := line_of_laid hL
  obtain ⟨rfl, hvars⟩ := vars_line htab hV
  obtain ⟨s, rfl, rfl, rfl, w0⟩ := open_string Tryd.underlying9 (hval 0 9 v0 rfl rfl) h0
  clear hA0 hval0
  refine (walk s w0 W (tab_of_line htab) (tab_shape hsh)).mono fun e W' ⟨he, bel⟩ => ?_
  subst he
  exact ⟨_, rfl, _, _, _, [], [], _, hW', (trodAll_mk1 (shut_bool Tryd.underlying4 _)), (trodAll_mk1 (shut_string Tryd.underlying9 w0)), hvars W' _ bel, bel.frame _, fun h => by cases h⟩
theorem row_holds : Rows.FnExactReadLineSaid :=
  OpenClaim.holds_of_wide 4 Tryd.f4 rfl rfl rfl rfl rfl rfl rfl ⟨rfl, rfl, rfl, rfl, rfl⟩ rfl rfl rfl rfl rfl (by kernel_rfl) Tryd.func4 (by kernel_rfl)
    (of_decide_eq_true (by kernel_rfl)) (by unfold Func.isWrapper; first | (rw [if_pos (by decide +kernel)]; kernel_rfl) | (rw [if_neg (by decide +kernel)]; exact ⟨rfl, rfl⟩))
    (fun os started H enc _ => lifted os started H enc)
end Go.Proofs.YtdjapcfejmhjnaaDoor.ReadLine
namespace Go.Proofs.YtdjapcfejmhjnaaDoor
theorem FnExactReadLine_holds : Rows.FnExactReadLineCardSaid :=
  Claim7.holds_tied_plain_at .later [] [.data, .data, .data, .pinned] true (true, "0e9a5867fcfba9d3e7e5da597f9d221a76d5b1c8bce492a4ebc560dd9f53807d") true
    ReadLine.row_holds (fun _ h => by cases h) (by kernel_rfl) (fun _ h => by cases h) fnExactReadLine_row_tie rfl ⟨rfl, rfl⟩ (by kernel_rfl) rfl
    (fun f fn hf hfn => by
      obtain rfl : f = 4 := Option.some.inj ((show Tryd.prog.funcNamed "loop.example/g00076/laws.FnExactReadLine" = some 4 by kernel_rfl).symm.trans hf) |>.symm
      obtain rfl : fn = Tryd.f4 := (Option.some.inj (Tryd.func4.symm.trans hfn)).symm
      exact ⟨by kernel_rfl, fun j t ht => by
        rw [Tryd.params4] at ht
        have hm : t ∈ [9] := by simpa using Array.mem_of_getElem? ht
        have hall : ([9].all fun u => !Tryd.prog.wantsStandIn u) = true := by kernel_rfl
        exact (show Tryd.prog.wantsStandIn t = false by simpa using List.all_eq_true.1 hall t hm)⟩)
    (by kernel_rfl)

end Go.Proofs.YtdjapcfejmhjnaaDoor
