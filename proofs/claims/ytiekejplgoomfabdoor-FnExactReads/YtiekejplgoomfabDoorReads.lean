/-
  At every instruction Reads answers as its model, in memory of its own: the law FnExactReads returns true and its argument reads as before; the tied card. Condition: the program's tables of forms and reads hold what the program's text lays (the card ties them to it).
-/
import Derived.Test.YtiekejplgoomfabDoorRows
import Derived.Test.YtiekejplgoomfabDoorTie
import Derived.Test.YtiekejplgoomfabDoorCards
import Derived.Test.YtiekejplgoomfabDoorVars
import Derived.Test.YtiekejplgoomfabDoorLists
import Derived.Test.YtiekejplgoomfabDoorImpl
namespace Go.Proofs.YtiekejplgoomfabDoor.Reads
open Go.ChangeShapes Go.WideShapes Go.ChangeAt Go.WideMaps Go.WideElems Go.RowKit
open Go.ChangeMaps (open_string shut_string)
set_option linter.unusedVariables false

theorem Seg_low {k : IntKind} {w0 w w' : World} {a : Option Addr} {zs : List Int} {C : Nat} (h0 : Seg k w0 a zs) (hC : w0.heap.size ≤ C) (h : Seg k w a zs) (hb : Below C w w') : Seg k w' a zs := fun hp => by
  obtain ⟨b, off, e, hlt, _⟩ := h0 hp
  exact Seg.low h (fun b' off' e' => by rw [e] at e'; cases e'; omega) hb hp
set_option maxHeartbeats 1000000 in
theorem walk_any (L : List Int) (n : Nat) (op a b c m : Int) (w : World) (Hn : Hid (L.length = n)) (hn : n ≤ 15)
    (HS : Hid (∀ w, Calls Tryd.prog 11 #[ins op a b c m] w fun e w' => ∃ ad cap, e = .returned (.slice ad n cap) ∧ Seg .i64 w' ad L ∧ Below w.heap.size w w'))
    (HI : Hid (∀ w, Tab w → TabR w → Calls Tryd.prog 12 #[ins op a b c m] w fun e w' => ∃ ad cap, e = .returned (.slice ad n cap) ∧ OwnAt w' w.heap.size ad L ∧ Below w.heap.size w w')) (ht : Tab w) (hx : TabR w) :
    Calls Tryd.prog 4 #[ins op a b c m] w fun e w' => e = .returned (.bool true) ∧ Below w.heap.size w w' := by
  have HT : Hid _ := And.intro ht hx
  clear ht hx
  go_enter Tryd.func4, Tryd.ntmps4
  go_wp2_with fail
  refine (to_instr op a b c m _).mono ?_
  rintro e w1 ⟨rfl, hb1⟩
  go_wp2_with fail
  refine (HS.out _).mono ?_
  rintro e w2 ⟨ad0, cap0, rfl, hs0, hb2⟩
  have hA := ((Below.refl _ w).alloc (Nat.le_refl _) (.cells #[.int .i64 op, .int .i64 a, .int .i64 b, .int .i64 c, .int .i64 m] 23)).trans ((hb1.trans (hb2.mono hb1.size)).mono (by simp))
  have hlt2 : w.heap.size < w2.heap.size := Nat.lt_of_lt_of_le (by simp) (hb1.trans (hb2.mono hb1.size)).size
  have hr2 : ∀ i v, (#[Value.int .i64 op, .int .i64 a, .int .i64 b, .int .i64 c, .int .i64 m] : Array Value)[i]? = some v → w2.cell? ⟨w.heap.size, i, none⟩ = some v := fun i v h =>
    ((hb1.trans (hb2.mono hb1.size)).cell (p := ⟨w.heap.size, i, none⟩) (by simp)).trans (new_cell w _ 23 i v h)
  have c0 := hr2 0 (.int .i64 op) rfl
  have c1 := hr2 1 (.int .i64 a) rfl
  have c2 := hr2 2 (.int .i64 b) rfl
  have c3 := hr2 3 (.int .i64 c) rfl
  have c4 := hr2 4 (.int .i64 m) rfl
  have HR2 : Hid _ := hr2
  clear hr2 hb1 hb2
  go_wp2_with fail
  refine (to_instr op a b c m _).mono ?_
  rintro e w3 ⟨rfl, hb3⟩
  have hB := hA.trans (hb3.mono hA.size)
  go_wp2_with fail
  refine (HI.out _ (Tab.below HT.out.1 hB) (TabR.below HT.out.2 hB)).mono ?_
  rintro e w4 ⟨ad1, cap1, rfl, ho4, hb4⟩
  have hC := hB.trans (hb4.mono hB.size)
  have hs4 := (hs0.below hb3).below hb4
  have hr4 : ∀ i v, (#[Value.int .i64 op, .int .i64 a, .int .i64 b, .int .i64 c, .int .i64 m] : Array Value)[i]? = some v → w4.cell? ⟨w.heap.size, i, none⟩ = some v := fun i v h =>
    (hb4.cell (p := ⟨w.heap.size, i, none⟩) (Nat.lt_of_lt_of_le hlt2 hb3.size)).trans ((hb3.cell (p := ⟨w.heap.size, i, none⟩) hlt2).trans (HR2.out i v h))
  have HR4 : Hid _ := hr4
  clear hr4 c0 c1 c2 c3 c4
  go_wp2_with fail
  have he5 := eq_ints ad1 ad0 cap1 cap0 L w4 ho4.seg hs4 (by rw [Hn.out]; omega)
  rw [Hn.out] at he5
  refine he5.mono ?_
  rintro e w5 ⟨rfl, m5, rfl⟩
  have ho5 : OwnAt (w4.drewN m5) w3.heap.size ad1 L := ho4
  have hs5 : Seg .i64 (w4.drewN m5) ad0 L := hs4
  clear he5
  go_wp2_with fail
  have he6 := mark_ints w3.heap.size cap1 ad1 1 L (w4.drewN m5) ho5 (by rw [Hn.out]; omega) (by omega) (by omega)
  rw [Hn.out] at he6
  refine he6.mono ?_
  rintro e w6 ⟨rfl, hb6, hz6, ho6⟩
  have hs6 := Seg_low (hs0.below hb3) (Nat.le_refl _) hs5 hb6
  have hD := (below_drewN hC m5).trans (hb6.mono hB.size)
  have hr6 : ∀ i v, (#[Value.int .i64 op, .int .i64 a, .int .i64 b, .int .i64 c, .int .i64 m] : Array Value)[i]? = some v → w6.cell? ⟨w.heap.size, i, none⟩ = some v := fun i v h =>
    (hb6.cell (p := ⟨w.heap.size, i, none⟩) (Nat.lt_of_lt_of_le hlt2 hb3.size)).trans (HR4.out i v h)
  have c0 := hr6 0 (.int .i64 op) rfl
  have c1 := hr6 1 (.int .i64 a) rfl
  have c2 := hr6 2 (.int .i64 b) rfl
  have c3 := hr6 3 (.int .i64 c) rfl
  have c4 := hr6 4 (.int .i64 m) rfl
  clear hr6 he6 hz6
  go_wp2_with fail
  refine (held_ints ad1 cap1 n 1 w6 ho6.seg (by omega) (by omega) (by omega)).mono ?_
  rintro e w7 ⟨rfl, rfl⟩
  go_wp2_with fail
  refine (to_instr op a b c m _).mono ?_
  rintro e w8 ⟨rfl, hb8⟩
  have hE := hD.trans (hb8.mono hD.size)
  go_wp2_with fail
  refine (HI.out _ (Tab.below HT.out.1 hE) (TabR.below HT.out.2 hE)).mono ?_
  rintro e w9 ⟨ad2, cap2, rfl, ho9, hb9⟩
  have hF := hE.trans (hb9.mono hE.size)
  have hs9 := (hs6.below hb8).below hb9
  have hm9 := (ho6.below hb8).below hb9
  go_wp2_with fail
  have he10 := eq_ints ad2 ad0 cap2 cap0 L w9 ho9.seg hs9 (by rw [Hn.out]; omega)
  rw [Hn.out] at he10
  refine he10.mono ?_
  rintro e w10 ⟨rfl, m10, rfl⟩
  have hm10 : OwnAt (w9.drewN m10) w3.heap.size ad1 (marks 1 n) := hm9
  clear he10
  go_wp2_with fail
  refine (held_ints ad1 cap1 n 1 _ hm10.seg (by omega) (by omega) (by omega)).mono ?_
  rintro e w11 ⟨rfl, rfl⟩
  go_wp2
  go_ret
  exact ⟨rfl, below_drewN hF m10⟩
theorem set_len (zs : List Int) : (setOf zs).length ≤ 15 := by
  unfold setOf
  exact Nat.le_trans (List.length_filter_le _ _) (by simp)
theorem walk (op a b c m : Int) (w : World) (ht : Tab w ∧ TabR w) : Calls Tryd.prog 4 #[ins op a b c m] w fun e w' => e = .returned (.bool true) ∧ Below w.heap.size w w' := by
  cases h : instrOk op a b c m
  · exact walk_any [] 0 op a b c m w rfl (by omega) (fun w => specR_bad op a b c m w h) (fun w ht _ => impl_reads_bad op a b c m w ht h) ht.1 ht.2
  · obtain ⟨h1, h2, _⟩ := instrOk_bounds op a b c m h
    obtain ⟨k, rfl⟩ := Int.eq_ofNat_of_zero_le h1
    have hk : k < 33 := by omega
    exact walk_any (regset (rd.getD k 0) a b c) _ k a b c m w rfl (set_len _) (fun w => spec_reads k a b c m w hk h) (fun w ht hx => impl_reads_yes k a b c m _ w ht (hx k hk) hk h) ht.1 ht.2
set_option maxRecDepth 100000 in
theorem lifted (os : Os) (started : os.Started) (H : Type) (enc : TypeId × Value → H) :
    ReturnsInHanded {} Tryd.checked os 4 .any (fun w args => (Rows.fnExactReadsSpec.pre enc Tryd.prog Tryd.f4 [] false w args ∧ laidMetH Tryd.prog laidR w) ∧ sizedMet enc Tryd.prog Tryd.f4 (OpenSpec.ofChange Rows.fnExactReadsSpec) false w args)
      (Rows.fnExactReadsSpec.post enc Tryd.prog Tryd.f4 false true false false) := by
  refine returnsInHanded_of_change_and (C := Tryd.checked) (X := fun w _ => laidMetH Tryd.prog laidR w) (fun _ _ _ hh h => h.of_heap hh) own started (by kernel_rfl) Tryd.func4
    (ChangeSpec.witness_shaped (enc := enc) (C := Tryd.checked) (os := os) (X := fun w _ => laidMetH Tryd.prog laidR w) false (World.doorLaid Tryd.prog 40 os) #[ins 0 0 0 0 0] 8 rfl (World.shaped_of_RefB (by kernel_rfl) (by kernel_rfl)) (by kernel_rfl) (by kernel_rfl) (by kernel_rfl) (reads2_met os _)) ?_
  intro W base args ds gs before hval0 hW _ _ hL _
  have hval : ∀ (j : Nat) t v, Tryd.f4.params[j]? = some t → args[j]? = some v → Value.okWide Tryd.prog W .any base t v := hval0
  have hW' := hW
  obtain ⟨p, q, hA0, hV, rfl, hfz, hnd⟩ := hW
  have hA : DataW.TrodAll enc Tryd.prog W 0 (fun _ => true) true Tryd.f4.params.toList args.toList ds p := hA0
  rw [Tryd.params4] at hA hval
  obtain ⟨v0, d0, rfl, rfl, h0⟩ := trodAll_one hA
  have htab := reads2_of_laid hL
  obtain ⟨rfl, hvars⟩ := vars_reads2 htab hV
  obtain ⟨op, a, b, c, m, rfl, rfl, rfl, w0⟩ := ins_open (hval 0 23 v0 rfl rfl) h0
  clear hA0 hval0
  refine (walk op a b c m W (tab_of_reads2 htab)).mono fun e W' ⟨he, bel⟩ => ?_
  subst he
  exact ⟨_, rfl, _, _, _, [], [], _, hW', (trodAll_mk1 (shut_bool Tryd.underlying4 _)), (trodAll_mk1 (ins_reads w0)), hvars W' _ bel, bel.frame _, fun h => by cases h⟩
theorem row_holds : Rows.FnExactReadsSaid :=
  OpenClaim.holds_of_wide 4 Tryd.f4 rfl rfl rfl rfl rfl rfl rfl ⟨rfl, rfl, rfl, rfl, rfl⟩ rfl rfl rfl rfl rfl (by kernel_rfl) Tryd.func4 (by kernel_rfl)
    (of_decide_eq_true (by kernel_rfl)) (by unfold Func.isWrapper; first | (rw [if_pos (by decide +kernel)]; kernel_rfl) | (rw [if_neg (by decide +kernel)]; exact ⟨rfl, rfl⟩))
    (fun os started H enc _ => lifted os started H enc)
end Go.Proofs.YtiekejplgoomfabDoor.Reads
namespace Go.Proofs.YtiekejplgoomfabDoor
theorem FnExactReads_holds : Rows.FnExactReadsCardSaid :=
  Claim7.holds_tied_plain_at .later [] [.data, .data] true (true, "aa8e065479d0b2aa15f549d4da637c5d8d806949d9cc4874e67ad1121952dcb8") false
    Reads.row_holds (fun _ h => by cases h) (by kernel_rfl) (fun _ h => by cases h) fnExactReads_row_tie rfl ⟨rfl, rfl⟩ (by kernel_rfl) rfl
    (fun f fn hf hfn => by
      obtain rfl : f = 4 := Option.some.inj ((show Tryd.prog.funcNamed "loop.example/g00076/laws.FnExactReads" = some 4 by kernel_rfl).symm.trans hf) |>.symm
      obtain rfl : fn = Tryd.f4 := (Option.some.inj (Tryd.func4.symm.trans hfn)).symm
      exact ⟨by kernel_rfl, fun j t ht => by
        rw [Tryd.params4] at ht
        have hm : t ∈ [23] := by simpa using Array.mem_of_getElem? ht
        have hall : ([23].all fun u => !Tryd.prog.wantsStandIn u) = true := by kernel_rfl
        exact (show Tryd.prog.wantsStandIn t = false by simpa using List.all_eq_true.1 hall t hm)⟩)
    (by kernel_rfl)

end Go.Proofs.YtiekejplgoomfabDoor
