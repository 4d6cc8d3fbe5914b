/-
  With one way more a use of the drawn uses that found its line finds it still: the law FnWays returns true and its argument reads as before. No conditions.
  Built over the program of the commit that COMMIT names.
-/
import Derived.Test.YtifgmgehnbkbjaaRows
import Derived.WalkKit
import Derived.ProofKit
import Derived.OpenShut
import Derived.Below
import Derived.Carry
import Derived.Test.YtifgmgehnbkbjaaDcs
import Derived.Test.YtifgmgehnbkbjaaFwy
import Derived.Test.YtifgmgehnbkbjaaUsl
import Derived.ShutString
namespace Go.Proofs.Ytifgmgehnbkbjaa.fnWays
open Go.ChangeShapes Go.WideShapes Go.ChangeAt Go.RowKit
set_option linter.unusedVariables false

theorem own : ownKnob Try.prog.godebug = none := by kernel_rfl

set_option maxRecDepth 20000 in
set_option maxHeartbeats 8000000 in
theorem core (w : World) (a : Option Addr) (zs : List Int) (cap n : Nat) (hs : Seg .u8 w a zs) (hb : ∀ z ∈ zs, (Lit.int .u8 z).wf = true) (hl : zs.length = n) (hn : n ≤ 1048576) :
    Calls Try.prog 4 #[.slice a n cap] w fun e w' => e = .returned (.bool true) ∧ Below w.heap.size w w' := by
  have HD : Hid _ := draw_cr w a zs cap n hs hb hl hn
  have HG : Hid _ := big_no a n cap w hn
  clear hs hb hl
  go_enter Try.func4, Try.ntmps4
  go_wp2_with fail
  refine Calls.mono HG.out ?_
  rintro u w0 ⟨rfl, rfl⟩
  clear HG
  go_wp2_with fail
  refine Calls.mono HD.out ?_
  rintro u w1 ⟨s, y, l, a1, N, cap1, us, rfl, hb1, hs1, hl1, hN⟩
  have HB1 : Hid _ := hb1
  have HS1 : Hid (WSeg _ _ _) := hs1
  obtain ⟨xs, hxs, hsp, him, hmore⟩ := cr_ways s y l N us hl1 (by omega)
  obtain ⟨nb, HNB⟩ : ∃ nb, Hid (xs.length = nb) := ⟨_, rfl⟩
  have hnb : nb ≤ 2000 := by rw [← HNB.out]; exact hxs
  have HSP : Hid (∀ X, WSeg X a1 us → Calls Try.prog 17 #[shp s y l, .slice a1 N cap1] X fun e w' => ∃ a' c', e = .returned (.slice a' nb c') ∧ Below X.heap.size X w' ∧ AI w' X.heap.size w'.heap.size a' xs) := fun X hX => (hsp X a1 cap1 hX).mono fun e w' h => by
    obtain ⟨v, h1, h2, h3⟩ := h
    obtain ⟨a', c', rfl, h4⟩ := OwnA.ai h3
    exact ⟨a', c', by rw [h1, HNB.out], h2, h4⟩
  have HIM : Hid (∀ X, WSeg X a1 us → Calls Try.prog 16 #[shp s y l, .slice a1 N cap1] X fun e w' => ∃ a' c', e = .returned (.slice a' nb c') ∧ Below X.heap.size X w' ∧ AI w' X.heap.size w'.heap.size a' xs) := fun X hX => (him X a1 cap1 hX).mono fun e w' h => by
    obtain ⟨v, h1, h2, h3⟩ := h
    obtain ⟨a', c', rfl, h4⟩ := OwnA.ai h3
    exact ⟨a', c', by rw [h1, HNB.out], h2, h4⟩
  have HMO : Hid (nb ≠ 0 → y ≠ 4 → (1 ≤ y ∧ y ≤ 3) ∧ ∃ xs2 : List Ac, xs2.length = nb ∧ (∀ i, i < nb → (xs.getD i ad).1 = true → (xs2.getD i ad).1 = true) ∧ ∀ X, WSeg X a1 us → Calls Try.prog 16 #[shp s (y + 1) l, .slice a1 N cap1] X fun e w' => ∃ a' c', e = .returned (.slice a' nb c') ∧ Below X.heap.size X w' ∧ AI w' X.heap.size w'.heap.size a' xs2) := fun h1 h2 => by
    obtain ⟨g1, xs2, g2, g3, g4⟩ := hmore (by rw [HNB.out]; exact h1) h2
    rw [HNB.out] at g2 g3
    refine ⟨g1, xs2, g2, g3, fun X hX => (g4 X a1 cap1 hX).mono fun e w' h => ?_⟩
    obtain ⟨v, k1, k2, k3⟩ := h
    obtain ⟨a', c', rfl, k4⟩ := OwnA.ai k3
    exact ⟨a', c', by rw [k1, g2], k2, k4⟩
  have hal : Below w1.heap.size w1 (w1.alloc (shrow 25 s y l)) := (Below.refl _ _).alloc (Nat.le_refl _) _
  have HQ1 : Hid (Bk _ _ _) := Bk.new w1 #[.int .i64 s, .int .i64 y, .int .i64 l] 25 w1.heap.size rfl
  have HB1' : Hid _ := HB1.out.trans (hal.mono HB1.out.size)
  have HS1' : Hid (WSeg _ _ _) := HS1.out.below hal
  clear hsp him hmore hxs hb1 hs1 hl1 HD HB1 HS1 hal
  have e0 := HQ1.out.cell 0 _ rfl
  have e1 := HQ1.out.cell 1 _ rfl
  have e2 := HQ1.out.cell 2 _ rfl
  go_wp2_with fail
  refine Calls.mono (HIM.out _ HS1'.out) ?_
  rintro u w2 ⟨a2, c2, rfl, hb2, ho2⟩
  have HB2 : Hid _ := HB1'.out.trans (hb2.mono HB1'.out.size)
  have HS2 : Hid (WSeg _ _ _) := HS1'.out.below hb2
  have HQ2 : Hid (Bk _ _ _) := HQ1.out.below hb2
  have HV2 : Hid (AI _ _ _ _ _) := ho2
  clear HB1' HS1' HQ1 hb2 ho2 HIM e0 e1 e2
  have e0 := HQ2.out.cell 0 _ rfl
  have e1 := HQ2.out.cell 1 _ rfl
  have e2 := HQ2.out.cell 2 _ rfl
  go_wp2_with fail
  refine Calls.mono (HSP.out _ HS2.out) ?_
  rintro u w3 ⟨a3, c3, rfl, hb3, ho3⟩
  have HB3 : Hid _ := HB2.out.trans (hb3.mono HB2.out.size)
  have HS3 : Hid (WSeg _ _ _) := HS2.out.below hb3
  have HV3 : Hid (AI _ _ _ _ _) := HV2.out.below hb3
  have HQ3 : Hid (Bk _ _ _) := HQ2.out.below hb3
  clear HB2 HS2 HV2 hb3 ho3 HSP HQ2 e0 e1 e2
  have e0 := HQ3.out.cell 0 _ rfl
  have e1 := HQ3.out.cell 1 _ rfl
  have e2 := HQ3.out.cell 2 _ rfl
  by_cases hz : nb = 0
  · obtain rfl := hz
    go_wp2
    go_ret
    exact ⟨rfl, HB3.out⟩
  have hz1 : ¬ ((nb : Int) = 0) := by omega
  by_cases hy : y = 4
  · obtain rfl := hy
    go_wp2
    go_ret
    exact ⟨rfl, HB3.out⟩
  obtain ⟨hy3, xs2, hl2, hm2, hc2⟩ := HMO.out hz hy
  have HL2 : Hid (xs2.length = nb) := hl2
  have HM2 : Hid _ := hm2
  have HC2 : Hid _ := hc2
  clear HMO hl2 hm2 hc2
  have hz2 : ((nb : Int) == 0) = false := by simpa using hz1
  have hy2 : (y == 4) = false := by simpa using hy
  go_wp2_with fail
  refine Calls.mono (HC2.out _ HS3.out) ?_
  rintro u w4 ⟨a4, c4, rfl, hb4, ho4⟩
  have HB4 : Hid _ := HB3.out.trans (hb4.mono HB3.out.size)
  have HV4 : Hid (ASeg _ _ _) := (HV3.out.below hb4).seg
  have HY4 : Hid (ASeg _ _ _) := AI.seg ho4
  clear HB3 HS3 HV3 hb4 ho4 HC2 HQ3 e0 e1 e2
  go_wp2
  go_loopw [7] (fun i wr => ∃ k : Nat, k ≤ nb ∧ i = .int .i64 k ∧ Hid (Below w4.heap.size w4 wr)) (fun i _ => nb - (intOf i).toNat)
  case atStart => exact ⟨0, by omega, rfl, Below.refl _ _⟩
  case round =>
    obtain ⟨k, hk, rfl, HB⟩ := hrel
    by_cases hlt : k < nb
    · have hlt' : (k : Int) < (nb : Int) := by omega
      obtain ⟨b1, o1, rfl, hbl1, p1⟩ := HV4.out.at k (by rw [HNB.out]; exact hlt)
      obtain ⟨b2, o2, rfl, hbl2, p2⟩ := HY4.out.at k (by rw [HL2.out]; exact hlt)
      have hb := HB.out
      replace p1 := p1.of (w' := wr) (fun i => hb.cell (p := ⟨b1, i, none⟩) hbl1)
      replace p2 := p2.of (w' := wr) (fun i => hb.cell (p := ⟨b2, i, none⟩) hbl2)
      have hi := HM2.out k hlt
      generalize xs.getD k ad = x at p1 hi
      generalize xs2.getD k ad = z at p2 hi
      obtain ⟨c0, c1, c2⟩ := p1
      obtain ⟨d0, d1, d2⟩ := p2
      obtain ⟨x1, x2, x3⟩ := x
      obtain ⟨z1, z2, z3⟩ := z
      simp only at c0 c1 c2 d0 d1 d2 hi
      clear hbl1 hbl2 HB
      cases x1 with
      | false =>
        clear hi
        go_wp2
        go_roundw
        case rel => exact ⟨k + 1, by omega, by go_num, hb⟩
        case measure => simp [intOf]; omega
      | true =>
        obtain rfl := hi rfl
        go_wp2
        go_roundw
        case rel => exact ⟨k + 1, by omega, by go_num, hb⟩
        case measure => simp [intOf]; omega
    · go_wp2
      go_ret
      exact ⟨rfl, HB4.out.trans (HB.out.mono HB4.out.size)⟩

theorem walk (a0 : Option Addr) (len0 cap0 : Nat) (z0 : List Int) (w : World)
    (w0 : (a0 = none ∧ len0 = 0 ∧ cap0 = 0 ∧ z0 = []) ∨ ∃ x, a0 = some x ∧ len0 ≤ cap0 ∧ cap0 ≤ maxLen ∧ z0.length = cap0 ∧ (∀ i, i < z0.length → w.cell? (x.add i) = some (.int .u8 (z0.getD i 0))) ∧ ∀ n ∈ z0, (Lit.int .u8 n).wf = true) :
    Calls Try.prog 4 #[.slice a0 len0 cap0] w fun e w' => e = .returned (.bool true) ∧ Below w.heap.size w w' := by
  obtain ⟨zs, hlen, hs, hw⟩ := seg_of_row w0
  by_cases hn : len0 ≤ 1048576
  · exact core w a0 zs cap0 len0 hs hw hlen hn
  · have HG : Hid _ := big_yes a0 len0 cap0 w hn
    clear w0 hs hw hlen
    go_enter Try.func4, Try.ntmps4
    go_wp2_with fail
    refine Calls.mono HG.out ?_
    rintro u w0 ⟨rfl, rfl⟩
    go_wp2
    go_ret
    exact ⟨rfl, Below.refl _ _⟩

/-! ### The row -/
set_option maxRecDepth 100000 in
theorem lifted (os : Os) (started : os.Started) (H : Type) (enc : TypeId × Value → H) :
    ReturnsInHanded {} Try.checked os 4 .any (Rows.fnWaysSpec.pre6 enc Try.prog Try.f4 Rows.fnWaysRow.domain false) (Rows.fnWaysSpec.post enc Try.prog Try.f4 false true false false) := by
  refine returnsInHanded_of_change (C := Try.checked) own started (by kernel_rfl) Try.func4
    (ChangeSpec.witness6 (enc := enc) (C := Try.checked) false ⟨#[], #[.slice none 0 0], []⟩ 8 (by kernel_rfl) (by kernel_rfl) (by kernel_rfl) (by kernel_rfl)) ?_
  intro W base args ds gs before hval0 hW hcnd _
  have hval : ∀ (j : Nat) t v, Try.f4.params[j]? = some t → args[j]? = some v → Value.okWide Try.prog W .any base t v := hval0
  have hW' := hW
  obtain ⟨p, q, hA0, hV, rfl, hfz, hnd⟩ := hW
  have hA : DataW.TrodAll enc Try.prog W 0 (fun _ => true) true Try.f4.params.toList args.toList ds p := hA0
  rw [Try.params4] at hA hval
  obtain ⟨v0, vs0, d0, ds0, p0, q0, hargs, rfl, rfl, h0, r0⟩ := trodAll_cons hA
  obtain ⟨rfl, rfl, rfl⟩ := trodAll_nil r0
  obtain rfl : args = #[v0] := by cases args; simp_all
  obtain ⟨rfl, rfl⟩ := trodVars_none hV
  obtain ⟨a0, len0, cap0, rfl⟩ := okWide_slice Try.underlying22 (hval 0 22 v0 rfl rfl)
  have k0 := h0
  have lt0 : ∀ x ∈ p0, x.block < W.heap.size := by obtain ⟨m, hm⟩ := k0; exact DataW.trod_lt m _ _ _ hm
  obtain ⟨z0, w0⟩ : ∃ zs : List Int, (a0 = none ∧ len0 = 0 ∧ cap0 = 0 ∧ zs = []) ∨ ∃ x, a0 = some x ∧ len0 ≤ cap0 ∧ cap0 ≤ maxLen ∧ zs.length = cap0 ∧ (∀ i, i < zs.length → W.cell? (x.add i) = some (.int .u8 (zs.getD i 0))) ∧ ∀ n ∈ zs, (Lit.int .u8 n).wf = true := by
    obtain ⟨fuel, hf⟩ := h0
    rcases open_ints Try.underlying22 Try.underlying5 (by kernel_rfl) hf with ⟨hcs, _⟩ | ⟨x, l, c, zs, hcs, _, hl, hm, hz, _, hcell, hwz⟩
    · simp [Value.cells] at hcs
      obtain ⟨rfl, rfl, rfl⟩ := hcs
      exact ⟨[], .inl ⟨rfl, rfl, rfl, rfl⟩⟩
    · simp [Value.cells] at hcs
      obtain ⟨rfl, rfl, rfl⟩ := hcs
      exact ⟨zs, .inr ⟨_, rfl, hl, hm, by simpa using hz, hcell, hwz⟩⟩
  clear hA0 hval0
  refine (walk a0 len0 cap0 z0 W w0).mono fun e W' ⟨he, bel⟩ => ?_
  subst he
  exact ⟨_, rfl, _, _, _, [], _, [], hW', (trodAll_cons_mk (shut_bool Try.underlying4 _) trodAll_mk0), (trodAll_cons_mk (Below.trod laidOut (by kernel_rfl) (of_decide_eq_true (by kernel_rfl)) k0 bel lt0) trodAll_mk0), rfl, bel.frame _, fun h => by cases h⟩

theorem over : Rows.fnWaysRow.holds Try.pinned (OpenSpec.ofChange Rows.fnWaysSpec) :=
  OpenClaim.holds_of_wide 4 Try.f4 rfl rfl rfl rfl rfl rfl rfl ⟨rfl, rfl, rfl, rfl, rfl⟩ rfl rfl rfl rfl rfl (by kernel_rfl) Try.func4 (by kernel_rfl)
    (of_decide_eq_true (by kernel_rfl)) (by unfold Func.isWrapper; first | (rw [if_pos (by decide +kernel)]; kernel_rfl) | (rw [if_neg (by decide +kernel)]; exact ⟨rfl, rfl⟩))
    (fun os started H enc _ => lifted os started H enc)

end Go.Proofs.Ytifgmgehnbkbjaa.fnWays
namespace Go.Proofs.Ytifgmgehnbkbjaa
theorem FnWays_holds : Rows.FnWaysSaid := fnWays.over
end Go.Proofs.Ytifgmgehnbkbjaa
