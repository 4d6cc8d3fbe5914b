/-
  A use of the drawn uses finds its line just when since its last use fewer others of its row than ways were used: the law FnRecent returns true and its argument reads as before. No conditions.
  Built over the program of the commit that COMMIT names.
-/
import Derived.Test.YtifgmgehnbkbjaaRows
import Derived.WalkKit
import Derived.ProofKit
import Derived.OpenShut
import Derived.Below
import Derived.Carry
import Derived.Test.YtifgmgehnbkbjaaDcs
import Derived.Test.YtifgmgehnbkbjaaFrc
import Derived.Test.YtifgmgehnbkbjaaUsl
import Derived.Test.YtifgmgehnbkbjaaCli
import Derived.Test.YtifgmgehnbkbjaaAlk
import Derived.Test.YtifgmgehnbkbjaaFrd
import Derived.ShutString
namespace Go.Proofs.Ytifgmgehnbkbjaa.fnRecent
open Go.ChangeShapes Go.WideShapes Go.ChangeAt Go.RowKit
set_option linter.unusedVariables false

theorem own : ownKnob Try.prog.godebug = none := by kernel_rfl

set_option maxRecDepth 20000 in
set_option maxHeartbeats 8000000 in
theorem core (w : World) (a : Option Addr) (zs : List Int) (cap n : Nat) (hs : Seg .u8 w a zs) (hb : ∀ z ∈ zs, (Lit.int .u8 z).wf = true) (hl : zs.length = n) (hn : n ≤ 1048576) :
    Calls Try.prog 3 #[.slice a n cap] w fun e w' => e = .returned (.bool true) ∧ Below w.heap.size w w' := by
  have HD : Hid _ := draw_cr w a zs cap n hs hb hl hn
  have HG : Hid _ := big_no a n cap w hn
  clear hs hb hl
  go_enter Try.func3, Try.ntmps3
  go_wp2_with fail
  refine Calls.mono HG.out ?_
  rintro u w0 ⟨rfl, rfl⟩
  clear HG
  go_wp2_with fail
  refine Calls.mono HD.out ?_
  rintro u w1 ⟨s, y, l, a1, N, cap1, us, rfl, hb1, hs1, hl1, hN⟩
  have HB1 : Hid _ := hb1
  have HS1 : Hid (WSeg _ _ _) := hs1
  obtain ⟨xs, hxs, hsp, him, hmore⟩ := cr_recent s y l N us hl1 (by omega)
  obtain ⟨nb, HNB⟩ : ∃ nb, Hid (xs.length = nb) := ⟨_, rfl⟩
  have hnb : nb ≤ 2000 := by rw [← HNB.out]; exact hxs
  have HSP : Hid (∀ X, WSeg X a1 us → Calls Try.prog 17 #[shp s y l, .slice a1 N cap1] X fun e w' => ∃ a' c', e = .returned (.slice a' nb c') ∧ Below X.heap.size X w' ∧ AI w' X.heap.size w'.heap.size a' xs) := fun X hX => (hsp X a1 cap1 hX).mono fun e w' h => by
    obtain ⟨v, h1, h2, h3⟩ := h
    obtain ⟨a', c', rfl, h4⟩ := OwnA.ai h3
    exact ⟨a', c', by rw [h1, HNB.out], h2, h4⟩
  have HIM : Hid (∀ X, WSeg X a1 us → Calls Try.prog 16 #[shp s y l, .slice a1 N cap1] X fun e w' => ∃ a' c', e = .returned (.slice a' nb c') ∧ Below X.heap.size X w' ∧ AI w' X.heap.size w'.heap.size a' xs) := fun X hX => (him X a1 cap1 hX).mono fun e w' h => by
    obtain ⟨v, h1, h2, h3⟩ := h
    obtain ⟨a', c', rfl, h4⟩ := OwnA.ai h3
    exact ⟨a', c', by rw [h1, HNB.out], h2, h4⟩
  have HMO : Hid (nb ≠ 0 → ∃ n M L : Nat, s = (n : Int) ∧ y = (M : Int) ∧ l = (L : Int) ∧ (1 ≤ n ∧ n ≤ 16) ∧ (1 ≤ M ∧ M ≤ 4) ∧ (4 ≤ L ∧ L ≤ 32) ∧ nb = N ∧ (∀ j, j < N → ∃ A : Nat, (us.getD j wd).1 = (A : Int) ∧ A ≤ 65535) ∧ ∀ i, i < N → (xs.getD i ad).1 = decide (ttA n L us i ∈ (stk n L us i (hhA n L us i)).take M) ∧ (xs.getD i ad).2.1 = false) := fun h1 => by
    rw [← HNB.out]
    exact hmore (by rw [HNB.out]; exact h1)
  have HUL : Hid _ := hl1
  have hal : Below w1.heap.size w1 (w1.alloc (shrow 25 s y l)) := (Below.refl _ _).alloc (Nat.le_refl _) _
  have HQ1 : Hid (Bk _ _ _) := Bk.new w1 #[.int .i64 s, .int .i64 y, .int .i64 l] 25 w1.heap.size rfl
  have HB1' : Hid _ := HB1.out.trans (hal.mono HB1.out.size)
  have HS1' : Hid (WSeg _ _ _) := HS1.out.below hal
  clear hsp him hmore hxs hb1 hs1 hl1 HD HB1 HS1 hal
  have e0 := HQ1.out.cell 0 _ rfl
  have e1 := HQ1.out.cell 1 _ rfl
  have e2 := HQ1.out.cell 2 _ rfl
  go_wp2_with fail
  refine Calls.mono (HIM.out _ HS1'.out) ?_
  rintro u w2 ⟨a2, c2, rfl, hb2, ho2⟩
  have HB2 : Hid _ := HB1'.out.trans (hb2.mono HB1'.out.size)
  have HS2 : Hid (WSeg _ _ _) := HS1'.out.below hb2
  have HQ2 : Hid (Bk _ _ _) := HQ1.out.below hb2
  have HV2 : Hid (AI _ _ _ _ _) := ho2
  clear HB1' HS1' HQ1 hb2 ho2 HIM e0 e1 e2
  have e0 := HQ2.out.cell 0 _ rfl
  have e1 := HQ2.out.cell 1 _ rfl
  have e2 := HQ2.out.cell 2 _ rfl
  go_wp2_with fail
  refine Calls.mono (HSP.out _ HS2.out) ?_
  rintro u w3 ⟨a3, c3, rfl, hb3, ho3⟩
  have HB3 : Hid _ := HB2.out.trans (hb3.mono HB2.out.size)
  have HS3 : Hid (WSeg _ _ _) := HS2.out.below hb3
  have HV3 : Hid (AI _ _ _ _ _) := HV2.out.below hb3
  have HQ3 : Hid (Bk _ _ _) := HQ2.out.below hb3
  clear HB2 HS2 HV2 hb3 ho3 HSP HQ2 e0 e1 e2
  have e0 := HQ3.out.cell 0 _ rfl
  have e1 := HQ3.out.cell 1 _ rfl
  have e2 := HQ3.out.cell 2 _ rfl
  by_cases hz : nb = 0
  · obtain rfl := hz
    go_wp2
    go_loopw [6] (fun i wr => i = .int .i64 0 ∧ wr = w3) (fun i _ => 0)
    case atStart => exact ⟨rfl, rfl⟩
    case round =>
      obtain ⟨rfl, rfl⟩ := hrel
      go_wp2
      go_ret
      exact ⟨rfl, HB3.out⟩
  obtain ⟨n, M, L, rfl, rfl, rfl, hn16, hM4, hL32, hnbN, hA, hX⟩ := HMO.out hz
  obtain rfl := hnbN
  have HAA : Hid _ := hA
  have HXX : Hid _ := hX
  have HV4 : Hid (ASeg _ _ _) := HV3.out.seg
  have HQ4 : Hid (Bk _ _ _) := HQ3.out
  have hnz : ¬ (n = 0) := by omega
  have hLz : ¬ (L = 0) := by omega
  obtain ⟨i3, hi1, hi2, hi3, hi4⟩ := info3'
  have HI : Hid _ := And.intro hi1 (And.intro hi2 (And.intro hi3 hi4))
  clear HMO hA hX HV3 HQ3 e0 e1 e2 hi1 hi2 hi3 hi4
  go_wp2
  go_loopw [6] (fun i wr => ∃ k : Nat, k ≤ nb ∧ i = .int .i64 k ∧ Hid (Below w3.heap.size w3 wr)) (fun i _ => nb - (intOf i).toNat)
  case atStart => exact ⟨0, by omega, rfl, Below.refl _ _⟩
  case round =>
    obtain ⟨k, hk, rfl, HB⟩ := hrel
    have HBW : Hid _ := HB3.out.trans (HB.out.mono HB3.out.size)
    by_cases hlt : k < nb
    rotate_left
    · have hlt' : ¬ ((k : Int) < (nb : Int)) := by omega
      go_wp2
      go_ret
      exact ⟨rfl, HBW.out⟩
    have hlt' : (k : Int) < (nb : Int) := by omega
    by_cases hl2 : k < 120
    rotate_left
    · have hl2' : ¬ ((k : Int) < 120) := by omega
      go_wp2
      go_ret
      exact ⟨rfl, HBW.out⟩
    have hl2' : (k : Int) < 120 := by omega
    have hbw := HB.out
    have HQ5 : Hid (Bk _ _ _) := HQ4.out.below HB.out
    have q0 : wr.cell? ⟨w1.heap.size, 0, none⟩ = some (.int .i64 n) := HQ5.out.cell 0 _ rfl
    have q1 : wr.cell? ⟨w1.heap.size, 1, none⟩ = some (.int .i64 M) := HQ5.out.cell 1 _ rfl
    have q2 : wr.cell? ⟨w1.heap.size, 2, none⟩ = some (.int .i64 L) := HQ5.out.cell 2 _ rfl
    obtain ⟨b1, o1, rfl, hbl1, u1, _⟩ := WSeg.at HS3.out k (by rw [HUL.out]; exact hlt)
    replace u1 := (hbw.cell (p := ⟨b1, o1 + k * 2, none⟩) hbl1).trans u1
    obtain ⟨A, hA1, hA2⟩ := HAA.out k hlt
    rw [hA1] at u1
    have HLN : Hid (lnA L us k = A / L) := by show _ = _; unfold lnA; rw [hA1]; rfl
    obtain ⟨ln, HLN2⟩ : ∃ ln, Hid (A / L = ln) := ⟨_, rfl⟩
    have hln : ln ≤ 65535 := by rw [← HLN2.out]; exact Nat.le_trans (Nat.div_le_self _ _) hA2
    have hwl : wrap64 ((A : Int) / (L : Int)) = (ln : Int) := by rw [← Int.natCast_ediv, HLN2.out]; exact IntWalk.wrap64_in _ (by omega)
    go_wp2
    go_region
    go_wp2
    rw [hwl]
    have hal5 : Below wr.heap.size wr (wr.alloc (.cells #[] 3)).drew := ((Below.refl _ _).alloc (Nat.le_refl _) _).drew
    have HO5 : Hid (OwnL (wr.alloc (.cells #[] 3)).drew wr.heap.size (.slice (some ⟨wr.heap.size, 0, none⟩) 0 0) []) := OwnL.new wr wr.heap.size rfl
    obtain ⟨w5, hw5⟩ : ∃ w5, w5 = (wr.alloc (.cells #[] 3)).drew := ⟨_, rfl⟩
    rw [← hw5] at hal5 HO5
    rw [← hw5]
    have HAL5 : Hid _ := hal5
    have hsz5 : wr.heap.size ≤ w5.heap.size := hal5.size
    clear hw5 hal5 q0 q1 q2 u1 hwl HQ5
    obtain ⟨wo, hwo⟩ : ∃ wo, wo = wr := ⟨wr, rfl⟩
    subst hwo
    go_loopw [8, 9, 10] (fun f v j wx => ∃ (k1 m g cp : Nat) (O : List Nat), f = .bool false ∧ v = .slice (some ⟨g, 0, none⟩) m cp ∧ j = .int .i64 ((k1 : Int) - 1) ∧ m + k1 ≤ k ∧ Hid (O.length = m ∧ Below wo.heap.size wo wx ∧ OwnL wx wo.heap.size (.slice (some ⟨g, 0, none⟩) m cp) (O.map fun (x : Nat) => (x : Int)) ∧ RI n L us k k1 O)) (fun _ _ j _ => (intOf j + 1).toNat)
    case atStart => exact ⟨k, 0, wo.heap.size, 0, [], rfl, rfl, rfl, by omega, rfl, HAL5.out, HO5.out, RI.start n L us k⟩
    case round =>
      obtain ⟨k1, m, g, cp, O, rfl, rfl, rfl, hmk, HJ⟩ := hrel
      cases k1 with
      | zero =>
        obtain ⟨b2, o2, rfl, hbl2, p2⟩ := HV4.out.at k (by rw [HNB.out]; exact hlt)
        have hb3 := HB.out.trans (HJ.out.2.1.mono HB.out.size)
        replace p2 := p2.of (w' := wr) (fun i => hb3.cell (p := ⟨b2, i, none⟩) hbl2)
        have hX2 := HXX.out k hlt
        have q1 : wr.cell? ⟨w1.heap.size, 1, none⟩ = some (.int .i64 M) := (HQ4.out.below hb3).cell 1 _ rfl
        rw [decide_eq_false (RI.none HJ.out.2.2.2)] at hX2
        generalize xs.getD k ad = x at p2 hX2
        obtain ⟨x1, x2, x3⟩ := x
        obtain ⟨c0, c1, c2⟩ := p2
        simp only at c0 c1 c2 hX2
        obtain ⟨rfl, rfl⟩ := hX2
        have HBN : Hid _ := hb3
        clear hb3 hbl2
        go_wp2
        all_goals try go_region
        all_goals try go_wp2
        all_goals try go_roundw
        case rel => exact ⟨k + 1, by omega, by go_num, HBN.out.drew⟩
        case measure => simp [intOf]; omega
      | succ p =>
        have hpk : p < k := by omega
        have hpn : p < nb := by omega
        have hpn' : (p : Int) < (nb : Int) := by omega
        have ep : ((p + 1 : Nat) : Int) - 1 = (p : Int) := by omega
        rw [ep]
        have hb3 := HB.out.trans (HJ.out.2.1.mono HB.out.size)
        have q0 : wr.cell? ⟨w1.heap.size, 0, none⟩ = some (.int .i64 n) := (HQ4.out.below hb3).cell 0 _ rfl
        have q2 : wr.cell? ⟨w1.heap.size, 2, none⟩ = some (.int .i64 L) := (HQ4.out.below hb3).cell 2 _ rfl
        have u1 : wr.cell? ⟨b1, o1 + p * 2, none⟩ = some (.int .i64 (us.getD p wd).1) := by
          obtain ⟨b9, o9, e9, hbl9, u9, _⟩ := WSeg.at HS3.out p (by rw [HUL.out]; exact hpn)
          injection e9 with e9
          injection e9 with e9 e8
          subst e9 e8
          exact (hb3.cell (p := ⟨b1, o1 + p * 2, none⟩) hbl9).trans u9
        obtain ⟨A2, hA21, hA22⟩ := HAA.out p hpn
        rw [hA21] at u1
        obtain ⟨lx, HLX2⟩ : ∃ lx, Hid (A2 / L = lx) := ⟨_, rfl⟩
        have HLX : Hid (lnA L us p = lx) := by show _ = _; unfold lnA; rw [hA21, ← HLX2.out]; rfl
        have HLK : Hid (lnA L us k = ln) := by show _ = _; rw [HLN.out, HLN2.out]
        have hlx : lx ≤ 65535 := by rw [← HLX2.out]; exact Nat.le_trans (Nat.div_le_self _ _) hA22
        have hwx : wrap64 ((A2 : Int) / (L : Int)) = (lx : Int) := by rw [← Int.natCast_ediv, HLX2.out]; exact IntWalk.wrap64_in _ (by omega)
        have HBN : Hid _ := hb3
        clear hb3
        by_cases hsame : lx = ln
        · have hc : (wrap64 ((A2 : Int) / (L : Int)) == (ln : Int)) = true := by rw [hwx, hsame]; simp
          clear hwx
          obtain ⟨q, HQ⟩ : ∃ q, Hid (decide (O.length < M) = q) := ⟨_, rfl⟩
          obtain ⟨b2, o2, rfl, hbl2, p2⟩ := HV4.out.at k (by rw [HNB.out]; exact hlt)
          have hb3 := HB.out.trans (HJ.out.2.1.mono HB.out.size)
          replace p2 := p2.of (w' := wr) (fun i => hb3.cell (p := ⟨b2, i, none⟩) hbl2)
          have hX2 := HXX.out k hlt
          have q1 : wr.cell? ⟨w1.heap.size, 1, none⟩ = some (.int .i64 M) := (HQ4.out.below hb3).cell 1 _ rfl
          have hfd : decide (ttA n L us k ∈ (stk n L us k (hhA n L us k)).take M) = decide (O.length < M) := decide_eq_decide.2 (RI.found HJ.out.2.2.2 (by rw [HLX.out, HLK.out, hsame]))
          rw [hfd] at hX2
          clear hfd
          generalize xs.getD k ad = x at p2 hX2
          obtain ⟨x1, x2, x3⟩ := x
          obtain ⟨c0, c1, c2⟩ := p2
          simp only at c0 c1 c2 hX2
          obtain ⟨rfl, rfl⟩ := hX2
          have HBN : Hid _ := hb3
          clear hb3 hbl2
          have hmm : O.length = m := HJ.out.1
          rw [hmm] at c0
          go_wp2
          go_region
          go_wp2
          go_region
          go_wp2
          go_roundw
          case rel => exact ⟨k + 1, by omega, by go_num, HBN.out.drew.drew⟩
          case measure => simp [intOf]; omega
        · have hc : (wrap64 ((A2 : Int) / (L : Int)) == (ln : Int)) = false := by rw [hwx]; exact beq_eq_false_iff_ne.2 (fun e => hsame (Int.ofNat.inj e))
          have hwx2 : Hid _ := hwx
          clear hwx
          have HBO : Hid (Below wo.heap.size wo wr) := HJ.out.2.1
          have HOW : Hid (OwnL wr wo.heap.size (.slice (some ⟨g, 0, none⟩) m cp) (O.map fun (x : Nat) => (x : Int))) := HJ.out.2.2.1
          have HRI : Hid (RI n L us k (p + 1) O) := HJ.out.2.2.2
          have HML : Hid (O.length = m) := HJ.out.1
          have HSG : Hid (Seg .i64 wr (some ⟨g, 0, none⟩) (O.map fun (x : Nat) => (x : Int))) := by
            obtain ⟨a9, c9, e9, h9⟩ := HOW.out.seg
            injection e9 with e9 _ _
            subst e9
            exact h9
          have hm100 : m ≤ 120 := by omega
          clear HJ hc
          have hc : (wrap64 ((A2 : Int) / (L : Int)) == (ln : Int)) = false := by rw [hwx2.out]; exact beq_eq_false_iff_ne.2 (fun e => hsame (Int.ofNat.inj e))
          go_wp2
          go_region
          go_wp2
          rw [hwx2.out]
          clear hc u1
          by_cases hmod : lx % n = ln % n
          rotate_left
          · have hm1 : ((lx : Int) % (n : Int) == (ln : Int) % (n : Int)) = false := beq_eq_false_iff_ne.2 (fun e => hmod (by rw [← Int.natCast_emod, ← Int.natCast_emod] at e; exact Int.ofNat.inj e))
            have HRI2 : Hid (RI n L us k p O) := RI.skip HRI.out (by rw [HLX.out, HLK.out]; exact hmod)
            have HOW2 : Hid (OwnL wr.drew.drew wo.heap.size (.slice (some ⟨g, 0, none⟩) m cp) (O.map fun (x : Nat) => (x : Int))) := OwnL.below HOW.out ((Below.refl _ _).drew.drew)
            have hmk2 : m + p ≤ k := by omega
            go_region
            all_goals
              go_wp2
              go_roundw
              case rel => exact ⟨p, m, g, cp, O, rfl, rfl, by go_num, hmk2, HML.out, HBO.out.drew.drew, HOW2.out, HRI2.out⟩
              case measure => simp [intOf]
          have hm1 : ((lx : Int) % (n : Int) == (ln : Int) % (n : Int)) = true := by rw [← Int.natCast_emod, ← Int.natCast_emod, hmod]; simp
          have q0g : ∀ x : Gr wr.drew, x.w.cell? ⟨w1.heap.size, 0, none⟩ = some (.int .i64 n) := fun x => gr_cell (W0 := wr.drew) q0 x
          have hmk2 : m + p ≤ k := by omega
          obtain ⟨qh, HQH⟩ : ∃ qh, Hid ((O.map fun (x : Nat) => (x : Int)).contains (lx : Int) = qh) := ⟨_, rfl⟩
          have HC : Hid (∀ x : Gr wr.drew, Calls Try.prog 18 #[.slice (some ⟨g, 0, none⟩) m cp, .int .i64 (lx : Int)] x.w fun e w' => e = .returned (.bool qh) ∧ w' = x.w) := fun x => by
            have h := law_has (some ⟨g, 0, none⟩) cp m (O.map fun (x : Nat) => (x : Int)) (lx : Int) x.w (Seg.below HSG.out (((Below.refl _ wr).drew).trans x.h)) (by rw [List.length_map]; exact HML.out) (by omega)
            rw [HQH.out] at h
            exact h
          have HMEM : Hid (qh = true ↔ lx ∈ O) := by
            show _ ↔ _
            rw [← HQH.out, List.contains_iff_mem, List.mem_map]
            exact ⟨fun ⟨y, h1, h2⟩ => by have : y = lx := Int.ofNat.inj h2; rw [← this]; exact h1, fun h => ⟨lx, h, rfl⟩⟩
          have hgr := gr_some wr.drew
          refine region_alike (by kernel_rfl) (by kernel_rfl) ?_
          repeat (go_big_quiet_step (first | (go_at_call 18; exact gr_same (HC.out _))))
          refine wpQuiet_nil ?_
          intro _ hw'
          obtain ⟨X1, rfl⟩ := hw'
          have hb9 := X1.h
          generalize X1.w = W9 at hb9 ⊢
          have HB9 : Hid (Below wr.heap.size wr W9) := ((Below.refl _ wr).drew).trans hb9
          clear hb9 q0g HC q0 q2 hm1
          have HBO9 : Hid (Below wo.heap.size wo W9) := HBO.out.trans (HB9.out.mono HBO.out.size)
          have HOW9 : Hid (OwnL W9 wo.heap.size (.slice (some ⟨g, 0, none⟩) m cp) (O.map fun (x : Nat) => (x : Int))) := OwnL.below HOW.out HB9.out
          have HLM : Hid ((O.map fun (x : Nat) => (x : Int)).length = m) := by show _ = _; rw [List.length_map]; exact HML.out
          cases qh
          rotate_left
          · have HRI2 : Hid (RI n L us k p O) := RI.seen HRI.out (by rw [HLX.out, HLK.out]; exact hmod) (by rw [HLX.out]; exact HMEM.out.1 (by trivial))
            go_wp2
            go_roundw
            case rel => exact ⟨p, m, g, cp, O, rfl, rfl, by go_num, hmk2, HML.out, HBO9.out, HOW9.out, HRI2.out⟩
            case measure => simp [intOf]
          · have HRI2 : Hid (RI n L us k p (O ++ [lx])) := by
              show RI _ _ _ _ _ _
              have := RI.new HRI.out (by rw [HLX.out, HLK.out]; exact hmod) (by rw [HLX.out, HLK.out]; exact hsame) (by rw [HLX.out]; exact fun h => by have := HMEM.out.2 h; cases this)
              rw [HLX.out] at this
              exact this
            have hown7 : (W9.alloc (.cells #[.int .i64 (lx : Int)] 3)).ownsRow wo.heap.size 3 1 (.slice (some ⟨g, 0, none⟩) m cp) m ((O.map fun (x : Nat) => (x : Int)).map (Value.int .i64)) := World.ownsRow.alloc (own_row HOW9.out HLM.out) _
            have HBS : Hid (wo.heap.size ≤ (W9.alloc (.cells #[.int .i64 (lx : Int)] 3)).heap.size) := by show _ ≤ _; have := HBO9.out.size; simp; omega
            have HZ : Hid (∀ (gg cap1 : Nat) (w9 : World), w9.ownsRow wo.heap.size 3 1 (.slice (some ⟨gg, 0, none⟩) (m + 1) cap1) (m + 1) ((O.map fun (x : Nat) => (x : Int)).map (Value.int .i64) ++ [.int .i64 (lx : Int)]) → (W9.alloc (.cells #[.int .i64 (lx : Int)] 3)).grownBy w9 (Value.slice (some ⟨g, 0, none⟩) m cp).ownBlock → (O ++ [lx]).length = m + 1 ∧ Below wo.heap.size wo w9 ∧ OwnL w9 wo.heap.size (.slice (some ⟨gg, 0, none⟩) (m + 1) cap1) ((O ++ [lx]).map fun (x : Nat) => (x : Int)) ∧ RI n L us k p (O ++ [lx])) := fun gg cap1 w9 h1 h2 => by
              obtain ⟨h3, h4⟩ := own_push HOW9.out HLM.out HBO9.out.size h1 h2
              exact ⟨by rw [List.length_append, HML.out]; rfl, HBO9.out.trans h4, by rw [List.map_append]; exact h3, HRI2.out⟩
            clear HOW9 HMEM HQH HRI HOW HSG HBN
            go_wp2_with (at_builtin; (refine wpList_append_lies _ rfl (.tmp 80) (.tmp 82) 33 rfl wo.heap.size 3 i3 (.int .i64 0) 1 8 Try.underlying33 HI.out.1 HI.out.2.1 HI.out.2.2.1 HI.out.2.2.2 rfl (by omega) _ _ _ rfl hown7 _ 1 1 [.int .i64 (lx : Int)] rfl rfl (news_int _ _ _ (by simp)) (one_int _) (by omega) (by unfold maxLen; omega) (by omega) HBS.out _ rfl ?_; intro gg cap1 w9 hown1 hgrow hat hlt1; have HYY : Hid _ := HZ.out gg cap1 w9 hown1 hgrow; clear hown1 hgrow hat hlt1))
            go_roundw
            case rel => exact ⟨p, m + 1, gg, cap1, O ++ [lx], rfl, rfl, by go_num, by omega, HYY⟩
            case measure => simp [intOf]

theorem walk (a0 : Option Addr) (len0 cap0 : Nat) (z0 : List Int) (w : World)
    (w0 : (a0 = none ∧ len0 = 0 ∧ cap0 = 0 ∧ z0 = []) ∨ ∃ x, a0 = some x ∧ len0 ≤ cap0 ∧ cap0 ≤ maxLen ∧ z0.length = cap0 ∧ (∀ i, i < z0.length → w.cell? (x.add i) = some (.int .u8 (z0.getD i 0))) ∧ ∀ n ∈ z0, (Lit.int .u8 n).wf = true) :
    Calls Try.prog 3 #[.slice a0 len0 cap0] w fun e w' => e = .returned (.bool true) ∧ Below w.heap.size w w' := by
  obtain ⟨zs, hlen, hs, hw⟩ := seg_of_row w0
  by_cases hn : len0 ≤ 1048576
  · exact core w a0 zs cap0 len0 hs hw hlen hn
  · have HG : Hid _ := big_yes a0 len0 cap0 w hn
    clear w0 hs hw hlen
    go_enter Try.func3, Try.ntmps3
    go_wp2_with fail
    refine Calls.mono HG.out ?_
    rintro u w0 ⟨rfl, rfl⟩
    go_wp2
    go_ret
    exact ⟨rfl, Below.refl _ _⟩

/-! ### The row -/
set_option maxRecDepth 100000 in
theorem lifted (os : Os) (started : os.Started) (H : Type) (enc : TypeId × Value → H) :
    ReturnsInHanded {} Try.checked os 3 .any (Rows.fnRecentSpec.pre6 enc Try.prog Try.f3 Rows.fnRecentRow.domain false) (Rows.fnRecentSpec.post enc Try.prog Try.f3 false true false false) := by
  refine returnsInHanded_of_change (C := Try.checked) own started (by kernel_rfl) Try.func3
    (ChangeSpec.witness6 (enc := enc) (C := Try.checked) false ⟨#[], #[.slice none 0 0], []⟩ 8 (by kernel_rfl) (by kernel_rfl) (by kernel_rfl) (by kernel_rfl)) ?_
  intro W base args ds gs before hval0 hW hcnd _
  have hval : ∀ (j : Nat) t v, Try.f3.params[j]? = some t → args[j]? = some v → Value.okWide Try.prog W .any base t v := hval0
  have hW' := hW
  obtain ⟨p, q, hA0, hV, rfl, hfz, hnd⟩ := hW
  have hA : DataW.TrodAll enc Try.prog W 0 (fun _ => true) true Try.f3.params.toList args.toList ds p := hA0
  rw [Try.params3] at hA hval
  obtain ⟨v0, vs0, d0, ds0, p0, q0, hargs, rfl, rfl, h0, r0⟩ := trodAll_cons hA
  obtain ⟨rfl, rfl, rfl⟩ := trodAll_nil r0
  obtain rfl : args = #[v0] := by cases args; simp_all
  obtain ⟨rfl, rfl⟩ := trodVars_none hV
  obtain ⟨a0, len0, cap0, rfl⟩ := okWide_slice Try.underlying22 (hval 0 22 v0 rfl rfl)
  have k0 := h0
  have lt0 : ∀ x ∈ p0, x.block < W.heap.size := by obtain ⟨m, hm⟩ := k0; exact DataW.trod_lt m _ _ _ hm
  obtain ⟨z0, w0⟩ : ∃ zs : List Int, (a0 = none ∧ len0 = 0 ∧ cap0 = 0 ∧ zs = []) ∨ ∃ x, a0 = some x ∧ len0 ≤ cap0 ∧ cap0 ≤ maxLen ∧ zs.length = cap0 ∧ (∀ i, i < zs.length → W.cell? (x.add i) = some (.int .u8 (zs.getD i 0))) ∧ ∀ n ∈ zs, (Lit.int .u8 n).wf = true := by
    obtain ⟨fuel, hf⟩ := h0
    rcases open_ints Try.underlying22 Try.underlying5 (by kernel_rfl) hf with ⟨hcs, _⟩ | ⟨x, l, c, zs, hcs, _, hl, hm, hz, _, hcell, hwz⟩
    · simp [Value.cells] at hcs
      obtain ⟨rfl, rfl, rfl⟩ := hcs
      exact ⟨[], .inl ⟨rfl, rfl, rfl, rfl⟩⟩
    · simp [Value.cells] at hcs
      obtain ⟨rfl, rfl, rfl⟩ := hcs
      exact ⟨zs, .inr ⟨_, rfl, hl, hm, by simpa using hz, hcell, hwz⟩⟩
  clear hA0 hval0
  refine (walk a0 len0 cap0 z0 W w0).mono fun e W' ⟨he, bel⟩ => ?_
  subst he
  exact ⟨_, rfl, _, _, _, [], _, [], hW', (trodAll_cons_mk (shut_bool Try.underlying4 _) trodAll_mk0), (trodAll_cons_mk (Below.trod laidOut (by kernel_rfl) (of_decide_eq_true (by kernel_rfl)) k0 bel lt0) trodAll_mk0), rfl, bel.frame _, fun h => by cases h⟩

theorem over : Rows.fnRecentRow.holds Try.pinned (OpenSpec.ofChange Rows.fnRecentSpec) :=
  OpenClaim.holds_of_wide 3 Try.f3 rfl rfl rfl rfl rfl rfl rfl ⟨rfl, rfl, rfl, rfl, rfl⟩ rfl rfl rfl rfl rfl (by kernel_rfl) Try.func3 (by kernel_rfl)
    (of_decide_eq_true (by kernel_rfl)) (by unfold Func.isWrapper; first | (rw [if_pos (by decide +kernel)]; kernel_rfl) | (rw [if_neg (by decide +kernel)]; exact ⟨rfl, rfl⟩))
    (fun os started H enc _ => lifted os started H enc)

end Go.Proofs.Ytifgmgehnbkbjaa.fnRecent
namespace Go.Proofs.Ytifgmgehnbkbjaa
theorem FnRecent_holds : Rows.FnRecentSaid := fnRecent.over
end Go.Proofs.Ytifgmgehnbkbjaa
