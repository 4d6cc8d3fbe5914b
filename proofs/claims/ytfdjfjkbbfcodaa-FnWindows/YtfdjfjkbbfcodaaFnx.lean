
/-
  The law FnWindows returns true at every list of bytes of at most 1048576. No other conditions.
-/
import Derived.Test.YtfdjfjkbbfcodaaBas
import Derived.Test.YtfdjfjkbbfcodaaProg
import Derived.Test.YtfdjfjkbbfcodaaFnw
namespace Go.Proofs.Ytfdjfjkbbfcodaa
open Go.ChangeShapes Go.WideShapes Go.ChangeAt Go.RowKit Go.Deep
set_option linter.unusedVariables false
set_option maxRecDepth 20000

theorem beq_no {x : Int} (h : ¬ x = 0) : (x == 0) = false := by simpa using h
theorem so_cases {so al : Bool} {P : Prop} (h : so = true ↔ (P ∧ al = true)) : (¬ P ∧ so = false) ∨ (P ∧ al = so) := by
  by_cases hp : P
  · refine .inr ⟨hp, ?_⟩
    cases so
    · cases al
      · rfl
      · exact absurd (h.2 ⟨hp, rfl⟩) (by simp)
    · exact (h.1 rfl).2
  · refine .inl ⟨hp, ?_⟩
    cases so
    · rfl
    · exact absurd (h.1 rfl).1 hp
/-- Where the address lies in a window, the fault is none just when that window has all bytes and the kind, and the address is a multiple. -/
theorem win_fin {sz kd ad : Int} {j : Nat} {x : Wn} {so : Bool} {rf : Int} (had : 0 ≤ ad) (hso : so = true ↔ (ad + sz ≤ x.1 + x.2.1 ∧ alw x.2.2 kd = true)) (hrf : FauP sz kd ad (j : Int) x.2.2 rf) (hwi : ad % sz = 0 → ad + sz ≤ x.1 + x.2.1) :
    (¬ ad % sz = 0 ∧ rf = 1) ∨ (ad % sz = 0 ∧ so = false ∧ rf = 3) ∨ (ad % sz = 0 ∧ so = true ∧ rf = 0) := by
  unfold FauP at hrf
  rw [Int.tmod_eq_emod_of_nonneg had] at hrf
  rcases hrf with ⟨h1, h2⟩ | ⟨h1, h2, _⟩ | ⟨h1, _, h3, h4⟩ | ⟨h1, _, h3, h4⟩
  · exact .inl ⟨h1, h2⟩
  · omega
  · refine .inr (.inl ⟨h1, ?_, h4⟩)
    cases so
    · rfl
    · rw [(hso.1 rfl).2] at h3; cases h3
  · exact .inr (.inr ⟨h1, hso.2 ⟨hwi h1, h3⟩, h4⟩)
set_option maxHeartbeats 16000000 in
theorem win_law (w : World) (a : Option Addr) (zs : List Int) (cap n : Nat) (hs : Seg .u8 w a zs) (hb : ∀ z ∈ zs, (Lit.int .u8 z).wf = true) (hl : zs.length = n) (hn : n ≤ 1048576) :
    Calls Try.prog 13 #[.slice a n cap] w fun e w' => e = .returned (.bool true) ∧ Below w.heap.size w w' := by
  have HD : Hid (Calls Try.prog 45 #[.slice a n cap] w (FPost w)) := by
    show Calls _ _ _ _ _
    have := draw_fault a zs cap w hs hb (by omega)
    rw [hl] at this
    exact this
  have HG : Hid _ := big_no a n cap w hn
  clear hs hb hl
  go_enter Try.func13, Try.ntmps13
  go_wp2_with fail
  refine Calls.mono HG.out ?_
  rintro u w0 ⟨rfl, rfl⟩
  clear HG
  go_wp2_with fail
  refine Calls.mono HD.out ?_
  rintro u w1 ⟨g, m, c1, ad, sz, kd, rfl, ⟨had0, had1⟩, hm, hc, hown, hb1⟩
  obtain ⟨xs, hxl, hseg, hfit⟩ := hown.seg
  obtain ⟨q, hq⟩ := told (WsOk xs)
  have HB1 : Hid _ := hb1
  have HW : Hid _ := spec_wsok (some ⟨g, 0, none⟩) c1 m xs q w1 hseg hxl (by omega) hq
  clear hb1 HD hown hn
  cases q
  · clear hq hseg hfit hxl
    go_wp2_with fail
    refine Calls.mono HW.out ?_
    rintro u w2 ⟨rfl, hb2⟩
    have HB2 : Hid _ := HB1.out.trans (hb2.mono HB1.out.size)
    clear hb2
    go_wp2
    go_ret
    exact ⟨rfl, HB2.out⟩
  by_cases hz : sz = 1 ∨ sz = 4
  rotate_left
  · obtain ⟨z1, z2, z3, z4⟩ := size_bad hz
    clear hq hseg hfit hxl hz
    go_wp2_with fail
    refine Calls.mono HW.out ?_
    rintro u w2 ⟨rfl, hb2⟩
    have HB2 : Hid _ := HB1.out.trans (hb2.mono HB1.out.size)
    clear hb2
    go_wp2
    go_ret
    exact ⟨rfl, HB2.out⟩
  by_cases hk : kd = 1 ∨ kd = 2 ∨ kd = 4
  rotate_left
  · obtain ⟨z1, z2, z3, z4, z5, z6⟩ := kind_bad hk
    clear hq hseg hfit hxl hk
    rcases hz with rfl | rfl
    all_goals
      go_wp2_with fail
      refine Calls.mono HW.out ?_
      rintro u w2 ⟨rfl, hb2⟩
      have HB2 : Hid _ := HB1.out.trans (hb2.mono HB1.out.size)
      clear hb2
      go_wp2
      go_ret
      exact ⟨rfl, HB2.out⟩
  have ho : WsOk xs := hq.1 rfl
  have hto : WsTo xs m := by rw [← hxl]; exact ho.2
  have h4 : m ≤ 4 := by rw [← hxl]; exact ho.1
  obtain ⟨ra, hra⟩ := AtP.ex xs ad m
  obtain ⟨rf, hrf⟩ := FauP.ex sz kd ad ra (xs.getD ra.toNat wn0).2.2
  have HAT : Hid (∀ X, Below w1.heap.size w1 X → Calls Try.prog 20 #[.slice (some ⟨g, 0, none⟩) m c1, .int .i64 ad] X fun e w' => e = .returned (.int .i64 ra) ∧ Below X.heap.size X w') := fun X hX => impl_at _ c1 m xs true ad ra m X (hseg.below hX) hfit hxl (by omega) hc hq (fun h => by cases h) (fun _ => rfl) hra
  have HFT : Hid (∀ X, Below w1.heap.size w1 X → Calls Try.prog 22 #[.slice (some ⟨g, 0, none⟩) m c1, .int .u32 ad, .int .i64 sz, .int .i64 kd] X fun e w' => e = .returned (.int .i64 rf) ∧ Below X.heap.size X w') := fun X hX => impl_fault _ c1 m xs true ad ra sz kd rf X (hseg.below hX) hfit hxl (by omega) hc hq ⟨had0, had1⟩ (fun _ => hra) (fun _ _ => hrf) (fun h => by
    rcases h with h | h
    · cases h
    · exact absurd ⟨hz, hk⟩ h)
  have HRC : Hid (∀ X, Below w1.heap.size w1 X → Calls Try.prog 24 #[.slice (some ⟨g, 0, none⟩) m c1] X fun e w' => e = .returned (.int .i64 (sumTo xs m)) ∧ Below X.heap.size X w') := fun X hX => impl_reach _ c1 m xs true m X (hseg.below hX) hfit hxl (by omega) hc hq (fun h => by cases h) (fun _ => rfl)
  obtain ⟨so, hso⟩ := told (ad + sz ≤ (xs.getD ra.toNat wn0).1 + (xs.getD ra.toNat wn0).2.1 ∧ alw (xs.getD ra.toNat wn0).2.2 kd = true)
  have HM : Hid (WsOk xs ∧ WsTo xs m ∧ AtP xs m ad ra ∧ (so = true ↔ (ad + sz ≤ (xs.getD ra.toNat wn0).1 + (xs.getD ra.toNat wn0).2.1 ∧ alw (xs.getD ra.toNat wn0).2.2 kd = true)) ∧ FauP sz kd ad ra (xs.getD ra.toNat wn0).2.2 rf ∧ xs.length = m) := ⟨ho, hto, hra, hso, hrf, hxl⟩
  have HBT : Hid (∀ p : Int, 1 ≤ p ∧ p ≤ 7 → (Int.tmod (wrap64 (Int.tdiv p kd)) 2 == 1) = alw p kd) := fun p hp => alw_one hp hk
  have HWI : Hid (∀ x : Wn, WOk x → Has x ad → ad % sz = 0 → ad + sz ≤ x.1 + x.2.1) := fun x h1 h2 h3 => h1.within h2 hz h3
  have HSG : Hid (ASeg w1 (some ⟨g, 0, none⟩) xs) := hseg
  clear hq hseg hfit ho hto hra hso hrf hxl
  have hw := wrap_u32 had0 had1
  rcases hz with rfl | rfl <;> rcases hk with rfl | rfl | rfl
  all_goals
    go_wp2_with fail
    refine Calls.mono HW.out ?_
    rintro u w2 ⟨rfl, hb2⟩
    have HB2 : Hid (Below w1.heap.size w1 w2) := hb2
    clear hb2 HW
    go_wp2
    go_loopw [7, 8, 9, 10] (fun sm nn by' i wr => ∃ (k : Nat) (cnt S : Int) (b : Bool), k ≤ m ∧ i = .int .i64 k ∧ sm = .bool b ∧ nn = .int .i64 cnt ∧ by' = .int .i64 S ∧ 0 ≤ cnt ∧ cnt ≤ 1 ∧ 0 ≤ S ∧ S ≤ 2048 * k ∧ Hid (Below w1.heap.size w1 wr ∧ WSt xs ad ra so k cnt b ∧ S = sumTo xs k)) (fun _ _ _ i _ => m - (intOf i).toNat)
    case atStart => exact ⟨0, 0, 0, false, by omega, rfl, rfl, rfl, rfl, by omega, by omega, by omega, by omega, HB2.out, .inl ⟨fun i hi => absurd hi (by omega), rfl, rfl⟩, rfl⟩
    case round =>
      obtain ⟨k, cnt, S, b, hkm, rfl, rfl, rfl, rfl, hc0, hc1, hS0, hS1, HR⟩ := hrel
      clear HB2
      by_cases hlt : k < m
      rotate_left
      · obtain rfl : k = m := by omega
        obtain ⟨ho, hto, hra, hso, hrf, hxl⟩ := HM.out
        have HRC2 : Hid (∀ X, Below w1.heap.size w1 X → Calls Try.prog 24 #[.slice (some ⟨g, 0, none⟩) k c1] X fun e w' => e = .returned (.int .i64 S) ∧ Below X.heap.size X w') := fun X hX => by rw [HR.out.2.2]; exact HRC.out X hX
        have HBR : Hid _ := HR.out.1
        rcases HR.out.2.1 with ⟨g1, rfl, rfl⟩ | ⟨j, hj, rfl, g2, rfl, rfl⟩
        · obtain rfl : ra = -1 := AtP.uniq hra (.inl ⟨rfl, g1⟩)
          have hf0 : (rf == 0) = false := by
            rcases hrf with ⟨_, e⟩ | ⟨_, _, e⟩ | ⟨_, e, _⟩ | ⟨_, e, _⟩
            · rw [e]; rfl
            · rw [e]; rfl
            · omega
            · omega
          clear ho hto hra hso hrf hxl g1 HR
          go_wp2_with fail
          refine Calls.mono (HFT.out _ HBR.out) ?_
          rintro u w5 ⟨rfl, hb5⟩
          have HB5 : Hid (Below w1.heap.size w1 w5) := HBR.out.trans (hb5.mono HBR.out.size)
          clear hb5
          go_wp2_with fail
          refine Calls.mono (HRC2.out _ HB5.out) ?_
          rintro u w6 ⟨rfl, hb6⟩
          have HB6 : Hid (Below w1.heap.size w1 w6) := HB5.out.trans (hb6.mono HB5.out.size)
          clear hb6 HB5
          go_wp2_with fail
          refine Calls.mono (HAT.out _ HB6.out) ?_
          rintro u w7 ⟨rfl, hb7⟩
          have HB7 : Hid (Below w1.heap.size w1 w7) := HB6.out.trans (hb7.mono HB6.out.size)
          clear hb7 HB6
          go_wp2
          go_ret
          exact ⟨rfl, HB1.out.trans (HB7.out.mono HB1.out.size)⟩
        · rw [Int.toNat_natCast] at hso hrf
          have hwi := HWI.out _ (WsOk.at ho (by rw [hxl]; exact hj)) g2
          have hfin := win_fin had0 hso hrf hwi
          have HFI : Hid _ := hfin
          clear ho hto hra hso hrf hxl g2 HR hwi hfin
          rcases HFI.out with ⟨hh, rfl⟩ | ⟨hh, rfl, rfl⟩ | ⟨hh, rfl, rfl⟩
          · first
              | exact absurd (Int.emod_one ad) hh
              | (have hh' := beq_no hh
                 clear hh HFI
                 cases b
                 all_goals
                   go_wp2_with fail
                   refine Calls.mono (HFT.out _ HBR.out) ?_
                   rintro u w5 ⟨rfl, hb5⟩
                   have HB5 : Hid (Below w1.heap.size w1 w5) := HBR.out.trans (hb5.mono HBR.out.size)
                   clear hb5
                   go_wp2_with fail
                   refine Calls.mono (HRC2.out _ HB5.out) ?_
                   rintro u w6 ⟨rfl, hb6⟩
                   have HB6 : Hid (Below w1.heap.size w1 w6) := HB5.out.trans (hb6.mono HB5.out.size)
                   clear hb6 HB5
                   go_wp2
                   go_ret
                   exact ⟨rfl, HB1.out.trans (HB6.out.mono HB1.out.size)⟩)
          · clear HFI
            go_wp2_with fail
            refine Calls.mono (HFT.out _ HBR.out) ?_
            rintro u w5 ⟨rfl, hb5⟩
            have HB5 : Hid (Below w1.heap.size w1 w5) := HBR.out.trans (hb5.mono HBR.out.size)
            clear hb5
            go_wp2_with fail
            refine Calls.mono (HRC2.out _ HB5.out) ?_
            rintro u w6 ⟨rfl, hb6⟩
            have HB6 : Hid (Below w1.heap.size w1 w6) := HB5.out.trans (hb6.mono HB5.out.size)
            clear hb6 HB5
            go_wp2
            go_ret
            exact ⟨rfl, HB1.out.trans (HB6.out.mono HB1.out.size)⟩
          · clear HFI
            go_wp2_with fail
            refine Calls.mono (HFT.out _ HBR.out) ?_
            rintro u w5 ⟨rfl, hb5⟩
            have HB5 : Hid (Below w1.heap.size w1 w5) := HBR.out.trans (hb5.mono HBR.out.size)
            clear hb5
            go_wp2_with fail
            refine Calls.mono (HRC2.out _ HB5.out) ?_
            rintro u w6 ⟨rfl, hb6⟩
            have HB6 : Hid (Below w1.heap.size w1 w6) := HB5.out.trans (hb6.mono HB5.out.size)
            clear hb6 HB5
            go_wp2
            go_ret
            exact ⟨rfl, HB1.out.trans (HB6.out.mono HB1.out.size)⟩
      have hlt' : (k : Int) < (m : Int) := by omega
      obtain ⟨ho, hto, hra, hso, hrf, hxl⟩ := HM.out
      have hkl : k < xs.length := by rw [hxl]; exact hlt
      have hok := WsOk.at ho hkl
      have hbit := HBT.out _ hok.2.2.2.2.2
      obtain ⟨b0, o0, e0, hbl0, p1⟩ := ASeg.at HSG.out k hkl
      cases e0
      replace p1 := p1.of (w' := wr) (fun i => HR.out.1.cell (p := ⟨g, i, none⟩) hbl0)
      rw [Nat.zero_add] at p1
      have HSU : Hid (sumTo xs (k + 1) = sumTo xs k + (xs.getD k wn0).2.1) := rfl
      have HNO : Hid (¬ Has (xs.getD k wn0) ad → WSt xs ad ra so (k + 1) cnt b) := fun h => HR.out.2.1.no h
      have HYS : Hid (Has (xs.getD k wn0) ad → ra = k ∧ cnt = 0 ∧ b = false ∧ WSt xs ad ra so (k + 1) 1 so ∧ (so = true ↔ (ad + _ ≤ (xs.getD k wn0).1 + (xs.getD k wn0).2.1 ∧ alw (xs.getD k wn0).2.2 _ = true))) := fun h => by
        obtain ⟨h1, h2, h3, h4⟩ := HR.out.2.1.yes hto hlt hra h
        have hso' := hso
        rw [h1, Int.toNat_natCast] at hso'
        exact ⟨h1, h2, h3, h4, hso'⟩
      obtain ⟨o1, o2, _, _, o5, o6, o7⟩ := hok
      have HHD : Hid (Has (xs.getD k wn0) ad ↔ ((xs.getD k wn0).1 ≤ ad ∧ ad < (xs.getD k wn0).1 + (xs.getD k wn0).2.1)) := Iff.rfl
      generalize Has (xs.getD k wn0) ad = HH at HNO HYS HHD
      generalize alw (xs.getD k wn0).2.2 _ = al at HYS hbit
      generalize xs.getD k wn0 = z at p1 HSU HYS HHD hbit o1 o2 o5 o6 o7
      obtain ⟨z1, z2, z3⟩ := z
      obtain ⟨c0, c1', c2⟩ := p1
      simp only at c0 c1' c2 HSU HYS HHD hbit o1 o2 o5 o6 o7
      clear ho hto hra hso hrf hxl hkl hbl0
      have hal : Below wr.heap.size wr (wr.alloc (.cells #[.int .i64 z1, .int .i64 z2, .int .i64 z3] 60)) := (Below.refl _ _).alloc (Nat.le_refl _) _
      have HBA : Hid (Below w1.heap.size w1 (wr.alloc (.cells #[.int .i64 z1, .int .i64 z2, .int .i64 z3] 60))) := HR.out.1.trans (hal.mono HR.out.1.size)
      have HBK : Hid _ := Bk.new wr #[.int .i64 z1, .int .i64 z2, .int .i64 z3] 60 wr.heap.size rfl
      have HSS : Hid (S + z2 = sumTo xs (k + 1)) := by show _ = _; rw [HSU.out, HR.out.2.2]
      clear hal HSU
      by_cases h1 : z1 ≤ ad
      rotate_left
      · have HN2 : Hid _ := HNO.out (fun h => h1 (HHD.out.1 h).1)
        clear HNO HYS HHD hbit o6 o7
        go_wp2
        go_roundw
        case rel => exact ⟨k + 1, cnt, S + z2, b, by omega, by go_num, rfl, rfl, by go_num, hc0, hc1, by omega, by omega, HBA.out, HN2.out, HSS.out⟩
        case measure => simp [intOf]; omega
      by_cases h2 : ad < z1 + z2
      rotate_left
      · have HN2 : Hid _ := HNO.out (fun h => h2 (HHD.out.1 h).2)
        clear HNO HYS HHD hbit o6 o7
        go_wp2
        go_roundw
        case rel => exact ⟨k + 1, cnt, S + z2, b, by omega, by go_num, rfl, rfl, by go_num, hc0, hc1, by omega, by omega, HBA.out, HN2.out, HSS.out⟩
        case measure => simp [intOf]; omega
      obtain ⟨rfl, rfl, rfl, hst, hso⟩ := HYS.out (HHD.out.2 ⟨h1, h2⟩)
      have HST : Hid (WSt xs ad ((k : Nat) : Int) so (k + 1) 1 so) := hst
      have HSO : Hid _ := hso
      clear HNO HYS HHD hst hso o6 o7
      try rw [Int.tdiv_one] at hbit
      go_wp2_with fail
      refine Calls.mono (HAT.out _ HBA.out) ?_
      rintro u w3 ⟨rfl, hb3⟩
      have HB3 : Hid (Below w1.heap.size w1 w3) := HBA.out.trans (hb3.mono HBA.out.size)
      have HK3 : Hid _ := HBK.out.below hb3
      have d0 := HK3.out.cell 0 _ rfl
      have d1 := HK3.out.cell 1 _ rfl
      have d2 := HK3.out.cell 2 _ rfl
      clear hb3 HBA HBK c0 c1' c2
      rcases so_cases HSO.out with ⟨h3, rfl⟩ | ⟨h3, rfl⟩
      · clear HSO hbit
        first
          | (exfalso
             clear hw
             omega)
          | (go_wp2
             go_roundw
             case rel => exact ⟨k + 1, 1, S + z2, false, by omega, by go_num, rfl, rfl, by go_num, by omega, by omega, by omega, by omega, HB3.out, HST.out, HSS.out⟩
             case measure => simp [intOf]; omega)
      · clear HSO
        cases al
        all_goals
          go_wp2
          go_roundw
          case rel => exact ⟨k + 1, 1, S + z2, _, by omega, by go_num, rfl, rfl, by go_num, by omega, by omega, by omega, by omega, HB3.out, HST.out, HSS.out⟩
          case measure => simp [intOf]; omega
end Go.Proofs.Ytfdjfjkbbfcodaa
