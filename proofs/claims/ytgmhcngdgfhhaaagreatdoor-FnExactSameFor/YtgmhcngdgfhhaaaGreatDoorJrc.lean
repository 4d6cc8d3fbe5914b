
/-
  Who reaches a partition: the program's search. Conditions: the tables lie in memory and are sound.
-/
import Derived.Test.YtgmhcngdgfhhaaaGreatDoorBas
import Derived.Test.YtgmhcngdgfhhaaaGreatDoorJld
import Derived.Test.YtgmhcngdgfhhaaaGreatDoorJhs
import Derived.Test.YtgmhcngdgfhhaaaGreatDoorShs
import Derived.Sort.OwnSortedInts
import Derived.Deep.AppendLies
namespace Go.Proofs.YtgmhcngdgfhhaaaGreatDoor
open Go.ChangeShapes Go.WideShapes Go.ChangeAt Go.RowKit Go.Deep Go.Joins Go.Sort
set_option linter.unusedVariables false

theorem sort_any (blk cap : Nat) (zs : List Int) (w : World) (hH : Holds (Value.int .i64) w blk 0 zs.toArray) (hlt : blk < w.heap.size) (hsz : zs.length ≤ 1048576) :
    Calls Tryz.prog 62 #[.slice (some ⟨blk, 0, none⟩) zs.length cap] w fun e w' => e = .returned (.tuple #[]) ∧ Holds (Value.int .i64) w' blk 0 (zs.mergeSort fun x y => decide (x ≤ y)).toArray ∧ Below blk w w' := by
  refine (Tryz.slices_Sort_int blk 0 cap zs w hH hlt (by omega)).mono ?_
  rintro e w' ⟨rfl, n, os, rfl⟩
  refine ⟨rfl, ?_, ?_⟩
  · exact holds_grow _ _ os blk 0 _ (by simpa [putRow, mapBlock, Sort.ahead] using hlt) (holds_putRow _ _ blk 0 _ _ (holds_ahead _ w n blk 0 _ hH) (by simp))
  · exact (Below.refl blk w).grown (grownBy_sortedI _) (by omega) (fun j hj => by cases hj; exact Nat.le_refl _)
theorem OwnI.holds {w : World} {base g cap : Nat} {zs : List Int} (h : OwnI w base (.slice (some ⟨g, 0, none⟩) zs.length cap) zs) : Holds (Value.int .i64) w g 0 zs.toArray ∧ g < w.heap.size ∧ base ≤ g := by
  rcases h.2 with ⟨h0, h1⟩ | ⟨g', cap', cur, e, hb, hg, h1, h2, h3, h4⟩
  · cases h0
  · injection e with e1 e2 e3
    injection e1 with e1
    injection e1 with e1
    subst e1
    have hlt : g < w.heap.size := by
      rcases Nat.lt_or_ge g w.heap.size with hlt | hge
      · exact hlt
      · rw [Array.getElem?_eq_none hge] at hg; cases hg
    refine ⟨fun i hi => ?_, hlt, hb⟩
    have hi' : i < zs.length := by simpa using hi
    have e : cur[i]? = some (.int .i64 (zs.getD i 0)) := by
      have := congrArg (·[i]?) h4
      simp only [Nat.mul_one] at this
      rw [List.getElem?_take, if_pos hi'] at this
      simpa [hi', List.getD] using this
    rw [Nat.zero_add]
    refine ⟨?_, by simp [World.frozen?, hg]⟩
    simp [World.cell?, hg, e, List.getD, hi']
theorem oi_of_holds {w : World} {g lo hi : Nat} {zs : List Int} (h : Holds (Value.int .i64) w g 0 zs.toArray) (h1 : lo ≤ g) (h2 : g < hi) (h3 : g < w.heap.size) : OI w lo hi (some ⟨g, 0, none⟩) zs := fun h0 => by
  refine ⟨g, 0, rfl, h1, h2, h3, fun i hi => ?_, fun i hi => (h i (by simpa using hi)).2⟩
  rw [(h i (by simpa using hi)).1]
  simp [List.getD, hi]
theorem OwnI.one (w : World) (p : Int) (B : Nat) (hB : B = w.heap.size) : OwnI (w.alloc (.cells #[.int .i64 p] 3)) B (.slice (some ⟨B, 0, none⟩) 1 1) [p] := by
  subst hB
  exact ⟨rfl, .inr ⟨w.heap.size, 1, #[.int .i64 p], rfl, Nat.le_refl _, by show (w.heap.push _)[w.heap.size]? = _; simp, Nat.le_refl _, (by first | simp | rfl | decide | (unfold maxLen; omega)), rfl, rfl⟩⟩
theorem sd_wi {t : Tb} {a : Ad} (h : Sd t) (hw : TW t a) : Wi t.cs a.pn ∧ a.pn ≤ 6 ∧ a.cn ≤ 8 := by
  have h8 := h 8 (by omega)
  have h18 := h 18 (by omega)
  have h19 := h 19 (by omega)
  simp only [R] at h8 h18 h19
  rw [hw.pl] at h8 h19
  rw [hw.cl] at h18
  exact ⟨fun i hi => (h19 i hi).2, h8.2, h18⟩
set_option maxRecDepth 40000 in
set_option maxHeartbeats 4000000 in
theorem impl_reach (t : Tb) (a : Ad) (p : Int) (w : World) (hm : TM 0 w t a) (hw : TW t a) (hsd : Sd t) (hp : 0 ≤ p ∧ p < (a.pn : Int)) :
    Calls Tryz.prog 36 #[tbV t a, .int .i64 p] w (LPostI w (joinV t.cs a.pn p)) := by
  obtain ⟨hwi, hpn, hcn⟩ := sd_wi hsd hw
  have HWI : Hid (Wi t.cs a.pn) := hwi
  have HP : Hid (0 ≤ p ∧ p < (a.pn : Int)) := hp
  have HB0 : Hid (Below w.heap.size w (w.alloc (.cells (tbA t a) 44))) := (Below.refl _ _).alloc (Nat.le_refl _) _
  have HX0 : Hid (TBx (w.alloc (.cells (tbA t a) 44)) w.heap.size t a) := TBx.new w t a _ rfl
  have hcl := hw.cl
  have HLD : Hid (Calls Tryz.prog 60 #[tbV t a] (w.alloc (.cells (tbA t a) 44)) fun e w' => e = .returned (.map (some (w.heap.size + 2))) ∧ Below (w.alloc (.cells (tbA t a) 44)).heap.size (w.alloc (.cells (tbA t a) 44)) w' ∧ MW w' (w.heap.size + 2) 16 (fun x y => (leadN t.cs a.cn x y : Int))) := by
    have := impl_leads t a (w.alloc (.cells (tbA t a) 44)) (hm.below HB0.out).c.seg hcn (fun i hi => by
      have h1 := hwi i (by omega)
      constructor <;> constructor <;> omega)
    rw [show (w.alloc (.cells (tbA t a) 44)).heap.size = w.heap.size + 1 by simp] at this ⊢
    exact this
  obtain ⟨np, hnp⟩ : ∃ np, np = a.pn := ⟨_, rfl⟩
  have HLE : Hid (∀ q r, 0 < (leadN t.cs a.cn q r : Int) ↔ Ed t.cs q r) := fun q r => by
    rw [← hcl]
    have := lead_ed t.cs q r
    constructor
    · intro h; exact this.1 (by omega)
    · intro h; have := this.2 h; omega
  have HL16 : Hid (∀ q r, 0 ≤ (leadN t.cs a.cn q r : Int) ∧ (leadN t.cs a.cn q r : Int) ≤ 16) := fun q r => by
    have := lead_le t.cs a.cn q r
    omega
  clear hm hw hsd hp hwi hcl
  rw [← hnp] at HWI HP hpn ⊢
  generalize hjv : joinV t.cs np p = zs
  have HJV : Hid (joinV t.cs np p = zs) := hjv
  clear hjv
  generalize hld : (fun x y => (leadN t.cs a.cn x y : Int)) = ld at HLD
  have HLDE : Hid (∀ q r, 0 < ld q r ↔ Ed t.cs q r) := fun q r => by rw [← hld]; exact HLE.out q r
  have HL2 : Hid (∀ q r, 0 ≤ ld q r ∧ ld q r ≤ 16) := fun q r => by rw [← hld]; exact HL16.out q r
  clear hld HLE HL16
  go_enter Tryz.func36, Tryz.ntmps36
  go_wp2_with (first | (refine wpList_load_row rfl 44 (.tmp 2) rfl w.heap.size rfl 44 (tbA t a) (0, 0) _ HX0.out Tryz.underlying44 rfl (by kernel_rfl) ?_) | fail)
  refine Calls.mono HLD.out ?_
  rintro e w1 ⟨rfl, hb1, hmw⟩
  have HB1 : Hid (Below w.heap.size w w1) := HB0.out.trans (hb1.mono HB0.out.size)
  have HX1 : Hid (TBx w1 w.heap.size t a) := HX0.out.below hb1
  have HBN : Hid (Below w.heap.size w (w1.alloc (.cells #[.int .i64 p] 3))) := HB1.out.alloc HB1.out.size _
  have HXN : Hid (TBx (w1.alloc (.cells #[.int .i64 p] 3)) w.heap.size t a) := HX1.out.below ((Below.refl _ _).alloc (Nat.le_refl _) _)
  have HMN : Hid (MW (w1.alloc (.cells #[.int .i64 p] 3)) (w.heap.size + 2) 16 ld) := hmw.below ((Below.refl _ _).alloc (Nat.le_refl _) _)
  have HON : Hid (OwnI (w1.alloc (.cells #[.int .i64 p] 3)) w1.heap.size (.slice (some ⟨w1.heap.size, 0, none⟩) 1 1) [p]) := OwnI.one w1 p _ rfl
  have hGB : w.heap.size + 2 < w1.heap.size := hmw.lt
  have HGN : Hid (w1.heap.size < (w1.alloc (.cells #[.int .i64 p] 3)).heap.size) := by show _ < _; simp
  clear hb1 HB0 HX0 HB1 HX1 hmw HLD
  go_wp2
  revert HBN HXN HMN HON hGB HGN
  generalize w1.alloc (.cells #[.int .i64 p] 3) = w2
  generalize w1.heap.size = G
  intro HBN HXN HMN HON hGB HGN
  have hB1 : 0 ≤ p := HP.out.1
  have hB2 : p < (np : Int) := HP.out.2
  obtain ⟨ii, hii, hz0, hs0, hb0⟩ := infoI3'
  have HII : Hid (Tryz.prog.info? 3 = some ii ∧ ii.zero = some (.int .i64 0) ∧ ii.size = 1 ∧ ii.bytes = 8) := ⟨hii, hz0, hs0, hb0⟩
  clear hii hz0 hs0 hb0
  go_loopw [6, 7] (fun v i wr => ∃ (F : List Int) (k m g cap : Nat), k ≤ m ∧ m ≤ np ∧ i = .int .i64 k ∧ v = .slice (some ⟨g, 0, none⟩) m cap ∧ Hid (F.length = m) ∧ Hid (Bf t.cs np p F k) ∧ Hid (Below w.heap.size w wr) ∧ Hid (TBx wr w.heap.size t a) ∧ Hid (MW wr (w.heap.size + 2) 16 ld) ∧ Hid (OwnI wr G (.slice (some ⟨g, 0, none⟩) m cap) F) ∧ Hid (G < wr.heap.size)) (fun _ i _ => np - (intOf i).toNat)
  case atStart => exact ⟨[p], 0, 1, G, 1, by omega, by omega, rfl, rfl, rfl, .one HP.out, HBN.out, HXN.out, HMN.out, HON.out, HGN.out⟩
  case round =>
    clear HBN HXN HMN HON HGN
    obtain ⟨F, k, m, g, cap, hkm, hmn, rfl, rfl, HFL, HBF, HBW, HXW, HMW, HOW, HGW⟩ := hrel
    by_cases hlt : k < m
    rotate_left
    · obtain rfl : k = m := by omega
      have hfl := HFL.out
      have hown := HOW.out
      rw [← hfl] at hown
      obtain ⟨hh, hg1, hg2⟩ := OwnI.holds hown
      have HC : Hid (Calls Tryz.prog 62 #[.slice (some ⟨g, 0, none⟩) k cap] wr fun e w' => e = .returned (.tuple #[]) ∧ Holds (Value.int .i64) w' g 0 zs.toArray ∧ Below g wr w') := by
        have := sort_any g cap F wr hh hg1 (by omega)
        rw [bf_sorted HP.out HWI.out (by rw [hfl]; exact HBF.out), HJV.out, hfl] at this
        exact this
      have HZL : Hid (zs.length = k) := by
        show _ = _
        rw [← HJV.out, ← bf_sorted HP.out HWI.out (by rw [hfl]; exact HBF.out), List.length_mergeSort, hfl]
      clear hown hh HOW HBF HFL hfl HXW HMW
      go_wp2_with fail
      refine Calls.mono HC.out ?_
      rintro u w3 ⟨rfl, hh2, hb2⟩
      have HZ : Hid (Below w.heap.size w w3 ∧ OI w3 w.heap.size w3.heap.size (some ⟨g, 0, none⟩) zs) := ⟨HBW.out.trans (hb2.mono (by omega)), oi_of_holds hh2 (by omega) (Nat.lt_of_lt_of_le hg1 hb2.size) (Nat.lt_of_lt_of_le hg1 hb2.size)⟩
      clear hh2 hb2 HC
      go_wp2
      go_ret
      exact ⟨some ⟨g, 0, none⟩, cap, by rw [HZL.out]; rfl, HZ.out.1, HZ.out.2⟩
    have hlt' : (k : Int) < (m : Int) := by omega
    have k15 : wr.cell? ⟨w.heap.size, 15, none⟩ = some (.slice a.pa a.pn a.pc) := HXW.out.cell 15 rfl
    have HBG0 : Hid (Bg t.cs np p F k 0) := HBF.out.start HWI.out (by rw [HFL.out]; exact hlt)
    clear HBF
    go_wp2
    go_loopw [6, 22] (fun v i wr => ∃ (F : List Int) (j m g cap : Nat), j ≤ np ∧ k < m ∧ m ≤ np ∧ i = .int .i64 j ∧ v = .slice (some ⟨g, 0, none⟩) m cap ∧ Hid (F.length = m) ∧ Hid (Bg t.cs np p F k j) ∧ Hid (Below w.heap.size w wr) ∧ Hid (TBx wr w.heap.size t a) ∧ Hid (MW wr (w.heap.size + 2) 16 ld) ∧ Hid (OwnI wr G (.slice (some ⟨g, 0, none⟩) m cap) F) ∧ Hid (G < wr.heap.size)) (fun _ i _ => np - (intOf i).toNat)
    case atStart => exact ⟨F, 0, m, g, cap, by omega, hlt, hmn, rfl, rfl, HFL.out, HBG0.out, HBW.out, HXW.out, HMW.out, HOW.out, HGW.out⟩
    case round =>
      clear HFL HBG0 HBW HXW HMW HOW HGW k15 hlt' hlt hmn hkm
      obtain ⟨F, j, m, g, cap, hj, hkm, hmn, rfl, rfl, HFL, HBG, HBW, HXW, HMW, HOW, HGW⟩ := hrel
      by_cases hjn : j < np
      rotate_left
      · obtain rfl : j = np := by omega
        have hjn' : ¬ ((j : Int) < (a.pn : Int)) := by omega
        have HBF : Hid (Bf t.cs j p F (k + 1)) := HBG.out.done HWI.out
        clear HBG
        go_wp2
        go_roundw
        case rel => exact ⟨F, k + 1, m, g, cap, by omega, by omega, by go_num, rfl, HFL.out, HBF.out, HBW.out, HXW.out, HMW.out, HOW.out, HGW.out⟩
        case measure => simp [intOf]; omega
      have hjn' : (j : Int) < (a.pn : Int) := by omega
      have hfl := HFL.out
      subst hfl
      obtain ⟨a', cap', ee, hseg⟩ := HOW.out.seg
      cases ee
      obtain ⟨b', off', ee, hbl, hcell⟩ := hseg.at k hkm
      cases ee
      obtain ⟨r, HRR⟩ : ∃ r, Hid (F.getD k 0 = r) := ⟨_, rfl⟩
      rw [HRR.out, Nat.zero_add] at hcell
      have hr2 : 0 ≤ r ∧ r < (np : Int) := HBG.out.gd.wi r (by
        rw [← HRR.out]
        have : F.getD k 0 = F[k] := by simp [List.getD, hkm]
        rw [this]; exact List.getElem_mem hkm)
      have hlk := HMW.out.look (a := (j : Int)) (b := r) (wfi (by omega)) (wfi (by omega))
      replace hlk : (Instr.lookup 111 (.map (some (w.heap.size + 2))) (.agg #[.int .i64 (j : Int), .int .i64 r]) false).run Tryz.prog wr = .ok (.int .i64 (ld (j : Int) r)) wr := hlk
      have hl2 := HL2.out (j : Int) r
      have HED : Hid (0 < ld (j : Int) r ↔ Ed t.cs (j : Int) (F.getD k 0)) := by show _ ↔ _; rw [HRR.out]; exact HLDE.out _ _
      generalize ld (j : Int) r = l at hlk hl2 HED
      have HSG : Hid (Seg .i64 wr (some ⟨g, 0, none⟩) F) := hseg
      clear hseg hbl HRR
      by_cases hl0 : 0 < l
      rotate_left
      · have hd0 : decide (0 < l) = false := decide_eq_false hl0
        have HBN : Hid (Bg t.cs np p F k (j + 1)) := HBG.out.skip (.inl (fun e => hl0 (HED.out.2 e)))
        clear HBG HED
        go_wp2
        go_roundw
        case rel => exact ⟨F, j + 1, F.length, g, cap, by omega, hkm, hmn, by go_num, rfl, rfl, HBN.out, HBW.out, HXW.out, HMW.out, HOW.out, HGW.out⟩
        case measure => simp [intOf]; omega
      have hd0 : decide (0 < l) = true := decide_eq_true hl0
      obtain ⟨q, HQ⟩ : ∃ q, Hid (decide ((j : Int) ∈ F) = q) := ⟨_, rfl⟩
      have HCO : Hid (∀ X, X = wr → Calls Tryz.prog 61 #[.slice (some ⟨g, 0, none⟩) F.length cap, .int .i64 (j : Int)] X fun e w' => e = .returned (.bool q) ∧ w' = X) := fun X hX => con_l _ cap F _ q X (by rw [hX]; exact HSG.out) (by omega) HQ.out
      clear HSG
      go_wp2_with fail
      refine Calls.mono (HCO.out _ rfl) ?_
      rintro e w4 ⟨rfl, hw4⟩
      subst hw4
      clear HCO hlk
      cases q
      rotate_left
      · have HBN : Hid (Bg t.cs np p F k (j + 1)) := HBG.out.skip (.inr (of_decide_eq_true HQ.out))
        clear HBG HED HQ
        go_wp2
        go_roundw
        case rel => exact ⟨F, j + 1, F.length, g, cap, by omega, hkm, hmn, by go_num, rfl, rfl, HBN.out, HBW.out, HXW.out, HMW.out, HOW.out, HGW.out⟩
        case measure => simp [intOf]; omega
      have HBN : Hid (Bg t.cs np p (F ++ [(j : Int)]) k (j + 1)) := HBG.out.more HWI.out (HED.out.1 hl0) (of_decide_eq_false HQ.out)
      have hml : F.length + 1 ≤ np := by have := HBN.out.gd.len; simpa using this
      clear HBG HED HQ hcell
      have hal : Below w4.heap.size w4 (w4.alloc (.cells #[.int .i64 (j : Int)] 3)) := (Below.refl _ _).alloc (Nat.le_refl _) _
      have hown2 : (w4.alloc (.cells #[.int .i64 (j : Int)] 3)).ownsRow G 3 1 (.slice (some ⟨g, 0, none⟩) F.length cap) F.length (F.map (Value.int .i64)) := OwnI.below HOW.out hal
      have hlow := ownI_low HOW.out
      have HZ : Hid (∀ (gg cap1 : Nat) (w9 : World), w9.ownsRow G 3 1 (.slice (some ⟨gg, 0, none⟩) (F.length + 1) cap1) (F.length + 1) (F.map (Value.int .i64) ++ [.int .i64 (j : Int)]) → (w4.alloc (.cells #[.int .i64 (j : Int)] 3)).grownBy w9 (Value.slice (some ⟨g, 0, none⟩) F.length cap).ownBlock → OwnI w9 G (.slice (some ⟨gg, 0, none⟩) (F.length + 1) cap1) (F ++ [(j : Int)]) ∧ Below w.heap.size w w9 ∧ TBx w9 w.heap.size t a ∧ MW w9 (w.heap.size + 2) 16 ld ∧ G < w9.heap.size) := fun gg cap1 w9 h1 h2 => by
        have hbz := HBW.out.trans (hal.mono HBW.out.size)
        have hGW := HGW.out
        have hB : w9.heap[w.heap.size]? = (w4.alloc (.cells #[.int .i64 (j : Int)] 3)).heap[w.heap.size]? := h2.block w.heap.size (Nat.lt_of_lt_of_le (by omega) hal.size) (fun e => by have := hlow _ e.symm; omega)
        have hB2 : w9.heap[w.heap.size + 2]? = (w4.alloc (.cells #[.int .i64 (j : Int)] 3)).heap[w.heap.size + 2]? := h2.block (w.heap.size + 2) (Nat.lt_of_lt_of_le (by omega) hal.size) (fun e => by have := hlow _ e.symm; omega)
        exact ⟨OwnI.snoc h1, Below.grown hbz h2 hbz.size (fun g' e => by have := hlow g' e; omega), hB.trans (HXW.out.below hal), (HMW.out.below hal).of hB2, Nat.lt_of_lt_of_le hGW (Nat.le_trans hal.size h2.size)⟩
      have hbs : G ≤ w4.heap.size := Nat.le_of_lt HGW.out
      have hls : F.length ≤ 6 := by omega
      clear hal hlow HXW HBW HOW HGW HMW
      go_wp2_with (at_builtin; (refine wpList_append_lies _ rfl (.tmp 40) (.tmp 42) 27 rfl G 3 ii (.int .i64 0) 1 8 Tryz.underlying27 HII.out.1 HII.out.2.1 HII.out.2.2.1 HII.out.2.2.2 rfl (by omega) _ _ _ rfl hown2 _ 1 1 [.int .i64 (j : Int)] rfl rfl (newsI_int _ _ _ (by simp)) (oneI_int _) (by omega) (by unfold maxLen; omega) (by omega) (by simp; omega) _ rfl ?_; intro gg cap1 w9 hown1 hgrow hat hlt1; have HY : Hid _ := HZ.out gg cap1 w9 hown1 hgrow; clear hown1 hgrow hat hlt1))
      go_roundw
      case rel => exact ⟨F ++ [(j : Int)], j + 1, F.length + 1, gg, cap1, by omega, by omega, hml, by go_num, rfl, (by show _ = _; simp), HBN.out, HY.out.2.1, HY.out.2.2.1, HY.out.2.2.2.1, HY.out.1, HY.out.2.2.2.2⟩
      case measure => simp [intOf]; omega
end Go.Proofs.YtgmhcngdgfhhaaaGreatDoor
