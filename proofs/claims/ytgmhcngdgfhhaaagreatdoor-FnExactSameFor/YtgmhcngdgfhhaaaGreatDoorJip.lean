
/-
  Who reaches a partition, and whether one does: the program's and the specification's. Conditions: the tables lie in memory; the program's table of extras holds what the program's text lays.
-/
import Derived.Test.YtgmhcngdgfhhaaaGreatDoorBas
import Derived.Test.YtgmhcngdgfhhaaaGreatDoorJrc
import Derived.Test.YtgmhcngdgfhhaaaGreatDoorSp6
import Derived.Test.YtgmhcngdgfhhaaaGreatDoorRl3
namespace Go.Proofs.YtgmhcngdgfhhaaaGreatDoor
open Go.ChangeShapes Go.WideShapes Go.ChangeAt Go.RowKit Go.Deep Go.Joins Go.Sort
set_option linter.unusedVariables false

/-- What Joined tells. -/
def JR (t : Tb) (a : Ad) (p : Int) (zs : List Int) : Prop := (¬ (Sd t ∧ 0 ≤ p ∧ p < (a.pn : Int)) ∧ zs = []) ∨ ((Sd t ∧ 0 ≤ p ∧ p < (a.pn : Int)) ∧ zs = joinV t.cs a.pn p)
theorem JR.small {t : Tb} {a : Ad} {p : Int} {zs : List Int} (h : JR t a p zs) (hw : TW t a) : zs.length ≤ 6 := by
  rcases h with ⟨_, rfl⟩ | ⟨h, rfl⟩
  · simp
  · have := flt_len (its t.cs a.pn [p]) a.pn
    have h2 := (sd_wi h.1 hw).2.1
    unfold joinV
    omega
theorem JR.ex (t : Tb) (a : Ad) (p : Int) : ∃ zs, JR t a p zs := by
  by_cases h : Sd t ∧ 0 ≤ p ∧ p < (a.pn : Int)
  · exact ⟨_, .inr ⟨h, rfl⟩⟩
  · exact ⟨_, .inl ⟨h, rfl⟩⟩
set_option maxRecDepth 40000 in
set_option maxHeartbeats 8000000 in
theorem spec_joined (t : Tb) (a : Ad) (p : Int) (zs : List Int) (w : World) (hm : TM 0 w t a) (hw : TW t a) (hs : TS a) (hz : JR t a p zs) :
    Calls Tryz.prog 22 #[tbV t a, .int .i64 p] w (LPostI w zs) := by
  obtain ⟨q, hq⟩ := told (Sd t)
  obtain ⟨q3, HQ3⟩ : ∃ b, Hid (inr p 0 ((a.pn : Int) - 1) = b) := ⟨_, rfl⟩
  have hpn : a.pn ≤ 1048576 := hs.p
  have HB0 : Hid (Below w.heap.size w (w.alloc (.cells (tbA t a) 44))) := (Below.refl _ _).alloc (Nat.le_refl _) _
  have HX0 : Hid (TBx (w.alloc (.cells (tbA t a) 44)) w.heap.size t a) := TBx.new w t a _ rfl
  have hbE : Below (w.alloc (.cells (tbA t a) 44)).heap.size (w.alloc (.cells (tbA t a) 44)) ((w.alloc (.cells (tbA t a) 44)).alloc (.cells #[] 3)) := (Below.refl _ _).alloc (Nat.le_refl _) _
  have HBE : Hid (Below w.heap.size w ((w.alloc (.cells (tbA t a) 44)).alloc (.cells #[] 3))) := HB0.out.trans (hbE.mono HB0.out.size)
  have HXE : Hid (TBx ((w.alloc (.cells (tbA t a) 44)).alloc (.cells #[] 3)) w.heap.size t a) := HX0.out.below hbE
  have HOE : Hid (OwnI ((w.alloc (.cells (tbA t a) 44)).alloc (.cells #[] 3)) (w.heap.size + 1) (.slice (some ⟨w.heap.size + 1, 0, none⟩) 0 0) []) := OwnI.new (w.alloc (.cells (tbA t a) 44)) _ (by simp)
  have HSO : Hid (Calls Tryz.prog 51 #[tbV t a] ((w.alloc (.cells (tbA t a) 44)).alloc (.cells #[] 3)) fun e w' => e = .returned (.bool q) ∧ Below ((w.alloc (.cells (tbA t a) 44)).alloc (.cells #[] 3)).heap.size ((w.alloc (.cells (tbA t a) 44)).alloc (.cells #[] 3)) w') := spec_sound t a q _ (hm.below HBE.out) hw hs hq
  have HIN : Hid (∀ X, Calls Tryz.prog 21 #[.int .i64 p, .int .i64 0, .int .i64 ((a.pn : Int) - 1)] X fun e w' => e = .returned (.bool q3) ∧ w' = X) := fun X => by rw [← HQ3.out]; exact in_any _ _ _ X
  have HNO : Hid (q = false ∨ q3 = false → zs = []) := fun h => by
    rcases hz with ⟨_, g⟩ | ⟨g, _⟩
    · exact g
    · rcases h with h | h
      · rw [hq.2 g.1] at h; cases h
      · rw [← HQ3.out, inr_yes ⟨g.2.1, by have := g.2.2; omega⟩] at h; cases h
  have HYE : Hid (q = true → q3 = true → (0 ≤ p ∧ p < (a.pn : Int)) ∧ Wi t.cs a.pn ∧ a.pn ≤ 6 ∧ a.cn ≤ 8 ∧ zs = joinV t.cs a.pn p) := fun h1 h2 => by
    have hp := of_inr (HQ3.out.trans h2)
    obtain ⟨g1, g2, g3⟩ := sd_wi (hq.1 h1) hw
    refine ⟨by omega, g1, g2, g3, ?_⟩
    rcases hz with ⟨h, _⟩ | ⟨_, h⟩
    · exact absurd ⟨hq.1 h1, hp.1, by omega⟩ h
    · exact h
  have HC : Hid (GSeg 4 w a.ca a.cn (chX t.cs)) := hm.c.seg
  have HCL : Hid (t.cs.length = a.cn) := hw.cl
  have hw0 : IntKind.i64.wrap ((a.pn : Int) - 1) = (a.pn : Int) - 1 := by rw [IntKind.wrap_i64]; omega
  clear hm hw hs hz hq HQ3 hbE HB0 HX0
  go_enter Tryz.func22, Tryz.ntmps22
  go_wp2_with (first | (refine wpList_load_row rfl 44 (.tmp 2) rfl w.heap.size rfl 44 (tbA t a) (0, 0) _ HXE.out Tryz.underlying44 rfl (by kernel_rfl) ?_) | fail)
  refine Calls.mono HSO.out ?_
  rintro e w1 ⟨rfl, hb1⟩
  have HB1 : Hid (Below w.heap.size w w1) := HBE.out.trans (hb1.mono HBE.out.size)
  have HX1 : Hid (TBx w1 w.heap.size t a) := HXE.out.below hb1
  have HO1 : Hid (OwnI w1 (w.heap.size + 1) (.slice (some ⟨w.heap.size + 1, 0, none⟩) 0 0) []) := HOE.out.below hb1
  clear hb1 HSO HBE HXE HOE
  cases q
  · have HT : Hid (zs = []) := HNO.out (.inl (by first | rfl | trivial))
    go_wp2
    go_ret
    exact ⟨_, _, by rw [HT.out]; rfl, HB1.out, by rw [HT.out]; exact fun h => absurd h (by simp)⟩
  have k15 : w1.cell? ⟨w.heap.size, 15, none⟩ = some (.slice a.pa a.pn a.pc) := HX1.out.cell 15 rfl
  go_wp2_with fail
  refine Calls.mono (HIN.out _) ?_
  rintro e w2 ⟨rfl, hw2⟩
  subst hw2
  clear HIN k15 hw0
  cases q3
  · have HT : Hid (zs = []) := HNO.out (.inr (by first | rfl | trivial))
    go_wp2
    go_ret
    exact ⟨_, _, by rw [HT.out]; rfl, HB1.out, by rw [HT.out]; exact fun h => absurd h (by simp)⟩
  obtain ⟨hp, hwi, hp6, hc8, hzs⟩ := HYE.out (by first | rfl | trivial) (by first | rfl | trivial)
  have HP : Hid (0 ≤ p ∧ p < (a.pn : Int)) := hp
  have HWI : Hid (Wi t.cs a.pn) := hwi
  have HZS : Hid (zs = joinV t.cs a.pn p) := hzs
  obtain ⟨np, hnp⟩ : ∃ np, np = a.pn := ⟨_, rfl⟩
  clear HNO HYE hp hwi hzs hpn
  have hGB : w.heap.size + 1 < w2.heap.size := by
    obtain ⟨a', cap', e1, h4⟩ := HO1.out.oi
    rcases HO1.out.2 with ⟨h0, _⟩ | ⟨g, cap, cur, e, hb, hg, _⟩
    · cases h0
    · cases e
      rcases Nat.lt_or_ge (w.heap.size + 1) w2.heap.size with hlt | hge
      · exact hlt
      · rw [Array.getElem?_eq_none hge] at hg; cases hg
  have HBN : Hid (Below w.heap.size w (w2.alloc (.cells #[.int .i64 p] 3))) := HB1.out.alloc HB1.out.size _
  have HXN : Hid (TBx (w2.alloc (.cells #[.int .i64 p] 3)) w.heap.size t a) := HX1.out.below ((Below.refl _ _).alloc (Nat.le_refl _) _)
  have HON : Hid (OwnI (w2.alloc (.cells #[.int .i64 p] 3)) (w.heap.size + 1) (.slice (some ⟨w.heap.size + 1, 0, none⟩) 0 0) []) := HO1.out.below ((Below.refl _ _).alloc (Nat.le_refl _) _)
  have HSN : Hid (OwnI (w2.alloc (.cells #[.int .i64 p] 3)) w2.heap.size (.slice (some ⟨w2.heap.size, 0, none⟩) 1 1) [p]) := OwnI.one w2 p _ rfl
  have HGN : Hid (w2.heap.size < (w2.alloc (.cells #[.int .i64 p] 3)).heap.size) := by show _ < _; simp
  clear HB1 HX1 HO1
  go_wp2
  revert HBN HXN HON HSN hGB HGN
  generalize w2.alloc (.cells #[.int .i64 p] 3) = w3
  generalize w2.heap.size = G
  intro hGB HBN HXN HON HSN HGN
  obtain ⟨ii, hii, hz0, hs0, hb0⟩ := infoI3'
  have HII : Hid (Tryz.prog.info? 3 = some ii ∧ ii.zero = some (.int .i64 0) ∧ ii.size = 1 ∧ ii.bytes = 8) := ⟨hii, hz0, hs0, hb0⟩
  clear hii hz0 hs0 hb0
  go_loopw [6, 7] (fun v i wr => ∃ (k m g cap : Nat), k ≤ np ∧ m ≤ np ∧ i = .int .i64 k ∧ v = .slice (some ⟨g, 0, none⟩) m cap ∧ Hid ((its t.cs k [p]).length = m) ∧ Hid (Below w.heap.size w wr) ∧ Hid (TBx wr w.heap.size t a) ∧ Hid (OwnI wr (w.heap.size + 1) (.slice (some ⟨w.heap.size + 1, 0, none⟩) 0 0) []) ∧ Hid (OwnI wr G (.slice (some ⟨g, 0, none⟩) m cap) (its t.cs k [p])) ∧ Hid (G < wr.heap.size)) (fun _ i _ => np - (intOf i).toNat)
  case atStart => exact ⟨0, 1, G, 1, by omega, (by have := HP.out; omega), rfl, rfl, rfl, HBN.out, HXN.out, HON.out, HSN.out, HGN.out⟩
  case round =>
    clear HBN HXN HON HSN HGN
    obtain ⟨k, m, g, cap, hk, hmn, rfl, rfl, HFL, HBW, HXW, HOW, HSW, HGW⟩ := hrel
    have k15 : wr.cell? ⟨w.heap.size, 15, none⟩ = some (.slice a.pa a.pn a.pc) := HXW.out.cell 15 rfl
    by_cases hkn : k < np
    rotate_left
    · obtain rfl : k = np := by omega
      have hkn' : ¬ ((k : Int) < (a.pn : Int)) := by omega
      have HZF : Hid (zs = flt (its t.cs k [p]) k) := by show _ = _; rw [HZS.out, ← hnp]; rfl
      have HH := HSW.out
      rw [← HFL.out] at HH
      have hgg := (OwnI.holds HH).2
      obtain ⟨a', cap', ee, hseg⟩ := HH.seg
      cases ee
      have HSG : Hid (Seg .i64 wr (some ⟨g, 0, none⟩) (its t.cs k [p]) ∧ g < wr.heap.size) := And.intro hseg hgg.1
      have hGg : G ≤ g := hgg.2
      clear HH hgg hseg HSW
      generalize its t.cs k [p] = S at HZF HSG HFL
      go_wp2
      go_loopw [5, 10] (fun v i wr => ∃ (j l g2 cap2 : Nat), j ≤ k ∧ l ≤ j ∧ i = .int .i64 j ∧ v = .slice (some ⟨g2, 0, none⟩) l cap2 ∧ Hid ((flt S j).length = l) ∧ Hid (Below w.heap.size w wr) ∧ Hid (TBx wr w.heap.size t a) ∧ Hid (OwnI wr (w.heap.size + 1) (.slice (some ⟨g2, 0, none⟩) l cap2) (flt S j)) ∧ Hid (Seg .i64 wr (some ⟨g, 0, none⟩) S ∧ g < wr.heap.size) ∧ Hid (g2 ≠ g) ∧ Hid (G < wr.heap.size)) (fun _ i _ => k - (intOf i).toNat)
      case atStart => exact ⟨0, 0, w.heap.size + 1, 0, by omega, by omega, rfl, rfl, rfl, HBW.out, HXW.out, HOW.out, HSG.out, (by show _ ≠ _; omega), HGW.out⟩
      case round =>
        clear HBW HXW HOW HSG HGW k15
        obtain ⟨j, l, g2, cap2, hj, hlj, rfl, rfl, HLL, HBW, HXW, HOW, HSG, HGG, HGW⟩ := hrel
        have k15 : wr.cell? ⟨w.heap.size, 15, none⟩ = some (.slice a.pa a.pn a.pc) := HXW.out.cell 15 rfl
        by_cases hjn : j < k
        rotate_left
        · obtain rfl : j = k := by omega
          have hjn' : ¬ ((j : Int) < (a.pn : Int)) := by omega
          have HT : Hid (zs = flt S j) := HZF.out
          go_wp2
          go_ret
          have hh := HOW.out
          rw [← HLL.out] at hh
          obtain ⟨a', cap', e1, h4⟩ := hh.oi
          cases e1
          rw [HT.out]
          exact ⟨_, _, by rw [HLL.out]; rfl, HBW.out, h4.wide (by omega) (Nat.le_refl _)⟩
        have hjn' : (j : Int) < (a.pn : Int) := by omega
        have HNX : Hid (flt S (j + 1) = flt S j ++ (if (j : Int) ∈ S then [(j : Int)] else [])) := rfl
        obtain ⟨F2, HF2⟩ : ∃ F2, Hid (flt S (j + 1) = F2) := ⟨_, rfl⟩
        rw [HF2.out] at HNX
        generalize flt S j = F at HNX HLL HOW
        obtain ⟨q, HQ⟩ : ∃ q, Hid (decide ((j : Int) ∈ S) = q) := ⟨_, rfl⟩
        have HCQ : Hid (∀ X, X = wr → Calls Tryz.prog 53 #[.slice (some ⟨g, 0, none⟩) m cap, .int .i64 (j : Int)] X fun e w' => e = .returned (.bool q) ∧ w' = X) := fun X hX => by
          rw [← HFL.out]
          exact has_l _ cap S _ q X (by rw [hX]; exact HSG.out.1) (by rw [HFL.out]; omega) HQ.out
        go_wp2_with fail
        refine Calls.mono (HCQ.out _ rfl) ?_
        rintro e w5 ⟨rfl, hw5⟩
        subst hw5
        clear HCQ k15
        cases q
        · have HE : Hid (F2 = F) := by show _ = _; rw [HNX.out, if_neg (of_decide_eq_false HQ.out), List.append_nil]
          go_wp2
          go_roundw
          case rel => exact ⟨j + 1, l, g2, cap2, by omega, by omega, by go_num, rfl, (by show _ = _; rw [HF2.out, HE.out]; exact HLL.out), HBW.out, HXW.out, (by show OwnI _ _ _ _; rw [HF2.out, HE.out]; exact HOW.out), HSG.out, HGG.out, HGW.out⟩
          case measure => simp [intOf]; omega
        have HE : Hid (F2 = F ++ [(j : Int)]) := by show _ = _; rw [HNX.out, if_pos (of_decide_eq_true HQ.out)]
        have HBSt9 : Hid (w.heap.size + 1 ≤ w5.heap.size) := by have := HGW.out; show _ ≤ _; omega
        have halt9 : Below w5.heap.size w5 (w5.alloc (.cells #[.int .i64 (j : Int)] 3)) := (Below.refl _ _).alloc (Nat.le_refl _) _
        have hownt9 : (w5.alloc (.cells #[.int .i64 (j : Int)] 3)).ownsRow (w.heap.size + 1) 3 1 (.slice (some ⟨g2, 0, none⟩) l cap2) l (F.map (Value.int .i64)) := by
          have := OwnI.below HOW.out halt9
          unfold OwnI at this
          rw [HLL.out] at this
          exact this
        have hlowt9 := ownI_low HOW.out
        have HZt9 : Hid (∀ (gg cap1 : Nat) (w9 : World), w9.ownsRow (w.heap.size + 1) 3 1 (.slice (some ⟨gg, 0, none⟩) (l + 1) cap1) (l + 1) (F.map (Value.int .i64) ++ [.int .i64 (j : Int)]) → (w5.alloc (.cells #[.int .i64 (j : Int)] 3)).grownBy w9 (Value.slice (some ⟨g2, 0, none⟩) l cap2).ownBlock → ((Value.slice (some ⟨g2, 0, none⟩) l cap2).ownBlock = some gg ∨ gg = (w5.alloc (.cells #[.int .i64 (j : Int)] 3)).heap.size) → OwnI w9 (w.heap.size + 1) (.slice (some ⟨gg, 0, none⟩) (l + 1) cap1) (F ++ [(j : Int)]) ∧ Below w.heap.size w w9 ∧ TBx w9 w.heap.size t a ∧ (Seg .i64 w9 (some ⟨g, 0, none⟩) S ∧ g < w9.heap.size) ∧ gg ≠ g ∧ G < w9.heap.size) := fun gg cap1 w9 h1 h2 h3 => by
          have h1' : OwnI w9 (w.heap.size + 1) (.slice (some ⟨gg, 0, none⟩) (l + 1) cap1) (F ++ [(j : Int)]) := by
            rw [← HLL.out] at h1 ⊢
            exact OwnI.snoc h1
          have hrow : ∀ k, (Value.slice (some ⟨g2, 0, none⟩) l cap2).ownBlock = some k → k = g2 := fun k e => by simpa [Value.ownBlock, eq_comm] using e
          have hbz := HBW.out.trans (halt9.mono HBW.out.size)
          have hGW := HGW.out
          have hgl := fun k e => (hlowt9 k e : w.heap.size + 1 ≤ k)
          have hB : w9.heap[w.heap.size]? = (w5.alloc (.cells #[.int .i64 (j : Int)] 3)).heap[w.heap.size]? := h2.block w.heap.size (Nat.lt_of_lt_of_le (by omega) halt9.size) (fun e => by have := hgl _ e.symm; omega)
          have hgb : w9.heap[g]? = (w5.alloc (.cells #[.int .i64 (j : Int)] 3)).heap[g]? := h2.block g (Nat.lt_of_lt_of_le HSG.out.2 halt9.size) (fun e => HGG.out (hrow _ e.symm).symm)
          have hseg : Seg .i64 w9 (some ⟨g, 0, none⟩) S := fun h0 => by
            obtain ⟨b, off, e, hlt, hc⟩ := (HSG.out.1.below halt9) h0
            cases e
            exact ⟨g, 0, rfl, Nat.lt_of_lt_of_le HSG.out.2 (Nat.le_trans halt9.size h2.size), fun i hi => (World.cell?_of_block hgb).trans (hc i hi)⟩
          exact ⟨h1', Below.grown hbz h2 hbz.size (fun g' e => by have := hgl g' e; omega), hB.trans (HXW.out.below halt9), ⟨hseg, Nat.lt_of_lt_of_le HSG.out.2 (Nat.le_trans halt9.size h2.size)⟩, (by
            rcases h3 with h3 | h3
            · rw [hrow _ h3]; exact HGG.out
            · have h4 := HSG.out.2; have h6 := halt9.size; omega), Nat.lt_of_lt_of_le hGW (Nat.le_trans halt9.size h2.size)⟩
        have hbst9 : (w.heap.size + 1) ≤ w5.heap.size := HBSt9.out
        clear halt9 hlowt9 HBW HXW HOW HSG HGG HGW
        go_wp2_with (first | (at_builtin; (refine wpList_append_lies _ rfl (.tmp 93) (.tmp 95) 27 rfl ((w.heap.size + 1)) 3 ii (.int .i64 0) 1 8 Tryz.underlying27 HII.out.1 HII.out.2.1 HII.out.2.2.1 HII.out.2.2.2 rfl (by omega) _ _ _ rfl hownt9 _ 1 1 [.int .i64 (j : Int)] rfl rfl (newsI_int _ _ _ (by simp)) (oneI_int _) (by omega) (by unfold maxLen; omega) (by omega) (by simp; omega) _ rfl ?_; intro gg cap1 w9 hown1 hgrow hat hlt1; have HY : Hid _ := HZt9.out gg cap1 w9 hown1 hgrow hat; clear hown1 hgrow hat hlt1)) | fail)
        go_roundw
        case rel => exact ⟨j + 1, l + 1, gg, cap1, by omega, by omega, by go_num, rfl, (by show _ = _; rw [HF2.out, HE.out, ← HLL.out]; simp), HY.out.2.1, HY.out.2.2.1, (by show OwnI _ _ _ _; rw [HF2.out, HE.out]; exact HY.out.1), HY.out.2.2.2.1, HY.out.2.2.2.2.1, HY.out.2.2.2.2.2⟩
        case measure => simp [intOf]; omega
    have hkn' : (k : Int) < (a.pn : Int) := by omega
    have HGD : Hid (∀ j, j ≤ a.cn → Gd t.cs np p (rnd t.cs j (its t.cs k [p]))) := fun j hj => by
      have h1 : 0 ≤ p ∧ p < (np : Int) := by rw [hnp]; exact HP.out
      have h2 : Wi t.cs np := by rw [hnp]; exact HWI.out
      exact ((Gd.one h1).its h2 k).rnd h2 j (by rw [HCL.out]; exact hj)
    generalize hS0 : its t.cs k [p] = S0 at HFL HSW HGD
    have HS0 : Hid (its t.cs k [p] = S0) := hS0
    clear hS0
    go_wp2
    go_loopw [6, 8] (fun v i wr => ∃ (j m g cap : Nat), j ≤ a.cn ∧ m ≤ np ∧ i = .int .i64 j ∧ v = .slice (some ⟨g, 0, none⟩) m cap ∧ Hid ((rnd t.cs j S0).length = m) ∧ Hid (Below w.heap.size w wr) ∧ Hid (TBx wr w.heap.size t a) ∧ Hid (OwnI wr (w.heap.size + 1) (.slice (some ⟨w.heap.size + 1, 0, none⟩) 0 0) []) ∧ Hid (OwnI wr G (.slice (some ⟨g, 0, none⟩) m cap) (rnd t.cs j S0)) ∧ Hid (G < wr.heap.size)) (fun _ i _ => a.cn - (intOf i).toNat)
    case atStart => exact ⟨0, m, g, cap, by omega, hmn, rfl, rfl, HFL.out, HBW.out, HXW.out, HOW.out, HSW.out, HGW.out⟩
    case round =>
      clear HFL HBW HXW HOW HSW HGW k15 hmn
      obtain ⟨j, m, g, cap, hj, hmn, rfl, rfl, HFL, HBW, HXW, HOW, HSW, HGW⟩ := hrel
      have k17 : wr.cell? ⟨w.heap.size, 17, none⟩ = some (.slice a.ca a.cn a.cc) := HXW.out.cell 17 rfl
      by_cases hjn : j < a.cn
      rotate_left
      · obtain rfl : j = a.cn := by omega
        have hjn' : ¬ ((a.cn : Int) < (a.cn : Int)) := by omega
        have HN : Hid (rnd t.cs a.cn S0 = its t.cs (k + 1) [p]) := by show _ = _; rw [its, HS0.out, HCL.out]
        rw [HN.out] at HFL HSW
        go_wp2
        go_roundw
        case rel => exact ⟨k + 1, m, g, cap, by omega, hmn, by go_num, rfl, HFL.out, HBW.out, HXW.out, HOW.out, HSW.out, HGW.out⟩
        case measure => simp [intOf]; omega
      have hjn' : (j : Int) < (a.cn : Int) := by omega
      obtain ⟨b1, o1, hca, hbl1, p1⟩ := HC.out.at j hjn
      replace p1 := p1.of (w' := wr) (fun i => HBW.out.cell (p := ⟨b1, i, none⟩) hbl1)
      simp only [chX] at p1
      have HNX : Hid (rnd t.cs (j + 1) S0 = stp2 (stp1 (rnd t.cs j S0) (t.cs.getD j ch0)) (t.cs.getD j ch0)) := rfl
      have HLN : Hid ((rnd t.cs (j + 1) S0).length ≤ np ∧ (stp1 (rnd t.cs j S0) (t.cs.getD j ch0)).length ≤ np) := by
        have h1 := (HGD.out (j + 1) (by omega)).len
        refine ⟨h1, ?_⟩
        rw [HNX.out] at h1
        exact Nat.le_trans (stp2_pre _ _).length_le h1
      obtain ⟨S2, HS2⟩ : ∃ S2, Hid (rnd t.cs (j + 1) S0 = S2) := ⟨_, rfl⟩
      rw [HS2.out] at HNX HLN
      generalize rnd t.cs j S0 = S at HNX HLN HFL HSW
      generalize t.cs.getD j ch0 = x at p1 HNX HLN
      obtain ⟨c0, c1, c2, c3⟩ := ch_cells p1
      obtain ⟨x1, x2, x3, x4⟩ := x
      simp only at c0 c1 c2 c3
      rw [hca] at k17
      have HRa0 : Hid ((wr.alloc (.cells #[.int .i64 x1, .int .i64 x2, .int .i64 x3, .int .i64 x4] 97)).heap[wr.heap.size]? = some (.cells #[.int .i64 x1, .int .i64 x2, .int .i64 x3, .int .i64 x4] 97 (0, 0))) := new_row wr _ _ _ rfl
      have hba : Below wr.heap.size wr (wr.alloc (.cells #[.int .i64 x1, .int .i64 x2, .int .i64 x3, .int .i64 x4] 97)) := (Below.refl _ _).alloc (Nat.le_refl _) _
      have HBa0 : Hid (Below w.heap.size w (wr.alloc (.cells #[.int .i64 x1, .int .i64 x2, .int .i64 x3, .int .i64 x4] 97))) := HBW.out.trans (hba.mono HBW.out.size)
      have HXa0 : Hid (TBx (wr.alloc (.cells #[.int .i64 x1, .int .i64 x2, .int .i64 x3, .int .i64 x4] 97)) w.heap.size t a) := HXW.out.below hba
      have HOa0 : Hid (OwnI (wr.alloc (.cells #[.int .i64 x1, .int .i64 x2, .int .i64 x3, .int .i64 x4] 97)) (w.heap.size + 1) (.slice (some ⟨w.heap.size + 1, 0, none⟩) 0 0) []) := HOW.out.below hba
      have HSa0 : Hid (OwnI (wr.alloc (.cells #[.int .i64 x1, .int .i64 x2, .int .i64 x3, .int .i64 x4] 97)) G (.slice (some ⟨g, 0, none⟩) m cap) S) := HSW.out.below hba
      have HGa0 : Hid (G < (wr.alloc (.cells #[.int .i64 x1, .int .i64 x2, .int .i64 x3, .int .i64 x4] 97)).heap.size) := Nat.lt_of_lt_of_le HGW.out hba.size
      have HNG0 : Hid (g ≠ wr.heap.size) := by
        have hh := HSW.out
        rw [← HFL.out] at hh
        have := (OwnI.holds hh).2.1
        show _ ≠ _
        omega
      have HNW0 : Hid (wr.heap.size < (wr.alloc (.cells #[.int .i64 x1, .int .i64 x2, .int .i64 x3, .int .i64 x4] 97)).heap.size) := by show _ < _; simp
      clear p1 hbl1 hba HBW HXW HOW HSW HGW
      go_wp2_with fail
      revert HRa0 HBa0 HXa0 HOa0 HSa0 HGa0 HNG0 HNW0
      generalize wr.alloc (.cells #[.int .i64 x1, .int .i64 x2, .int .i64 x3, .int .i64 x4] 97) = wa
      generalize wr.heap.size = N
      intro HR HBW HXW HOW HSW HGW HNG HNW
      clear c0 c1 c2 c3 k17
      have d1 : wa.cell? ⟨N, 1, none⟩ = some (.int .i64 x2) := row_cell HR.out _ _ rfl
      have d2 : wa.cell? ⟨N, 2, none⟩ = some (.int .i64 x3) := row_cell HR.out _ _ rfl
      obtain ⟨r1, Hr1⟩ : ∃ q, Hid (decide (x3 ∈ S) = q) := ⟨_, rfl⟩
      have HCr1 : Hid (∀ X, X = wa → Calls Tryz.prog 53 #[.slice (some ⟨g, 0, none⟩) m cap, .int .i64 x3] X fun e w' => e = .returned (.bool r1) ∧ w' = X) := fun X hX => by
        have hh := HSW.out
        rw [← HFL.out] at hh
        obtain ⟨a', cap', ee, hseg⟩ := hh.seg
        cases ee
        rw [← HFL.out]
        exact has_l _ cap S x3 r1 X (by rw [hX]; exact hseg) (by rw [HFL.out]; omega) Hr1.out
      go_wp2_with fail
      refine Calls.mono (HCr1.out _ rfl) ?_
      rintro e wwr1 ⟨rfl, hwwr1⟩
      subst hwwr1
      clear HCr1
      cases r1
      · have HE1 : Hid (stp1 S (x1, x2, x3, x4) = S) := by show _ = _; unfold stp1; rw [if_neg (fun e => of_decide_eq_false Hr1.out e.1)]
        have e0 : wwr1.cell? ⟨N, 0, none⟩ = some (.int .i64 x1) := row_cell HR.out _ _ rfl
        have e1 : wwr1.cell? ⟨N, 1, none⟩ = some (.int .i64 x2) := row_cell HR.out _ _ rfl
        have e2 : wwr1.cell? ⟨N, 2, none⟩ = some (.int .i64 x3) := row_cell HR.out _ _ rfl
        by_cases hx1 : x1 = 1
        rotate_left
        · have hb1 : (x1 == 1) = false := by simpa using hx1
          have HE2 : Hid (S2.length = m ∧ OwnI wwr1 G (.slice (some ⟨g, 0, none⟩) m cap) S2) := by
            have h : S2 = S := by rw [HNX.out, HE1.out]; unfold stp2; rw [if_neg (fun e => hx1 e.1)]
            rw [h]; exact ⟨HFL.out, HSW.out⟩
          have HL2 : Hid (m ≤ np) := by rw [← HE2.out.1]; exact HLN.out.1
          go_wp2
          go_roundw
          case rel => exact ⟨j + 1, m, g, cap, by omega, HL2.out, by go_num, rfl, (by show _ = _; rw [HS2.out]; exact HE2.out.1), HBW.out, HXW.out, HOW.out, (by show OwnI _ _ _ _; rw [HS2.out]; exact HE2.out.2), HGW.out⟩
          case measure => simp [intOf]; omega
        have hb1 : (x1 == 1) = true := by simp [hx1]
        obtain ⟨r3, Hr3⟩ : ∃ q, Hid (decide (x2 ∈ S) = q) := ⟨_, rfl⟩
        have HCr3 : Hid (∀ X, X = wwr1 → Calls Tryz.prog 53 #[.slice (some ⟨g, 0, none⟩) m cap, .int .i64 x2] X fun e w' => e = .returned (.bool r3) ∧ w' = X) := fun X hX => by
          have hh := HSW.out
          rw [← HFL.out] at hh
          obtain ⟨a', cap', ee, hseg⟩ := hh.seg
          cases ee
          rw [← HFL.out]
          exact has_l _ cap S x2 r3 X (by rw [hX]; exact hseg) (by rw [HFL.out]; omega) Hr3.out
        go_wp2_with fail
        refine Calls.mono (HCr3.out _ rfl) ?_
        rintro e wwr3 ⟨rfl, hwwr3⟩
        subst hwwr3
        clear HCr3
        cases r3
        · have HE2 : Hid (S2.length = m ∧ OwnI wwr3 G (.slice (some ⟨g, 0, none⟩) m cap) S2) := by
            have h : S2 = S := by rw [HNX.out, HE1.out]; unfold stp2; rw [if_neg (fun e => of_decide_eq_false Hr3.out e.2.1)]
            rw [h]; exact ⟨HFL.out, HSW.out⟩
          have HL2 : Hid (m ≤ np) := by rw [← HE2.out.1]; exact HLN.out.1
          go_wp2
          go_roundw
          case rel => exact ⟨j + 1, m, g, cap, by omega, HL2.out, by go_num, rfl, (by show _ = _; rw [HS2.out]; exact HE2.out.1), HBW.out, HXW.out, HOW.out, (by show OwnI _ _ _ _; rw [HS2.out]; exact HE2.out.2), HGW.out⟩
          case measure => simp [intOf]; omega
        obtain ⟨r4, Hr4⟩ : ∃ q, Hid (decide (x3 ∈ S) = q) := ⟨_, rfl⟩
        have HCr4 : Hid (∀ X, X = wwr3 → Calls Tryz.prog 53 #[.slice (some ⟨g, 0, none⟩) m cap, .int .i64 x3] X fun e w' => e = .returned (.bool r4) ∧ w' = X) := fun X hX => by
          have hh := HSW.out
          rw [← HFL.out] at hh
          obtain ⟨a', cap', ee, hseg⟩ := hh.seg
          cases ee
          rw [← HFL.out]
          exact has_l _ cap S x3 r4 X (by rw [hX]; exact hseg) (by rw [HFL.out]; omega) Hr4.out
        go_wp2_with fail
        refine Calls.mono (HCr4.out _ rfl) ?_
        rintro e wwr4 ⟨rfl, hwwr4⟩
        subst hwwr4
        clear HCr4
        cases r4
        rotate_left
        · have HE2 : Hid (S2.length = m ∧ OwnI wwr4 G (.slice (some ⟨g, 0, none⟩) m cap) S2) := by
            have h : S2 = S := by rw [HNX.out, HE1.out]; unfold stp2; rw [if_neg (fun e => e.2.2 (of_decide_eq_true Hr4.out))]
            rw [h]; exact ⟨HFL.out, HSW.out⟩
          have HL2 : Hid (m ≤ np) := by rw [← HE2.out.1]; exact HLN.out.1
          go_wp2
          go_roundw
          case rel => exact ⟨j + 1, m, g, cap, by omega, HL2.out, by go_num, rfl, (by show _ = _; rw [HS2.out]; exact HE2.out.1), HBW.out, HXW.out, HOW.out, (by show OwnI _ _ _ _; rw [HS2.out]; exact HE2.out.2), HGW.out⟩
          case measure => simp [intOf]; omega
        have HLB : Hid (S.length + 1 ≤ np) := by
          have h : S2 = S ++ [x3] := by rw [HNX.out, HE1.out]; unfold stp2; rw [if_pos ⟨hx1, of_decide_eq_true Hr3.out, of_decide_eq_false Hr4.out⟩]
          have h2 := HLN.out.1
          rw [h] at h2
          show _ ≤ _
          simpa using h2
        have hlb : m + 1 ≤ np := by have := HLB.out; rw [HFL.out] at this; exact this
        have HBSt1 : Hid (G ≤ wwr4.heap.size) := Nat.le_of_lt HGW.out
        have halt1 : Below wwr4.heap.size wwr4 (wwr4.alloc (.cells #[.int .i64 x3] 3)) := (Below.refl _ _).alloc (Nat.le_refl _) _
        have hownt1 : (wwr4.alloc (.cells #[.int .i64 x3] 3)).ownsRow G 3 1 (.slice (some ⟨g, 0, none⟩) m cap) m (S.map (Value.int .i64)) := by
          have := OwnI.below HSW.out halt1
          unfold OwnI at this
          rw [HFL.out] at this
          exact this
        have hlowt1 := ownI_low HSW.out
        have HZt1 : Hid (∀ (gg cap1 : Nat) (w9 : World), w9.ownsRow G 3 1 (.slice (some ⟨gg, 0, none⟩) (m + 1) cap1) (m + 1) (S.map (Value.int .i64) ++ [.int .i64 x3]) → (wwr4.alloc (.cells #[.int .i64 x3] 3)).grownBy w9 (Value.slice (some ⟨g, 0, none⟩) m cap).ownBlock → ((Value.slice (some ⟨g, 0, none⟩) m cap).ownBlock = some gg ∨ gg = (wwr4.alloc (.cells #[.int .i64 x3] 3)).heap.size) → OwnI w9 G (.slice (some ⟨gg, 0, none⟩) (m + 1) cap1) (S ++ [x3]) ∧ Below w.heap.size w w9 ∧ TBx w9 w.heap.size t a ∧ OwnI w9 (w.heap.size + 1) (.slice (some ⟨w.heap.size + 1, 0, none⟩) 0 0) [] ∧ G < w9.heap.size) := fun gg cap1 w9 h1 h2 h3 => by
          have h1' : OwnI w9 G (.slice (some ⟨gg, 0, none⟩) (m + 1) cap1) (S ++ [x3]) := by
            rw [← HFL.out] at h1 ⊢
            exact OwnI.snoc h1
          have hrow : ∀ k, (Value.slice (some ⟨g, 0, none⟩) m cap).ownBlock = some k → k = g := fun k e => by simpa [Value.ownBlock, eq_comm] using e
          have hbz := HBW.out.trans (halt1.mono HBW.out.size)
          have hGW := HGW.out
          have hgl := fun k e => (hlowt1 k e : G ≤ k)
          have hB : w9.heap[w.heap.size]? = (wwr4.alloc (.cells #[.int .i64 x3] 3)).heap[w.heap.size]? := h2.block w.heap.size (Nat.lt_of_lt_of_le (by omega) halt1.size) (fun e => by have := hgl _ e.symm; omega)
          exact ⟨h1', Below.grown hbz h2 hbz.size (fun g' e => by have := hgl g' e; omega), hB.trans (HXW.out.below halt1), (HOW.out.below halt1).kept h2 (fun g' e1 e2 => by have h5 : g' = w.heap.size + 1 := (by simpa [Value.ownBlock, eq_comm] using e1); have := hgl _ e2; omega), Nat.lt_of_lt_of_le hGW (Nat.le_trans halt1.size h2.size)⟩
        have hbst1 : G ≤ wwr4.heap.size := HBSt1.out
        clear halt1 hlowt1 HBW HXW HOW HSW HGW
        go_wp2_with (first | (at_builtin; (refine wpList_append_lies _ rfl (.tmp 78) (.tmp 81) 27 rfl (G) 3 ii (.int .i64 0) 1 8 Tryz.underlying27 HII.out.1 HII.out.2.1 HII.out.2.2.1 HII.out.2.2.2 rfl (by omega) _ _ _ rfl hownt1 _ 1 1 [.int .i64 x3] rfl rfl (newsI_int _ _ _ (by simp)) (oneI_int _) (by omega) (by unfold maxLen; omega) (by omega) (by simp; omega) _ rfl ?_; intro gg cap1 w9 hown1 hgrow hat hlt1; have HY : Hid _ := HZt1.out gg cap1 w9 hown1 hgrow hat; clear hown1 hgrow hat hlt1)) | fail)
        have HE2 : Hid (S2.length = m + 1 ∧ OwnI w9 G (.slice (some ⟨gg, 0, none⟩) (m + 1) cap1) S2) := by
          have h : S2 = S ++ [x3] := by rw [HNX.out, HE1.out]; unfold stp2; rw [if_pos ⟨hx1, of_decide_eq_true Hr3.out, of_decide_eq_false Hr4.out⟩]
          rw [h]; exact ⟨by rw [← HFL.out]; simp, HY.out.1⟩
        go_roundw
        case rel => exact ⟨j + 1, m + 1, gg, cap1, by omega, hlb, by go_num, rfl, (by show _ = _; rw [HS2.out]; exact HE2.out.1), HY.out.2.1, HY.out.2.2.1, HY.out.2.2.2.1, (by show OwnI _ _ _ _; rw [HS2.out]; exact HE2.out.2), HY.out.2.2.2.2⟩
        case measure => simp [intOf]; omega
      obtain ⟨r2, Hr2⟩ : ∃ q, Hid (decide (x2 ∈ S) = q) := ⟨_, rfl⟩
      have HCr2 : Hid (∀ X, X = wwr1 → Calls Tryz.prog 53 #[.slice (some ⟨g, 0, none⟩) m cap, .int .i64 x2] X fun e w' => e = .returned (.bool r2) ∧ w' = X) := fun X hX => by
        have hh := HSW.out
        rw [← HFL.out] at hh
        obtain ⟨a', cap', ee, hseg⟩ := hh.seg
        cases ee
        rw [← HFL.out]
        exact has_l _ cap S x2 r2 X (by rw [hX]; exact hseg) (by rw [HFL.out]; omega) Hr2.out
      go_wp2_with fail
      refine Calls.mono (HCr2.out _ rfl) ?_
      rintro e wwr2 ⟨rfl, hwwr2⟩
      subst hwwr2
      clear HCr2
      cases r2
      rotate_left
      · have HE1 : Hid (stp1 S (x1, x2, x3, x4) = S) := by show _ = _; unfold stp1; rw [if_neg (fun e => e.2 (of_decide_eq_true Hr2.out))]
        have e0 : wwr2.cell? ⟨N, 0, none⟩ = some (.int .i64 x1) := row_cell HR.out _ _ rfl
        have e1 : wwr2.cell? ⟨N, 1, none⟩ = some (.int .i64 x2) := row_cell HR.out _ _ rfl
        have e2 : wwr2.cell? ⟨N, 2, none⟩ = some (.int .i64 x3) := row_cell HR.out _ _ rfl
        by_cases hx1 : x1 = 1
        rotate_left
        · have hb1 : (x1 == 1) = false := by simpa using hx1
          have HE2 : Hid (S2.length = m ∧ OwnI wwr2 G (.slice (some ⟨g, 0, none⟩) m cap) S2) := by
            have h : S2 = S := by rw [HNX.out, HE1.out]; unfold stp2; rw [if_neg (fun e => hx1 e.1)]
            rw [h]; exact ⟨HFL.out, HSW.out⟩
          have HL2 : Hid (m ≤ np) := by rw [← HE2.out.1]; exact HLN.out.1
          go_wp2
          go_roundw
          case rel => exact ⟨j + 1, m, g, cap, by omega, HL2.out, by go_num, rfl, (by show _ = _; rw [HS2.out]; exact HE2.out.1), HBW.out, HXW.out, HOW.out, (by show OwnI _ _ _ _; rw [HS2.out]; exact HE2.out.2), HGW.out⟩
          case measure => simp [intOf]; omega
        have hb1 : (x1 == 1) = true := by simp [hx1]
        obtain ⟨r3, Hr3⟩ : ∃ q, Hid (decide (x2 ∈ S) = q) := ⟨_, rfl⟩
        have HCr3 : Hid (∀ X, X = wwr2 → Calls Tryz.prog 53 #[.slice (some ⟨g, 0, none⟩) m cap, .int .i64 x2] X fun e w' => e = .returned (.bool r3) ∧ w' = X) := fun X hX => by
          have hh := HSW.out
          rw [← HFL.out] at hh
          obtain ⟨a', cap', ee, hseg⟩ := hh.seg
          cases ee
          rw [← HFL.out]
          exact has_l _ cap S x2 r3 X (by rw [hX]; exact hseg) (by rw [HFL.out]; omega) Hr3.out
        go_wp2_with fail
        refine Calls.mono (HCr3.out _ rfl) ?_
        rintro e wwr3 ⟨rfl, hwwr3⟩
        subst hwwr3
        clear HCr3
        cases r3
        · have HE2 : Hid (S2.length = m ∧ OwnI wwr3 G (.slice (some ⟨g, 0, none⟩) m cap) S2) := by
            have h : S2 = S := by rw [HNX.out, HE1.out]; unfold stp2; rw [if_neg (fun e => of_decide_eq_false Hr3.out e.2.1)]
            rw [h]; exact ⟨HFL.out, HSW.out⟩
          have HL2 : Hid (m ≤ np) := by rw [← HE2.out.1]; exact HLN.out.1
          go_wp2
          go_roundw
          case rel => exact ⟨j + 1, m, g, cap, by omega, HL2.out, by go_num, rfl, (by show _ = _; rw [HS2.out]; exact HE2.out.1), HBW.out, HXW.out, HOW.out, (by show OwnI _ _ _ _; rw [HS2.out]; exact HE2.out.2), HGW.out⟩
          case measure => simp [intOf]; omega
        obtain ⟨r4, Hr4⟩ : ∃ q, Hid (decide (x3 ∈ S) = q) := ⟨_, rfl⟩
        have HCr4 : Hid (∀ X, X = wwr3 → Calls Tryz.prog 53 #[.slice (some ⟨g, 0, none⟩) m cap, .int .i64 x3] X fun e w' => e = .returned (.bool r4) ∧ w' = X) := fun X hX => by
          have hh := HSW.out
          rw [← HFL.out] at hh
          obtain ⟨a', cap', ee, hseg⟩ := hh.seg
          cases ee
          rw [← HFL.out]
          exact has_l _ cap S x3 r4 X (by rw [hX]; exact hseg) (by rw [HFL.out]; omega) Hr4.out
        go_wp2_with fail
        refine Calls.mono (HCr4.out _ rfl) ?_
        rintro e wwr4 ⟨rfl, hwwr4⟩
        subst hwwr4
        clear HCr4
        cases r4
        rotate_left
        · have HE2 : Hid (S2.length = m ∧ OwnI wwr4 G (.slice (some ⟨g, 0, none⟩) m cap) S2) := by
            have h : S2 = S := by rw [HNX.out, HE1.out]; unfold stp2; rw [if_neg (fun e => e.2.2 (of_decide_eq_true Hr4.out))]
            rw [h]; exact ⟨HFL.out, HSW.out⟩
          have HL2 : Hid (m ≤ np) := by rw [← HE2.out.1]; exact HLN.out.1
          go_wp2
          go_roundw
          case rel => exact ⟨j + 1, m, g, cap, by omega, HL2.out, by go_num, rfl, (by show _ = _; rw [HS2.out]; exact HE2.out.1), HBW.out, HXW.out, HOW.out, (by show OwnI _ _ _ _; rw [HS2.out]; exact HE2.out.2), HGW.out⟩
          case measure => simp [intOf]; omega
        have HLB : Hid (S.length + 1 ≤ np) := by
          have h : S2 = S ++ [x3] := by rw [HNX.out, HE1.out]; unfold stp2; rw [if_pos ⟨hx1, of_decide_eq_true Hr3.out, of_decide_eq_false Hr4.out⟩]
          have h2 := HLN.out.1
          rw [h] at h2
          show _ ≤ _
          simpa using h2
        have hlb : m + 1 ≤ np := by have := HLB.out; rw [HFL.out] at this; exact this
        have HBSt2 : Hid (G ≤ wwr4.heap.size) := Nat.le_of_lt HGW.out
        have halt2 : Below wwr4.heap.size wwr4 (wwr4.alloc (.cells #[.int .i64 x3] 3)) := (Below.refl _ _).alloc (Nat.le_refl _) _
        have hownt2 : (wwr4.alloc (.cells #[.int .i64 x3] 3)).ownsRow G 3 1 (.slice (some ⟨g, 0, none⟩) m cap) m (S.map (Value.int .i64)) := by
          have := OwnI.below HSW.out halt2
          unfold OwnI at this
          rw [HFL.out] at this
          exact this
        have hlowt2 := ownI_low HSW.out
        have HZt2 : Hid (∀ (gg cap1 : Nat) (w9 : World), w9.ownsRow G 3 1 (.slice (some ⟨gg, 0, none⟩) (m + 1) cap1) (m + 1) (S.map (Value.int .i64) ++ [.int .i64 x3]) → (wwr4.alloc (.cells #[.int .i64 x3] 3)).grownBy w9 (Value.slice (some ⟨g, 0, none⟩) m cap).ownBlock → ((Value.slice (some ⟨g, 0, none⟩) m cap).ownBlock = some gg ∨ gg = (wwr4.alloc (.cells #[.int .i64 x3] 3)).heap.size) → OwnI w9 G (.slice (some ⟨gg, 0, none⟩) (m + 1) cap1) (S ++ [x3]) ∧ Below w.heap.size w w9 ∧ TBx w9 w.heap.size t a ∧ OwnI w9 (w.heap.size + 1) (.slice (some ⟨w.heap.size + 1, 0, none⟩) 0 0) [] ∧ G < w9.heap.size) := fun gg cap1 w9 h1 h2 h3 => by
          have h1' : OwnI w9 G (.slice (some ⟨gg, 0, none⟩) (m + 1) cap1) (S ++ [x3]) := by
            rw [← HFL.out] at h1 ⊢
            exact OwnI.snoc h1
          have hrow : ∀ k, (Value.slice (some ⟨g, 0, none⟩) m cap).ownBlock = some k → k = g := fun k e => by simpa [Value.ownBlock, eq_comm] using e
          have hbz := HBW.out.trans (halt2.mono HBW.out.size)
          have hGW := HGW.out
          have hgl := fun k e => (hlowt2 k e : G ≤ k)
          have hB : w9.heap[w.heap.size]? = (wwr4.alloc (.cells #[.int .i64 x3] 3)).heap[w.heap.size]? := h2.block w.heap.size (Nat.lt_of_lt_of_le (by omega) halt2.size) (fun e => by have := hgl _ e.symm; omega)
          exact ⟨h1', Below.grown hbz h2 hbz.size (fun g' e => by have := hgl g' e; omega), hB.trans (HXW.out.below halt2), (HOW.out.below halt2).kept h2 (fun g' e1 e2 => by have h5 : g' = w.heap.size + 1 := (by simpa [Value.ownBlock, eq_comm] using e1); have := hgl _ e2; omega), Nat.lt_of_lt_of_le hGW (Nat.le_trans halt2.size h2.size)⟩
        have hbst2 : G ≤ wwr4.heap.size := HBSt2.out
        clear halt2 hlowt2 HBW HXW HOW HSW HGW
        go_wp2_with (first | (at_builtin; (refine wpList_append_lies _ rfl (.tmp 78) (.tmp 81) 27 rfl (G) 3 ii (.int .i64 0) 1 8 Tryz.underlying27 HII.out.1 HII.out.2.1 HII.out.2.2.1 HII.out.2.2.2 rfl (by omega) _ _ _ rfl hownt2 _ 1 1 [.int .i64 x3] rfl rfl (newsI_int _ _ _ (by simp)) (oneI_int _) (by omega) (by unfold maxLen; omega) (by omega) (by simp; omega) _ rfl ?_; intro gg cap1 w9 hown1 hgrow hat hlt1; have HY : Hid _ := HZt2.out gg cap1 w9 hown1 hgrow hat; clear hown1 hgrow hat hlt1)) | fail)
        have HE2 : Hid (S2.length = m + 1 ∧ OwnI w9 G (.slice (some ⟨gg, 0, none⟩) (m + 1) cap1) S2) := by
          have h : S2 = S ++ [x3] := by rw [HNX.out, HE1.out]; unfold stp2; rw [if_pos ⟨hx1, of_decide_eq_true Hr3.out, of_decide_eq_false Hr4.out⟩]
          rw [h]; exact ⟨by rw [← HFL.out]; simp, HY.out.1⟩
        go_roundw
        case rel => exact ⟨j + 1, m + 1, gg, cap1, by omega, hlb, by go_num, rfl, (by show _ = _; rw [HS2.out]; exact HE2.out.1), HY.out.2.1, HY.out.2.2.1, HY.out.2.2.2.1, (by show OwnI _ _ _ _; rw [HS2.out]; exact HE2.out.2), HY.out.2.2.2.2⟩
        case measure => simp [intOf]; omega
      have HE1 : Hid (stp1 S (x1, x2, x3, x4) = S ++ [x2]) := by show _ = _; unfold stp1; rw [if_pos ⟨of_decide_eq_true Hr1.out, of_decide_eq_false Hr2.out⟩]
      have hla : m + 1 ≤ np := by
        have h2 := HLN.out.2
        rw [HE1.out] at h2
        have h3 := HFL.out
        simp at h2
        omega
      have HBSt0 : Hid (G ≤ wwr2.heap.size) := Nat.le_of_lt HGW.out
      by_cases hx1 : x1 = 1
      rotate_left
      · have hb1 : (x1 == 1) = false := by simpa using hx1
        have halt0 : Below wwr2.heap.size wwr2 (wwr2.alloc (.cells #[.int .i64 x2] 3)) := (Below.refl _ _).alloc (Nat.le_refl _) _
        have hownt0 : (wwr2.alloc (.cells #[.int .i64 x2] 3)).ownsRow G 3 1 (.slice (some ⟨g, 0, none⟩) m cap) m (S.map (Value.int .i64)) := by
          have := OwnI.below HSW.out halt0
          unfold OwnI at this
          rw [HFL.out] at this
          exact this
        have hlowt0 := ownI_low HSW.out
        have HZt0 : Hid (∀ (gg cap1 : Nat) (w9 : World), w9.ownsRow G 3 1 (.slice (some ⟨gg, 0, none⟩) (m + 1) cap1) (m + 1) (S.map (Value.int .i64) ++ [.int .i64 x2]) → (wwr2.alloc (.cells #[.int .i64 x2] 3)).grownBy w9 (Value.slice (some ⟨g, 0, none⟩) m cap).ownBlock → ((Value.slice (some ⟨g, 0, none⟩) m cap).ownBlock = some gg ∨ gg = (wwr2.alloc (.cells #[.int .i64 x2] 3)).heap.size) → OwnI w9 G (.slice (some ⟨gg, 0, none⟩) (m + 1) cap1) (S ++ [x2]) ∧ Below w.heap.size w w9 ∧ TBx w9 w.heap.size t a ∧ OwnI w9 (w.heap.size + 1) (.slice (some ⟨w.heap.size + 1, 0, none⟩) 0 0) [] ∧ G < w9.heap.size ∧ w9.heap[N]? = some (.cells #[.int .i64 x1, .int .i64 x2, .int .i64 x3, .int .i64 x4] 97 (0, 0)) ∧ N < w9.heap.size ∧ gg ≠ N) := fun gg cap1 w9 h1 h2 h3 => by
          have h1' : OwnI w9 G (.slice (some ⟨gg, 0, none⟩) (m + 1) cap1) (S ++ [x2]) := by
            rw [← HFL.out] at h1 ⊢
            exact OwnI.snoc h1
          have hrow : ∀ k, (Value.slice (some ⟨g, 0, none⟩) m cap).ownBlock = some k → k = g := fun k e => by simpa [Value.ownBlock, eq_comm] using e
          have hbz := HBW.out.trans (halt0.mono HBW.out.size)
          have hGW := HGW.out
          have hgl := fun k e => (hlowt0 k e : G ≤ k)
          have hB : w9.heap[w.heap.size]? = (wwr2.alloc (.cells #[.int .i64 x2] 3)).heap[w.heap.size]? := h2.block w.heap.size (Nat.lt_of_lt_of_le (by omega) halt0.size) (fun e => by have := hgl _ e.symm; omega)
          have hN : w9.heap[N]? = (wwr2.alloc (.cells #[.int .i64 x2] 3)).heap[N]? := h2.block N (Nat.lt_of_lt_of_le (HNW.out) halt0.size) (fun e => by have := hrow _ e.symm; have := HNG.out; omega)
          exact ⟨h1', Below.grown hbz h2 hbz.size (fun g' e => by have := hgl g' e; omega), hB.trans (HXW.out.below halt0), (HOW.out.below halt0).kept h2 (fun g' e1 e2 => by have h5 : g' = w.heap.size + 1 := (by simpa [Value.ownBlock, eq_comm] using e1); have := hgl _ e2; omega), Nat.lt_of_lt_of_le hGW (Nat.le_trans halt0.size h2.size), hN.trans (row_below HR.out halt0), Nat.lt_of_lt_of_le HNW.out (Nat.le_trans halt0.size h2.size), (by
            rcases h3 with h3 | h3
            · have := hrow _ h3; have := HNG.out; omega
            · have h4 := HNW.out; have h6 := halt0.size; omega)⟩
        have hbst0 : G ≤ wwr2.heap.size := HBSt0.out
        clear halt0 hlowt0 HBW HXW HOW HSW HGW HR HNG HNW
        go_wp2_with (first | (at_builtin; (refine wpList_append_lies _ rfl (.tmp 57) (.tmp 60) 27 rfl (G) 3 ii (.int .i64 0) 1 8 Tryz.underlying27 HII.out.1 HII.out.2.1 HII.out.2.2.1 HII.out.2.2.2 rfl (by omega) _ _ _ rfl hownt0 _ 1 1 [.int .i64 x2] rfl rfl (newsI_int _ _ _ (by simp)) (oneI_int _) (by omega) (by unfold maxLen; omega) (by omega) (by simp; omega) _ rfl ?_; intro gg cap1 w9 hown1 hgrow hat hlt1; have HY : Hid _ := HZt0.out gg cap1 w9 hown1 hgrow hat; clear hown1 hgrow hat hlt1; have e0 : w9.cell? ⟨N, 0, none⟩ = some (.int .i64 x1) := row_cell HY.out.2.2.2.2.2.1 _ _ rfl)) | fail)
        have HFLn : Hid ((S ++ [x2]).length = m + 1) := by show _ = _; rw [← HFL.out]; simp
        have HSWn : Hid (OwnI w9 G (.slice (some ⟨gg, 0, none⟩) (m + 1) cap1) (S ++ [x2])) := HY.out.1
        have HBWn : Hid (Below w.heap.size w w9) := HY.out.2.1
        have HXWn : Hid (TBx w9 w.heap.size t a) := HY.out.2.2.1
        have HOWn : Hid (OwnI w9 (w.heap.size + 1) (.slice (some ⟨w.heap.size + 1, 0, none⟩) 0 0) []) := HY.out.2.2.2.1
        have HGWn : Hid (G < w9.heap.size) := HY.out.2.2.2.2.1
        clear HY d1 d2
        have HE2 : Hid (S2.length = (m + 1) ∧ OwnI w9 G (.slice (some ⟨gg, 0, none⟩) (m + 1) cap1) S2) := by
          have h : S2 = (S ++ [x2]) := by rw [HNX.out, HE1.out]; unfold stp2; rw [if_neg (fun e => hx1 e.1)]
          rw [h]; exact ⟨HFLn.out, HSWn.out⟩
        have HL2 : Hid ((m + 1) ≤ np) := by rw [← HE2.out.1]; exact HLN.out.1
        go_roundw
        case rel => exact ⟨j + 1, (m + 1), gg, cap1, by omega, HL2.out, by go_num, rfl, (by show _ = _; rw [HS2.out]; exact HE2.out.1), HBWn.out, HXWn.out, HOWn.out, (by show OwnI _ _ _ _; rw [HS2.out]; exact HE2.out.2), HGWn.out⟩
        case measure => simp [intOf]; omega
      have hb1 : (x1 == 1) = true := by simp [hx1]
      have halt0 : Below wwr2.heap.size wwr2 (wwr2.alloc (.cells #[.int .i64 x2] 3)) := (Below.refl _ _).alloc (Nat.le_refl _) _
      have hownt0 : (wwr2.alloc (.cells #[.int .i64 x2] 3)).ownsRow G 3 1 (.slice (some ⟨g, 0, none⟩) m cap) m (S.map (Value.int .i64)) := by
        have := OwnI.below HSW.out halt0
        unfold OwnI at this
        rw [HFL.out] at this
        exact this
      have hlowt0 := ownI_low HSW.out
      have HZt0 : Hid (∀ (gg cap1 : Nat) (w9 : World), w9.ownsRow G 3 1 (.slice (some ⟨gg, 0, none⟩) (m + 1) cap1) (m + 1) (S.map (Value.int .i64) ++ [.int .i64 x2]) → (wwr2.alloc (.cells #[.int .i64 x2] 3)).grownBy w9 (Value.slice (some ⟨g, 0, none⟩) m cap).ownBlock → ((Value.slice (some ⟨g, 0, none⟩) m cap).ownBlock = some gg ∨ gg = (wwr2.alloc (.cells #[.int .i64 x2] 3)).heap.size) → OwnI w9 G (.slice (some ⟨gg, 0, none⟩) (m + 1) cap1) (S ++ [x2]) ∧ Below w.heap.size w w9 ∧ TBx w9 w.heap.size t a ∧ OwnI w9 (w.heap.size + 1) (.slice (some ⟨w.heap.size + 1, 0, none⟩) 0 0) [] ∧ G < w9.heap.size ∧ w9.heap[N]? = some (.cells #[.int .i64 x1, .int .i64 x2, .int .i64 x3, .int .i64 x4] 97 (0, 0)) ∧ N < w9.heap.size ∧ gg ≠ N) := fun gg cap1 w9 h1 h2 h3 => by
        have h1' : OwnI w9 G (.slice (some ⟨gg, 0, none⟩) (m + 1) cap1) (S ++ [x2]) := by
          rw [← HFL.out] at h1 ⊢
          exact OwnI.snoc h1
        have hrow : ∀ k, (Value.slice (some ⟨g, 0, none⟩) m cap).ownBlock = some k → k = g := fun k e => by simpa [Value.ownBlock, eq_comm] using e
        have hbz := HBW.out.trans (halt0.mono HBW.out.size)
        have hGW := HGW.out
        have hgl := fun k e => (hlowt0 k e : G ≤ k)
        have hB : w9.heap[w.heap.size]? = (wwr2.alloc (.cells #[.int .i64 x2] 3)).heap[w.heap.size]? := h2.block w.heap.size (Nat.lt_of_lt_of_le (by omega) halt0.size) (fun e => by have := hgl _ e.symm; omega)
        have hN : w9.heap[N]? = (wwr2.alloc (.cells #[.int .i64 x2] 3)).heap[N]? := h2.block N (Nat.lt_of_lt_of_le (HNW.out) halt0.size) (fun e => by have := hrow _ e.symm; have := HNG.out; omega)
        exact ⟨h1', Below.grown hbz h2 hbz.size (fun g' e => by have := hgl g' e; omega), hB.trans (HXW.out.below halt0), (HOW.out.below halt0).kept h2 (fun g' e1 e2 => by have h5 : g' = w.heap.size + 1 := (by simpa [Value.ownBlock, eq_comm] using e1); have := hgl _ e2; omega), Nat.lt_of_lt_of_le hGW (Nat.le_trans halt0.size h2.size), hN.trans (row_below HR.out halt0), Nat.lt_of_lt_of_le HNW.out (Nat.le_trans halt0.size h2.size), (by
          rcases h3 with h3 | h3
          · have := hrow _ h3; have := HNG.out; omega
          · have h4 := HNW.out; have h6 := halt0.size; omega)⟩
      have hbst0 : G ≤ wwr2.heap.size := HBSt0.out
      clear halt0 hlowt0 HBW HXW HOW HSW HGW HR HNG HNW
      go_wp2_with (first | (at_builtin; (refine wpList_append_lies _ rfl (.tmp 57) (.tmp 60) 27 rfl (G) 3 ii (.int .i64 0) 1 8 Tryz.underlying27 HII.out.1 HII.out.2.1 HII.out.2.2.1 HII.out.2.2.2 rfl (by omega) _ _ _ rfl hownt0 _ 1 1 [.int .i64 x2] rfl rfl (newsI_int _ _ _ (by simp)) (oneI_int _) (by omega) (by unfold maxLen; omega) (by omega) (by simp; omega) _ rfl ?_; intro gg cap1 w9 hown1 hgrow hat hlt1; have HY : Hid _ := HZt0.out gg cap1 w9 hown1 hgrow hat; clear hown1 hgrow hat hlt1; have e0 : w9.cell? ⟨N, 0, none⟩ = some (.int .i64 x1) := row_cell HY.out.2.2.2.2.2.1 _ _ rfl; have e1 : w9.cell? ⟨N, 1, none⟩ = some (.int .i64 x2) := row_cell HY.out.2.2.2.2.2.1 _ _ rfl; have e2 : w9.cell? ⟨N, 2, none⟩ = some (.int .i64 x3) := row_cell HY.out.2.2.2.2.2.1 _ _ rfl)) | fail)
      have HFLn : Hid ((S ++ [x2]).length = m + 1) := by show _ = _; rw [← HFL.out]; simp
      have HSWn : Hid (OwnI w9 G (.slice (some ⟨gg, 0, none⟩) (m + 1) cap1) (S ++ [x2])) := HY.out.1
      have HBWn : Hid (Below w.heap.size w w9) := HY.out.2.1
      have HXWn : Hid (TBx w9 w.heap.size t a) := HY.out.2.2.1
      have HOWn : Hid (OwnI w9 (w.heap.size + 1) (.slice (some ⟨w.heap.size + 1, 0, none⟩) 0 0) []) := HY.out.2.2.2.1
      have HGWn : Hid (G < w9.heap.size) := HY.out.2.2.2.2.1
      clear HY d1 d2
      obtain ⟨r3, Hr3⟩ : ∃ q, Hid (decide (x2 ∈ (S ++ [x2])) = q) := ⟨_, rfl⟩
      have HCr3 : Hid (∀ X, X = w9 → Calls Tryz.prog 53 #[.slice (some ⟨gg, 0, none⟩) (m + 1) cap1, .int .i64 x2] X fun e w' => e = .returned (.bool r3) ∧ w' = X) := fun X hX => by
        have hh := HSWn.out
        rw [← HFLn.out] at hh
        obtain ⟨a', cap', ee, hseg⟩ := hh.seg
        cases ee
        rw [← HFLn.out]
        exact has_l _ cap1 (S ++ [x2]) x2 r3 X (by rw [hX]; exact hseg) (by rw [HFLn.out]; omega) Hr3.out
      refine Calls.mono (HCr3.out _ rfl) ?_
      rintro e wwr3 ⟨rfl, hwwr3⟩
      subst hwwr3
      clear HCr3
      cases r3
      · have HE2 : Hid (S2.length = (m + 1) ∧ OwnI wwr3 G (.slice (some ⟨gg, 0, none⟩) (m + 1) cap1) S2) := by
          have h : S2 = (S ++ [x2]) := by rw [HNX.out, HE1.out]; unfold stp2; rw [if_neg (fun e => of_decide_eq_false Hr3.out e.2.1)]
          rw [h]; exact ⟨HFLn.out, HSWn.out⟩
        have HL2 : Hid ((m + 1) ≤ np) := by rw [← HE2.out.1]; exact HLN.out.1
        go_wp2
        go_roundw
        case rel => exact ⟨j + 1, (m + 1), gg, cap1, by omega, HL2.out, by go_num, rfl, (by show _ = _; rw [HS2.out]; exact HE2.out.1), HBWn.out, HXWn.out, HOWn.out, (by show OwnI _ _ _ _; rw [HS2.out]; exact HE2.out.2), HGWn.out⟩
        case measure => simp [intOf]; omega
      obtain ⟨r4, Hr4⟩ : ∃ q, Hid (decide (x3 ∈ (S ++ [x2])) = q) := ⟨_, rfl⟩
      have HCr4 : Hid (∀ X, X = wwr3 → Calls Tryz.prog 53 #[.slice (some ⟨gg, 0, none⟩) (m + 1) cap1, .int .i64 x3] X fun e w' => e = .returned (.bool r4) ∧ w' = X) := fun X hX => by
        have hh := HSWn.out
        rw [← HFLn.out] at hh
        obtain ⟨a', cap', ee, hseg⟩ := hh.seg
        cases ee
        rw [← HFLn.out]
        exact has_l _ cap1 (S ++ [x2]) x3 r4 X (by rw [hX]; exact hseg) (by rw [HFLn.out]; omega) Hr4.out
      go_wp2_with fail
      refine Calls.mono (HCr4.out _ rfl) ?_
      rintro e wwr4 ⟨rfl, hwwr4⟩
      subst hwwr4
      clear HCr4
      cases r4
      rotate_left
      · have HE2 : Hid (S2.length = (m + 1) ∧ OwnI wwr4 G (.slice (some ⟨gg, 0, none⟩) (m + 1) cap1) S2) := by
          have h : S2 = (S ++ [x2]) := by rw [HNX.out, HE1.out]; unfold stp2; rw [if_neg (fun e => e.2.2 (of_decide_eq_true Hr4.out))]
          rw [h]; exact ⟨HFLn.out, HSWn.out⟩
        have HL2 : Hid ((m + 1) ≤ np) := by rw [← HE2.out.1]; exact HLN.out.1
        go_wp2
        go_roundw
        case rel => exact ⟨j + 1, (m + 1), gg, cap1, by omega, HL2.out, by go_num, rfl, (by show _ = _; rw [HS2.out]; exact HE2.out.1), HBWn.out, HXWn.out, HOWn.out, (by show OwnI _ _ _ _; rw [HS2.out]; exact HE2.out.2), HGWn.out⟩
        case measure => simp [intOf]; omega
      exact absurd (List.mem_append.2 (.inl (of_decide_eq_true Hr1.out))) (of_decide_eq_false Hr4.out)
end Go.Proofs.YtgmhcngdgfhhaaaGreatDoor
