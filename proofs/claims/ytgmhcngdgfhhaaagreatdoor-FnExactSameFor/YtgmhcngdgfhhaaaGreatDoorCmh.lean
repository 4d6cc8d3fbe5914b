
/-
  The commands that matter for a partition: the specification's CmdsFor. Conditions: the lists lie in memory.
-/
import Derived.Test.YtgmhcngdgfhhaaaGreatDoorBas
import Derived.Test.YtgmhcngdgfhhaaaGreatDoorCmg
namespace Go.Proofs.YtgmhcngdgfhhaaaGreatDoor
open Go.ChangeShapes Go.WideShapes Go.ChangeAt Go.RowKit Go.Deep Go.Joins
set_option linter.unusedVariables false

set_option maxRecDepth 40000 in
set_option maxHeartbeats 8000000 in
theorem spec_cf (t : Tb) (a : Ad) (p : Int) (ca : Option Addr) (cc n : Nat) (xs ys : List cmT) (w : World) (hm : TM 0 w t a) (hw : TW t a) (hs : TS a) (hc : GSeg 3 w ca n (cmX xs)) (hn : n ≤ 1048576) (hy : CT t p n xs ys) :
    Calls Tryz.prog 24 #[tbV t a, .int .i64 p, .slice ca n cc] w (LPostC w ys) := by
  obtain ⟨zs, hz, hzl⟩ := jt_ex t p
  have hz6 : zs.length ≤ 6 := hz.out.len
  have HB0 : Hid (Below w.heap.size w (w.alloc (.cells (tbA t a) 44))) := (Below.refl _ _).alloc (Nat.le_refl _) _
  have HX0 : Hid (TBx (w.alloc (.cells (tbA t a) 44)) w.heap.size t a) := TBx.new w t a _ rfl
  have hbE : Below (w.alloc (.cells (tbA t a) 44)).heap.size (w.alloc (.cells (tbA t a) 44)) ((w.alloc (.cells (tbA t a) 44)).alloc (.cells #[] 66)) := (Below.refl _ _).alloc (Nat.le_refl _) _
  have HBE : Hid (Below w.heap.size w ((w.alloc (.cells (tbA t a) 44)).alloc (.cells #[] 66))) := HB0.out.trans (hbE.mono HB0.out.size)
  have HXE : Hid (TBx ((w.alloc (.cells (tbA t a) 44)).alloc (.cells #[] 66)) w.heap.size t a) := HX0.out.below hbE
  have HOE : Hid (OwnC ((w.alloc (.cells (tbA t a) 44)).alloc (.cells #[] 66)) (w.heap.size + 1) (.slice (some ⟨w.heap.size + 1, 0, none⟩) 0 0) []) := OwnC.new (w.alloc (.cells (tbA t a) 44)) _ (by simp)
  have HJ : Hid (Calls Tryz.prog 22 #[tbV t a, .int .i64 p] ((w.alloc (.cells (tbA t a) 44)).alloc (.cells #[] 66)) (LPostI ((w.alloc (.cells (tbA t a) 44)).alloc (.cells #[] 66)) zs)) := spec_joined t a p zs _ (hm.below HBE.out) hw hs (hz.out.jr hw)
  have HNO : Hid (zs.length = 0 ∨ ¬ n ≤ 300 → ys = []) := fun h => by
    rcases hy with ⟨_, g⟩ | ⟨g, _⟩
    · exact g
    · rcases h with h | h
      · rcases hz.out with ⟨h1, _⟩ | ⟨_, h1⟩
        · exact absurd g.1 h1
        · have h2 := List.length_pos_of_mem (join_me g.1).1
          rw [← h1] at h2
          omega
      · exact absurd g.2 h
  have HYE : Hid (¬ zs.length = 0 → n ≤ 300 → (∀ x ∈ zs, 0 ≤ x) ∧ ys = cfL zs t.ds xs n) := fun h1 h3 => by
    rcases hz.out with ⟨_, h⟩ | ⟨hh, h⟩
    · rw [h] at h1; exact absurd rfl h1
    · refine ⟨by rw [h]; exact (join_me hh).2, ?_⟩
      rcases hy with ⟨g, _⟩ | ⟨_, g⟩
      · exact absurd ⟨hh, h3⟩ g
      · rw [h]; exact g
  have HC : Hid (GSeg 3 w ca n (cmX xs)) := hc
  have HDS : Hid (GSeg 1 w a.da a.dn (inX t.ds)) := hm.d.seg
  have HDL : Hid (t.ds.length = a.dn) := hw.dl
  have hdn : a.dn ≤ 1048576 := hs.d
  clear hm hw hs hc hy hz hbE HB0 HX0
  go_enter Tryz.func24, Tryz.ntmps24
  go_wp2_with (first | (refine wpList_load_row rfl 44 (.tmp 3) rfl w.heap.size rfl 44 (tbA t a) (0, 0) _ HXE.out Tryz.underlying44 rfl (by kernel_rfl) ?_) | fail)
  refine Calls.mono HJ.out ?_
  rintro e w3 ⟨AA, capz, rfl, hb3, hoi⟩
  have HBN : Hid (Below w.heap.size w w3) := HBE.out.trans (hb3.mono HBE.out.size)
  have HXN : Hid (TBx w3 w.heap.size t a) := HXE.out.below hb3
  have HON : Hid (OwnC w3 (w.heap.size + 1) (.slice (some ⟨w.heap.size + 1, 0, none⟩) 0 0) []) := HOE.out.below hb3
  by_cases hz0' : zs.length = 0
  · have hbz : ((zs.length : Int) == 0) = true := by simp [hz0']
    have HT : Hid (ys = []) := HNO.out (.inl hz0')
    clear hoi HNO HYE
    go_wp2
    go_ret
    exact ⟨_, _, by rw [HT.out]; rfl, HBN.out, by rw [HT.out]; exact cm_empty _ _ _ _⟩
  have hbz : ((zs.length : Int) == 0) = false := by rw [beq_eq_false_iff_ne]; omega
  by_cases h300 : n ≤ 300
  rotate_left
  · have hgt : (300 : Int) < (n : Int) := by omega
    have HT : Hid (ys = []) := HNO.out (.inr h300)
    clear hoi HNO HYE
    go_wp2
    go_ret
    exact ⟨_, _, by rw [HT.out]; rfl, HBN.out, by rw [HT.out]; exact cm_empty _ _ _ _⟩
  have hgt : ¬ ((300 : Int) < (n : Int)) := by omega
  obtain ⟨hpos, hys⟩ := HYE.out hz0' h300
  have HYS : Hid (ys = cfL zs t.ds xs n) := hys
  have HPOS : Hid (∀ x ∈ zs, 0 ≤ x) := hpos
  have hz0 : 0 < zs.length := by omega
  clear HNO HYE hpos hys
  have HSGx : Hid (Seg .i64 w3 AA zs) := hoi.seg
  obtain ⟨BA, oA, rfl, hb_1, hb_2, hb_3, _⟩ := hoi hz0
  have HSG0 : Hid (Seg .i64 w3 (some ⟨BA, oA, none⟩) zs ∧ BA < w3.heap.size) := ⟨HSGx.out, hb_3⟩
  have HGG0 : Hid (w.heap.size + 1 ≠ BA) := by
    have := (HOE.out.gl).1
    show _ ≠ _
    omega
  clear hb3 hoi HBE HXE HOE HSGx hb_1 hb_2 hb_3 HJ
  obtain ⟨ii, hii, hz1', hs0, hb0⟩ := cm_info'
  have HII : Hid (Tryz.prog.info? 66 = some ii ∧ ii.zero = some (.agg #[.int .i64 0, .int .i64 0, .int .u32 0]) ∧ ii.size = 3 ∧ ii.bytes = 24) := ⟨hii, hz1', hs0, hb0⟩
  clear hii hz1' hs0 hb0
  go_wp2
  go_loopw [7, 9] (fun v i wr => ∃ (j m g cap : Nat), j ≤ n ∧ m ≤ j ∧ i = .int .i64 j ∧ v = .slice (some ⟨g, 0, none⟩) m cap ∧ Hid ((cfL zs t.ds xs j).length = m) ∧ Hid (Below w.heap.size w wr) ∧ Hid (TBx wr w.heap.size t a) ∧ Hid (OwnC wr (w.heap.size + 1) (.slice (some ⟨g, 0, none⟩) m cap) (cfL zs t.ds xs j)) ∧ Hid (Seg .i64 wr (some ⟨BA, oA, none⟩) zs ∧ BA < wr.heap.size) ∧ Hid (g ≠ BA)) (fun _ i _ => n - (intOf i).toNat)
  case atStart => exact ⟨0, 0, w.heap.size + 1, 0, by omega, by omega, rfl, rfl, rfl, HBN.out, HXN.out, HON.out, HSG0.out, HGG0.out⟩
  case round =>
    clear HBN HXN HON HSG0 HGG0
    obtain ⟨j, m, g, cap, hj, hmj, rfl, rfl, HFL, HBW, HXW, HOW, HSG, HGG⟩ := hrel
    by_cases hjn : j < n
    rotate_left
    · obtain rfl : j = n := by omega
      have hjn' : ¬ ((j : Int) < (j : Int)) := by omega
      go_wp2
      go_ret
      have hh := HOW.out
      rw [← HFL.out] at hh
      obtain ⟨a', cap', e1, h4⟩ := hh.oc
      cases e1
      exact ⟨_, _, by rw [HYS.out, HFL.out]; rfl, HBW.out, by rw [HYS.out]; exact h4.wide (by omega) (Nat.le_refl _)⟩
    have hjn' : (j : Int) < (n : Int) := by omega
    obtain ⟨b1, o1, hca, hbl1, p1⟩ := HC.out.at j hjn
    replace p1 := p1.of (w' := wr) (fun i => HBW.out.cell (p := ⟨b1, i, none⟩) hbl1)
    simp only [cmX] at p1
    obtain ⟨x, HX⟩ : ∃ x, Hid (xs.getD j cm0 = x) := ⟨_, rfl⟩
    rw [HX.out] at p1
    have HYE : Hid (keepC zs t.ds x = true → cfL zs t.ds xs (j + 1) = cfL zs t.ds xs j ++ [plC x]) := fun h => cf_yes HX.out h
    have HNO : Hid (keepC zs t.ds x = false → cfL zs t.ds xs (j + 1) = cfL zs t.ds xs j) := fun h => cf_no HX.out h
    obtain ⟨F2, HF2⟩ : ∃ F2, Hid (cfL zs t.ds xs (j + 1) = F2) := ⟨_, rfl⟩
    rw [HF2.out] at HYE HNO
    generalize cfL zs t.ds xs j = F at HYE HNO HFL HOW
    obtain ⟨c0, c1, c2⟩ := cm_cells p1
    obtain ⟨x1, x2, x3⟩ := x
    simp only at c0 c1 c2
    have HRa0 : Hid ((wr.alloc (.cells #[.int .i64 x1, .int .i64 x2, .int .u32 x3] 66)).heap[wr.heap.size]? = some (.cells #[.int .i64 x1, .int .i64 x2, .int .u32 x3] 66 (0, 0))) := new_row wr _ _ _ rfl
    have hba : Below wr.heap.size wr (wr.alloc (.cells #[.int .i64 x1, .int .i64 x2, .int .u32 x3] 66)) := (Below.refl _ _).alloc (Nat.le_refl _) _
    have HBa0 : Hid (Below w.heap.size w (wr.alloc (.cells #[.int .i64 x1, .int .i64 x2, .int .u32 x3] 66))) := HBW.out.trans (hba.mono HBW.out.size)
    have HXa0 : Hid (TBx (wr.alloc (.cells #[.int .i64 x1, .int .i64 x2, .int .u32 x3] 66)) w.heap.size t a) := HXW.out.below hba
    have HOa0 : Hid (OwnC (wr.alloc (.cells #[.int .i64 x1, .int .i64 x2, .int .u32 x3] 66)) (w.heap.size + 1) (.slice (some ⟨g, 0, none⟩) m cap) F) := HOW.out.below hba
    have HSa0 : Hid (Seg .i64 (wr.alloc (.cells #[.int .i64 x1, .int .i64 x2, .int .u32 x3] 66)) (some ⟨BA, oA, none⟩) zs ∧ BA < (wr.alloc (.cells #[.int .i64 x1, .int .i64 x2, .int .u32 x3] 66)).heap.size) := ⟨HSG.out.1.below hba, Nat.lt_of_lt_of_le HSG.out.2 hba.size⟩
    clear p1 hbl1 hba HBW HXW HOW HSG HX
    have HCA : Hid (ca = some ⟨b1, o1, none⟩) := hca
    rw [hca]
    clear hca
    by_cases hx0 : x1 = 0
    · have hb0 : (x1 == 0) = true := by simp [hx0]
      have HE : Hid (F2 = F ++ [(x1, x2, 0)]) := by
        have := HYE.out (by unfold keepC; simp [hx0])
        show _ = _
        rw [this]; unfold plC; rw [if_neg (by show ¬ x1 = 1; omega)]
      clear hx0
      have hwle : w.heap.size ≤ wr.heap.size + 1 := by have := HBa0.out.size; simpa using this
      have HXW := HXa0
      have HBW := HBa0
      have HOW := HOa0
      have HSG := HSa0
      have HBSp : Hid (w.heap.size + 1 ≤ (wr.alloc (.cells #[.int .i64 x1, .int .i64 x2, .int .u32 x3] 66)).heap.size) := by have := HOW.out.gl; show _ ≤ _; omega
      have halp : Below (wr.alloc (.cells #[.int .i64 x1, .int .i64 x2, .int .u32 x3] 66)).heap.size (wr.alloc (.cells #[.int .i64 x1, .int .i64 x2, .int .u32 x3] 66)) ((wr.alloc (.cells #[.int .i64 x1, .int .i64 x2, .int .u32 x3] 66)).alloc (.cells #[.int .i64 x1, .int .i64 x2, .int .u32 0] 66)) := (Below.refl _ _).alloc (Nat.le_refl _) _
      have hownp : ((wr.alloc (.cells #[.int .i64 x1, .int .i64 x2, .int .u32 x3] 66)).alloc (.cells #[.int .i64 x1, .int .i64 x2, .int .u32 0] 66)).ownsRow (w.heap.size + 1) 66 3 (.slice (some ⟨g, 0, none⟩) m cap) m (ccells F) := by
        have := HOW.out.below halp
        unfold OwnC at this
        rw [HFL.out] at this
        exact this
      have hlowp := HOW.out.block
      have HZp : Hid (∀ (gg cap1 : Nat) (w9 : World), w9.ownsRow (w.heap.size + 1) 66 3 (.slice (some ⟨gg, 0, none⟩) (m + 1) cap1) (m + 1) (ccells F ++ [.int .i64 x1, .int .i64 x2, .int .u32 0]) → ((wr.alloc (.cells #[.int .i64 x1, .int .i64 x2, .int .u32 x3] 66)).alloc (.cells #[.int .i64 x1, .int .i64 x2, .int .u32 0] 66)).grownBy w9 (Value.slice (some ⟨g, 0, none⟩) m cap).ownBlock → ((Value.slice (some ⟨g, 0, none⟩) m cap).ownBlock = some gg ∨ gg = ((wr.alloc (.cells #[.int .i64 x1, .int .i64 x2, .int .u32 x3] 66)).alloc (.cells #[.int .i64 x1, .int .i64 x2, .int .u32 0] 66)).heap.size) → OwnC w9 (w.heap.size + 1) (.slice (some ⟨gg, 0, none⟩) (m + 1) cap1) (F ++ [(x1, x2, 0)]) ∧ Below w.heap.size w w9 ∧ TBx w9 w.heap.size t a ∧ (Seg .i64 w9 (some ⟨BA, oA, none⟩) zs ∧ BA < w9.heap.size) ∧ gg ≠ BA) := fun gg cap1 w9 h1 h2 h3 => by
        have h1' : OwnC w9 (w.heap.size + 1) (.slice (some ⟨gg, 0, none⟩) (m + 1) cap1) (F ++ [(x1, x2, 0)]) := by
          rw [← HFL.out] at h1 ⊢
          exact OwnC.snoc h1
        have hrow : ∀ k, (Value.slice (some ⟨g, 0, none⟩) m cap).ownBlock = some k → k = g := fun k e => by simpa [Value.ownBlock, eq_comm] using e
        have hbz := HBW.out.trans (halp.mono HBW.out.size)
        have hgl := fun k e => (hlowp k e : w.heap.size + 1 ≤ k)
        have hsz := HXW.out.lt
        have hB : w9.heap[w.heap.size]? = ((wr.alloc (.cells #[.int .i64 x1, .int .i64 x2, .int .u32 x3] 66)).alloc (.cells #[.int .i64 x1, .int .i64 x2, .int .u32 0] 66)).heap[w.heap.size]? := h2.block w.heap.size (Nat.lt_of_lt_of_le hsz halp.size) (fun e => by have := hgl _ e.symm; omega)
        have hgb : w9.heap[BA]? = ((wr.alloc (.cells #[.int .i64 x1, .int .i64 x2, .int .u32 x3] 66)).alloc (.cells #[.int .i64 x1, .int .i64 x2, .int .u32 0] 66)).heap[BA]? := h2.block BA (Nat.lt_of_lt_of_le HSG.out.2 halp.size) (fun e => HGG.out (hrow _ e.symm).symm)
        have hseg : Seg .i64 w9 (some ⟨BA, oA, none⟩) zs := fun h0 => by
          obtain ⟨b, off, e, hlt, hc⟩ := (HSG.out.1.below halp) h0
          cases e
          exact ⟨BA, oA, rfl, Nat.lt_of_lt_of_le HSG.out.2 (Nat.le_trans halp.size h2.size), fun i hi => (World.cell?_of_block hgb).trans (hc i hi)⟩
        exact ⟨h1', Below.grown hbz h2 hbz.size (fun g' e => by have := hgl g' e; omega), hB.trans (HXW.out.below halp), ⟨hseg, Nat.lt_of_lt_of_le HSG.out.2 (Nat.le_trans halp.size h2.size)⟩, (by
          rcases h3 with h3 | h3
          · rw [hrow _ h3]; exact HGG.out
          · have h4 := HSG.out.2; have h6 := halp.size; omega)⟩
      have hbsp : (w.heap.size + 1) ≤ (wr.alloc (.cells #[.int .i64 x1, .int .i64 x2, .int .u32 x3] 66)).heap.size := HBSp.out
      clear halp hlowp HBW HXW HOW HSG HGG
      go_wp2_with (first | (at_builtin; (refine wpList_append_lies _ rfl (.tmp 38) (.tmp 44) 47 rfl ((w.heap.size + 1)) 66 ii (.agg #[.int .i64 0, .int .i64 0, .int .u32 0]) 3 24 Tryz.underlying47 HII.out.1 HII.out.2.1 HII.out.2.2.1 HII.out.2.2.2 rfl (by omega) _ _ _ rfl hownp _ 1 1 [.int .i64 x1, .int .i64 x2, .int .u32 0] rfl rfl (cm_new _ _ _ _ _ (by simp)) (cm_oneB _ _ _) (by omega) (by unfold maxLen; omega) (by omega) (by simp; omega) _ rfl ?_; intro gg cap1 w9 hown1 hgrow hat hlt1; have HY : Hid _ := HZp.out gg cap1 w9 hown1 hgrow hat; clear hown1 hgrow hat hlt1)) | fail)
      have HE2 : Hid ((cfL zs t.ds xs (j + 1)).length = m + 1 ∧ OwnC w9 (w.heap.size + 1) (.slice (some ⟨gg, 0, none⟩) (m + 1) cap1) (cfL zs t.ds xs (j + 1))) := by
        rw [HF2.out, HE.out]
        exact ⟨by rw [← HFL.out]; simp, HY.out.1⟩
      go_roundw
      case rel => exact ⟨j + 1, m + 1, gg, cap1, by omega, by omega, by go_num, rfl, HE2.out.1, HY.out.2.1, HY.out.2.2.1, HE2.out.2, HY.out.2.2.2.1, HY.out.2.2.2.2⟩
      case measure => simp [intOf]; omega
    have hb0 : (x1 == 0) = false := by simpa using hx0
    by_cases hx1 : x1 = 1
    · have hb1 : (x1 == 1) = true := by simp [hx1]
      obtain ⟨q, HQ⟩ : ∃ q, Hid (inr x2 0 ((a.dn : Int) - 1) = q) := ⟨_, rfl⟩
      have HIN : Hid (∀ X, Calls Tryz.prog 21 #[.int .i64 x2, .int .i64 0, .int .i64 ((a.dn : Int) - 1)] X fun e w' => e = .returned (.bool q) ∧ w' = X) := fun X => by rw [← HQ.out]; exact in_any _ _ _ X
      have hwd : IntKind.i64.wrap ((a.dn : Int) - 1) = (a.dn : Int) - 1 := by rw [IntKind.wrap_i64]; omega
      have HKP : Hid (keepC zs t.ds (x1, x2, x3) = decide (partV t.ds (x1, x2, x3) ∈ zs)) := by show _ = _; unfold keepC; simp [hx0]
      have HP1 : Hid (q = false → keepC zs t.ds (x1, x2, x3) = false) := fun h => by
        rw [HKP.out]
        have h2 := inr_niff.1 (HQ.out.trans h)
        have h3 : partV t.ds (x1, x2, x3) = -1 := by unfold partV; rw [if_neg (fun e => h2 ⟨e.2.1, by have := e.2.2; rw [HDL.out] at this; simp only at this; omega⟩), if_neg (by show ¬ x1 = 2; omega)]
        rw [h3]
        exact decide_eq_false (fun h => by have := HPOS.out _ h; omega)
      have HP2 : Hid (∀ i : Nat, x2 = (i : Int) → i < a.dn → keepC zs t.ds (x1, x2, x3) = decide (t.ds.getD i 0 ∈ zs)) := fun i h1 h2 => by
        rw [HKP.out]
        have h3 : partV t.ds (x1, x2, x3) = t.ds.getD i 0 := by unfold partV; rw [if_pos ⟨hx1, by show 0 ≤ x2; omega, by rw [HDL.out]; show x2 < _; omega⟩]; show t.ds.getD x2.toNat 0 = _; rw [h1, Int.toNat_natCast]
        rw [h3]
      have HPL : Hid (plC (x1, x2, x3) = (x1, x2, x3)) := by show _ = _; unfold plC; rw [if_pos hx1]
      have k16 : (wr.alloc (.cells #[.int .i64 x1, .int .i64 x2, .int .u32 x3] 66)).cell? ⟨w.heap.size, 16, none⟩ = some (.slice a.da a.dn a.dc) := HXa0.out.cell 16 rfl
      clear hx0 hx1
      go_wp2_with fail
      revert k16
      revert HRa0 HBa0 HXa0 HOa0 HSa0
      generalize wr.alloc (.cells #[.int .i64 x1, .int .i64 x2, .int .u32 x3] 66) = wa
      generalize wr.heap.size = N
      intro HR HBW HXW HOW HSG
      clear c0 c1 c2
      intro k16
      refine Calls.mono (HIN.out _) ?_
      rintro e w4 ⟨rfl, hw4⟩
      subst hw4
      clear HIN hwd
      cases q
      · have HE : Hid (F2 = F) := HNO.out (HP1.out (by first | rfl | trivial))
        go_wp2
        go_roundw
        case rel => exact ⟨j + 1, m, g, cap, by omega, by omega, by go_num, rfl, (by show _ = _; rw [HF2.out, HE.out]; exact HFL.out), HBW.out, HXW.out, (by show OwnC _ _ _ _; rw [HF2.out, HE.out]; exact HOW.out), HSG.out, HGG.out⟩
        case measure => simp [intOf]; omega
      have hin := of_inr HQ.out
      obtain ⟨i, HI⟩ : ∃ i : Nat, Hid (x2 = (i : Int)) := ⟨x2.toNat, by show _ = _; omega⟩
      have hin2 : i < a.dn := by have := HI.out; omega
      obtain ⟨bd, od, hda, hbd, pd⟩ := HDS.out.at i hin2
      obtain ⟨d, HD⟩ : ∃ d, Hid (t.ds.getD i 0 = d) := ⟨_, rfl⟩
      have cd : w4.cell? ⟨bd, od + i, none⟩ = some (.int .i64 d) := by
        have h := pd 0 (.int .i64 (t.ds.getD i 0)) (by simp [inX])
        rw [HD.out] at h
        exact (HBW.out.cell (p := ⟨bd, od + i, none⟩) hbd).trans (by simpa using h)
      have HKD : Hid (keepC zs t.ds (x1, x2, x3) = decide (d ∈ zs)) := by show _ = _; rw [HP2.out i HI.out hin2, HD.out]
      rw [hda] at k16
      clear hda pd HP1 HP2
      have hx2 := HI.out
      subst hx2
      have hlt' : (i : Int) < (a.dn : Int) := by omega
      have e0 : w4.cell? ⟨N, 0, none⟩ = some (.int .i64 x1) := row_cell HR.out _ _ rfl
      have e1 : w4.cell? ⟨N, 1, none⟩ = some (.int .i64 (i : Int)) := row_cell HR.out _ _ rfl
      have e2 : w4.cell? ⟨N, 2, none⟩ = some (.int .u32 x3) := row_cell HR.out _ _ rfl
      obtain ⟨r, Hr⟩ : ∃ r, Hid (decide (d ∈ zs) = r) := ⟨_, rfl⟩
      have HCr : Hid (∀ X, X = w4 → Calls Tryz.prog 53 #[.slice (some ⟨BA, oA, none⟩) zs.length capz, .int .i64 d] X fun e w' => e = .returned (.bool r) ∧ w' = X) := fun X hX => has_l _ capz zs _ r X (by rw [hX]; exact HSG.out.1) (by omega) Hr.out
      go_wp2_with fail
      refine Calls.mono (HCr.out _ rfl) ?_
      rintro e wwr ⟨rfl, hwwr⟩
      subst hwwr
      clear HCr
      cases r
      · have HE : Hid (F2 = F) := HNO.out (by rw [HKD.out]; exact Hr.out)
        go_wp2
        go_roundw
        case rel => exact ⟨j + 1, m, g, cap, by omega, by omega, by go_num, rfl, (by show _ = _; rw [HF2.out, HE.out]; exact HFL.out), HBW.out, HXW.out, (by show OwnC _ _ _ _; rw [HF2.out, HE.out]; exact HOW.out), HSG.out, HGG.out⟩
        case measure => simp [intOf]; omega
      have HE : Hid (F2 = F ++ [(x1, (i : Int), x3)]) := by have := HYE.out (by rw [HKD.out]; exact Hr.out); rw [HPL.out] at this; exact this
      have HBSd : Hid (w.heap.size + 1 ≤ wwr.heap.size) := by have := HOW.out.gl; show _ ≤ _; omega
      have hald : Below wwr.heap.size wwr (wwr.alloc (.cells #[.int .i64 x1, .int .i64 (i : Int), .int .u32 x3] 66)) := (Below.refl _ _).alloc (Nat.le_refl _) _
      have hownd : (wwr.alloc (.cells #[.int .i64 x1, .int .i64 (i : Int), .int .u32 x3] 66)).ownsRow (w.heap.size + 1) 66 3 (.slice (some ⟨g, 0, none⟩) m cap) m (ccells F) := by
        have := HOW.out.below hald
        unfold OwnC at this
        rw [HFL.out] at this
        exact this
      have hlowd := HOW.out.block
      have HZd : Hid (∀ (gg cap1 : Nat) (w9 : World), w9.ownsRow (w.heap.size + 1) 66 3 (.slice (some ⟨gg, 0, none⟩) (m + 1) cap1) (m + 1) (ccells F ++ [.int .i64 x1, .int .i64 (i : Int), .int .u32 x3]) → (wwr.alloc (.cells #[.int .i64 x1, .int .i64 (i : Int), .int .u32 x3] 66)).grownBy w9 (Value.slice (some ⟨g, 0, none⟩) m cap).ownBlock → ((Value.slice (some ⟨g, 0, none⟩) m cap).ownBlock = some gg ∨ gg = (wwr.alloc (.cells #[.int .i64 x1, .int .i64 (i : Int), .int .u32 x3] 66)).heap.size) → OwnC w9 (w.heap.size + 1) (.slice (some ⟨gg, 0, none⟩) (m + 1) cap1) (F ++ [(x1, (i : Int), x3)]) ∧ Below w.heap.size w w9 ∧ TBx w9 w.heap.size t a ∧ (Seg .i64 w9 (some ⟨BA, oA, none⟩) zs ∧ BA < w9.heap.size) ∧ gg ≠ BA) := fun gg cap1 w9 h1 h2 h3 => by
        have h1' : OwnC w9 (w.heap.size + 1) (.slice (some ⟨gg, 0, none⟩) (m + 1) cap1) (F ++ [(x1, (i : Int), x3)]) := by
          rw [← HFL.out] at h1 ⊢
          exact OwnC.snoc h1
        have hrow : ∀ k, (Value.slice (some ⟨g, 0, none⟩) m cap).ownBlock = some k → k = g := fun k e => by simpa [Value.ownBlock, eq_comm] using e
        have hbz := HBW.out.trans (hald.mono HBW.out.size)
        have hgl := fun k e => (hlowd k e : w.heap.size + 1 ≤ k)
        have hsz := HXW.out.lt
        have hB : w9.heap[w.heap.size]? = (wwr.alloc (.cells #[.int .i64 x1, .int .i64 (i : Int), .int .u32 x3] 66)).heap[w.heap.size]? := h2.block w.heap.size (Nat.lt_of_lt_of_le hsz hald.size) (fun e => by have := hgl _ e.symm; omega)
        have hgb : w9.heap[BA]? = (wwr.alloc (.cells #[.int .i64 x1, .int .i64 (i : Int), .int .u32 x3] 66)).heap[BA]? := h2.block BA (Nat.lt_of_lt_of_le HSG.out.2 hald.size) (fun e => HGG.out (hrow _ e.symm).symm)
        have hseg : Seg .i64 w9 (some ⟨BA, oA, none⟩) zs := fun h0 => by
          obtain ⟨b, off, e, hlt, hc⟩ := (HSG.out.1.below hald) h0
          cases e
          exact ⟨BA, oA, rfl, Nat.lt_of_lt_of_le HSG.out.2 (Nat.le_trans hald.size h2.size), fun i hi => (World.cell?_of_block hgb).trans (hc i hi)⟩
        exact ⟨h1', Below.grown hbz h2 hbz.size (fun g' e => by have := hgl g' e; omega), hB.trans (HXW.out.below hald), ⟨hseg, Nat.lt_of_lt_of_le HSG.out.2 (Nat.le_trans hald.size h2.size)⟩, (by
          rcases h3 with h3 | h3
          · rw [hrow _ h3]; exact HGG.out
          · have h4 := HSG.out.2; have h6 := hald.size; omega)⟩
      have hbsd : (w.heap.size + 1) ≤ wwr.heap.size := HBSd.out
      clear hald hlowd HBW HXW HOW HSG HGG
      go_wp2_with (first | (at_builtin; (refine wpList_append_lies _ rfl (.tmp 65) (.tmp 67) 47 rfl ((w.heap.size + 1)) 66 ii (.agg #[.int .i64 0, .int .i64 0, .int .u32 0]) 3 24 Tryz.underlying47 HII.out.1 HII.out.2.1 HII.out.2.2.1 HII.out.2.2.2 rfl (by omega) _ _ _ rfl hownd _ 1 1 [.int .i64 x1, .int .i64 (i : Int), .int .u32 x3] rfl rfl (cm_new _ _ _ _ _ (by simp)) (cm_oneB _ _ _) (by omega) (by unfold maxLen; omega) (by omega) (by simp; omega) _ rfl ?_; intro gg cap1 w9 hown1 hgrow hat hlt1; have HY : Hid _ := HZd.out gg cap1 w9 hown1 hgrow hat; clear hown1 hgrow hat hlt1)) | fail)
      have HE2 : Hid ((cfL zs t.ds xs (j + 1)).length = m + 1 ∧ OwnC w9 (w.heap.size + 1) (.slice (some ⟨gg, 0, none⟩) (m + 1) cap1) (cfL zs t.ds xs (j + 1))) := by
        rw [HF2.out, HE.out]
        exact ⟨by rw [← HFL.out]; simp, HY.out.1⟩
      go_roundw
      case rel => exact ⟨j + 1, m + 1, gg, cap1, by omega, by omega, by go_num, rfl, HE2.out.1, HY.out.2.1, HY.out.2.2.1, HE2.out.2, HY.out.2.2.2.1, HY.out.2.2.2.2⟩
      case measure => simp [intOf]; omega
    have hb1 : (x1 == 1) = false := by simpa using hx1
    by_cases hx2 : x1 = 2
    · have hb2 : (x1 == 2) = true := by simp [hx2]
      have HKP : Hid (keepC zs t.ds (x1, x2, x3) = decide (x2 ∈ zs)) := by
        show _ = _
        have h3 : partV t.ds (x1, x2, x3) = x2 := by unfold partV; rw [if_neg (fun e => hx1 e.1), if_pos hx2]
        unfold keepC; rw [h3]; simp [hx0]
      have HPL : Hid (plC (x1, x2, x3) = (x1, x2, 0)) := by show _ = _; unfold plC; rw [if_neg hx1]
      clear hx0 hx1 hx2
      have HSG := HSa0
      obtain ⟨r, Hr⟩ : ∃ r, Hid (decide (x2 ∈ zs) = r) := ⟨_, rfl⟩
      have HCr : Hid (∀ X, X = (wr.alloc (.cells #[.int .i64 x1, .int .i64 x2, .int .u32 x3] 66)) → Calls Tryz.prog 53 #[.slice (some ⟨BA, oA, none⟩) zs.length capz, .int .i64 x2] X fun e w' => e = .returned (.bool r) ∧ w' = X) := fun X hX => has_l _ capz zs _ r X (by rw [hX]; exact HSG.out.1) (by omega) Hr.out
      go_wp2_with fail
      refine Calls.mono (HCr.out _ rfl) ?_
      rintro e wwr ⟨rfl, hwwr⟩
      revert hwwr HSG
      clear HCr
      revert HRa0 HBa0 HXa0 HOa0 HSa0
      generalize wr.alloc (.cells #[.int .i64 x1, .int .i64 x2, .int .u32 x3] 66) = wa
      generalize wr.heap.size = N
      intro HR HBW HXW HOW HSGx HSG hwwr
      subst hwwr
      clear c0 c1 c2 HSGx
      have e0 : wwr.cell? ⟨N, 0, none⟩ = some (.int .i64 x1) := row_cell HR.out _ _ rfl
      have e1 : wwr.cell? ⟨N, 1, none⟩ = some (.int .i64 x2) := row_cell HR.out _ _ rfl
      cases r
      · have HE : Hid (F2 = F) := HNO.out (by rw [HKP.out]; exact Hr.out)
        go_wp2
        go_roundw
        case rel => exact ⟨j + 1, m, g, cap, by omega, by omega, by go_num, rfl, (by show _ = _; rw [HF2.out, HE.out]; exact HFL.out), HBW.out, HXW.out, (by show OwnC _ _ _ _; rw [HF2.out, HE.out]; exact HOW.out), HSG.out, HGG.out⟩
        case measure => simp [intOf]; omega
      have HE : Hid (F2 = F ++ [(x1, x2, 0)]) := by have := HYE.out (by rw [HKP.out]; exact Hr.out); rw [HPL.out] at this; exact this
      have HBSe : Hid (w.heap.size + 1 ≤ wwr.heap.size) := by have := HOW.out.gl; show _ ≤ _; omega
      have hale : Below wwr.heap.size wwr (wwr.alloc (.cells #[.int .i64 x1, .int .i64 x2, .int .u32 0] 66)) := (Below.refl _ _).alloc (Nat.le_refl _) _
      have howne : (wwr.alloc (.cells #[.int .i64 x1, .int .i64 x2, .int .u32 0] 66)).ownsRow (w.heap.size + 1) 66 3 (.slice (some ⟨g, 0, none⟩) m cap) m (ccells F) := by
        have := HOW.out.below hale
        unfold OwnC at this
        rw [HFL.out] at this
        exact this
      have hlowe := HOW.out.block
      have HZe : Hid (∀ (gg cap1 : Nat) (w9 : World), w9.ownsRow (w.heap.size + 1) 66 3 (.slice (some ⟨gg, 0, none⟩) (m + 1) cap1) (m + 1) (ccells F ++ [.int .i64 x1, .int .i64 x2, .int .u32 0]) → (wwr.alloc (.cells #[.int .i64 x1, .int .i64 x2, .int .u32 0] 66)).grownBy w9 (Value.slice (some ⟨g, 0, none⟩) m cap).ownBlock → ((Value.slice (some ⟨g, 0, none⟩) m cap).ownBlock = some gg ∨ gg = (wwr.alloc (.cells #[.int .i64 x1, .int .i64 x2, .int .u32 0] 66)).heap.size) → OwnC w9 (w.heap.size + 1) (.slice (some ⟨gg, 0, none⟩) (m + 1) cap1) (F ++ [(x1, x2, 0)]) ∧ Below w.heap.size w w9 ∧ TBx w9 w.heap.size t a ∧ (Seg .i64 w9 (some ⟨BA, oA, none⟩) zs ∧ BA < w9.heap.size) ∧ gg ≠ BA) := fun gg cap1 w9 h1 h2 h3 => by
        have h1' : OwnC w9 (w.heap.size + 1) (.slice (some ⟨gg, 0, none⟩) (m + 1) cap1) (F ++ [(x1, x2, 0)]) := by
          rw [← HFL.out] at h1 ⊢
          exact OwnC.snoc h1
        have hrow : ∀ k, (Value.slice (some ⟨g, 0, none⟩) m cap).ownBlock = some k → k = g := fun k e => by simpa [Value.ownBlock, eq_comm] using e
        have hbz := HBW.out.trans (hale.mono HBW.out.size)
        have hgl := fun k e => (hlowe k e : w.heap.size + 1 ≤ k)
        have hsz := HXW.out.lt
        have hB : w9.heap[w.heap.size]? = (wwr.alloc (.cells #[.int .i64 x1, .int .i64 x2, .int .u32 0] 66)).heap[w.heap.size]? := h2.block w.heap.size (Nat.lt_of_lt_of_le hsz hale.size) (fun e => by have := hgl _ e.symm; omega)
        have hgb : w9.heap[BA]? = (wwr.alloc (.cells #[.int .i64 x1, .int .i64 x2, .int .u32 0] 66)).heap[BA]? := h2.block BA (Nat.lt_of_lt_of_le HSG.out.2 hale.size) (fun e => HGG.out (hrow _ e.symm).symm)
        have hseg : Seg .i64 w9 (some ⟨BA, oA, none⟩) zs := fun h0 => by
          obtain ⟨b, off, e, hlt, hc⟩ := (HSG.out.1.below hale) h0
          cases e
          exact ⟨BA, oA, rfl, Nat.lt_of_lt_of_le HSG.out.2 (Nat.le_trans hale.size h2.size), fun i hi => (World.cell?_of_block hgb).trans (hc i hi)⟩
        exact ⟨h1', Below.grown hbz h2 hbz.size (fun g' e => by have := hgl g' e; omega), hB.trans (HXW.out.below hale), ⟨hseg, Nat.lt_of_lt_of_le HSG.out.2 (Nat.le_trans hale.size h2.size)⟩, (by
          rcases h3 with h3 | h3
          · rw [hrow _ h3]; exact HGG.out
          · have h4 := HSG.out.2; have h6 := hale.size; omega)⟩
      have hbse : (w.heap.size + 1) ≤ wwr.heap.size := HBSe.out
      clear hale hlowe HBW HXW HOW HSG HGG
      go_wp2_with (first | (at_builtin; (refine wpList_append_lies _ rfl (.tmp 75) (.tmp 81) 47 rfl ((w.heap.size + 1)) 66 ii (.agg #[.int .i64 0, .int .i64 0, .int .u32 0]) 3 24 Tryz.underlying47 HII.out.1 HII.out.2.1 HII.out.2.2.1 HII.out.2.2.2 rfl (by omega) _ _ _ rfl howne _ 1 1 [.int .i64 x1, .int .i64 x2, .int .u32 0] rfl rfl (cm_new _ _ _ _ _ (by simp)) (cm_oneB _ _ _) (by omega) (by unfold maxLen; omega) (by omega) (by simp; omega) _ rfl ?_; intro gg cap1 w9 hown1 hgrow hat hlt1; have HY : Hid _ := HZe.out gg cap1 w9 hown1 hgrow hat; clear hown1 hgrow hat hlt1)) | fail)
      have HE2 : Hid ((cfL zs t.ds xs (j + 1)).length = m + 1 ∧ OwnC w9 (w.heap.size + 1) (.slice (some ⟨gg, 0, none⟩) (m + 1) cap1) (cfL zs t.ds xs (j + 1))) := by
        rw [HF2.out, HE.out]
        exact ⟨by rw [← HFL.out]; simp, HY.out.1⟩
      go_roundw
      case rel => exact ⟨j + 1, m + 1, gg, cap1, by omega, by omega, by go_num, rfl, HE2.out.1, HY.out.2.1, HY.out.2.2.1, HE2.out.2, HY.out.2.2.2.1, HY.out.2.2.2.2⟩
      case measure => simp [intOf]; omega
    have hb2 : (x1 == 2) = false := by simpa using hx2
    have HE : Hid (F2 = F) := HNO.out (by
      have h3 : partV t.ds (x1, x2, x3) = -1 := by unfold partV; rw [if_neg (fun e => hx1 e.1), if_neg hx2]
      unfold keepC; rw [h3]; simp [hx0]; exact (fun h => by have := HPOS.out _ h; omega))
    clear hx0 hx1 hx2
    have HXW := HXa0
    have HBW := HBa0
    have HOW := HOa0
    have HSG := HSa0
    go_wp2
    go_roundw
    case rel => exact ⟨j + 1, m, g, cap, by omega, by omega, by go_num, rfl, (by show _ = _; rw [HF2.out, HE.out]; exact HFL.out), HBW.out, HXW.out, (by show OwnC _ _ _ _; rw [HF2.out, HE.out]; exact HOW.out), HSG.out, HGG.out⟩
    case measure => simp [intOf]; omega
end Go.Proofs.YtgmhcngdgfhhaaaGreatDoor
