
/-
  The commands that matter for a partition: the program's CmdsFor and the specification's. Conditions: the lists lie in memory; the program's table of extras holds what the program's text lays.
-/
import Derived.Test.YtgmhcngdgfhhaaaGreatDoorBas
import Derived.Test.YtgmhcngdgfhhaaaGreatDoorCmf
namespace Go.Proofs.YtgmhcngdgfhhaaaGreatDoor
open Go.ChangeShapes Go.WideShapes Go.ChangeAt Go.RowKit Go.Deep Go.Joins
set_option linter.unusedVariables false

theorem OwnC.gl {w : World} {base g cap m : Nat} {xs : List cmT} (h : OwnC w base (.slice (some ⟨g, 0, none⟩) m cap) xs) : g < w.heap.size ∧ base ≤ g := by
  rcases h.2 with ⟨h0, h1⟩ | ⟨g', cap', cur, e, hb, hg, _⟩
  · cases h0
  · injection e with e1 e2 e3
    injection e1 with e1
    injection e1 with e1
    subst e1
    refine ⟨?_, hb⟩
    rcases Nat.lt_or_ge g w.heap.size with hlt | hge
    · exact hlt
    · rw [Array.getElem?_eq_none hge] at hg; cases hg
theorem cm_new (w : World) (y1 y2 y3 : Int) (B : Nat) (hB : B = w.heap.size) : ∀ j u, (cmL (y1, y2, y3))[j]? = some u → (w.alloc (.cells #[.int .i64 y1, .int .i64 y2, .int .u32 y3] 66)).cell? ((⟨B, 0, none⟩ : Addr).add j) = some u := fun j u h => by
  subst hB
  rw [add_plain]
  exact CellsAt.new w (cmL (y1, y2, y3)) 66 w.heap.size rfl j u h
theorem cm_one (y : cmT) : ∀ u ∈ cmL y, u.oneCell' = true := by
  intro u hu
  simp only [cmL, List.mem_cons, List.not_mem_nil, or_false] at hu
  obtain rfl | rfl | rfl := hu <;> rfl
theorem cm_oneB (y1 y2 y3 : Int) : ∀ u ∈ [Value.int .i64 y1, .int .i64 y2, .int .u32 y3], u.oneCell' = true := cm_one (y1, y2, y3)
theorem cm_empty (w : World) (a : Option Addr) (lo hi : Nat) : OC w lo hi a ([] : List cmT).length (cmX []) := ⟨fun h => absurd h (by simp), fun h => absurd h (by simp)⟩
set_option maxRecDepth 40000 in
set_option maxHeartbeats 8000000 in
theorem impl_cf (t : Tb) (a : Ad) (p : Int) (ca : Option Addr) (cc n : Nat) (xs ys : List cmT) (w : World) (hm : TM 0 w t a) (hw : TW t a) (hs : TS a) (he : TabE w) (hcp : a.pn ≤ a.pc) (hc : GSeg 3 w ca n (cmX xs)) (hn : n ≤ 1048576) (hy : CT t p n xs ys) :
    Calls Tryz.prog 40 #[tbV t a, .int .i64 p, .slice ca n cc] w (LPostC w ys) := by
  obtain ⟨q, hq⟩ := told (Sd t)
  obtain ⟨q2, hq2⟩ := told (0 ≤ p ∧ p < (a.pn : Int))
  have HB0 : Hid (Below w.heap.size w (w.alloc (.cells (tbA t a) 44))) := (Below.refl _ _).alloc (Nat.le_refl _) _
  have HX0 : Hid (TBx (w.alloc (.cells (tbA t a) 44)) w.heap.size t a) := TBx.new w t a _ rfl
  have hbE : Below (w.alloc (.cells (tbA t a) 44)).heap.size (w.alloc (.cells (tbA t a) 44)) ((w.alloc (.cells (tbA t a) 44)).alloc (.cells #[] 66)) := (Below.refl _ _).alloc (Nat.le_refl _) _
  have HBE : Hid (Below w.heap.size w ((w.alloc (.cells (tbA t a) 44)).alloc (.cells #[] 66))) := HB0.out.trans (hbE.mono HB0.out.size)
  have HXE : Hid (TBx ((w.alloc (.cells (tbA t a) 44)).alloc (.cells #[] 66)) w.heap.size t a) := HX0.out.below hbE
  have HOE : Hid (OwnC ((w.alloc (.cells (tbA t a) 44)).alloc (.cells #[] 66)) (w.heap.size + 1) (.slice (some ⟨w.heap.size + 1, 0, none⟩) 0 0) []) := OwnC.new (w.alloc (.cells (tbA t a) 44)) _ (by simp)
  have HSO : Hid (Calls Tryz.prog 58 #[tbV t a] ((w.alloc (.cells (tbA t a) 44)).alloc (.cells #[] 66)) fun e w' => e = .returned (.bool q) ∧ Below ((w.alloc (.cells (tbA t a) 44)).alloc (.cells #[] 66)).heap.size ((w.alloc (.cells (tbA t a) 44)).alloc (.cells #[] 66)) w') := impl_sound t a q _ (hm.below HBE.out) hw hs (he.below HBE.out) hcp hq
  have HHP : Hid (∀ Y, Calls Tryz.prog 33 #[tbV t a, .int .i64 p] Y fun e w' => e = .returned (.bool q2) ∧ Below Y.heap.size Y w') := fun Y => has_part t a p q2 Y hw.pb hq2
  have HRE : Hid (q = true → q2 = true → ∀ X, Below w.heap.size w X → Calls Tryz.prog 36 #[tbV t a, .int .i64 p] X (LPostI X (joinV t.cs t.ps.length p))) := fun h1 h2 X hX => by
    rw [hw.pl]; exact impl_reach t a p X (hm.below hX) hw (hq.1 h1) (hq2.1 h2)
  have HNO : Hid (q = false ∨ q2 = false ∨ ¬ n ≤ 300 → ys = []) := fun h => by
    rcases hy with ⟨_, g⟩ | ⟨g, _⟩
    · exact g
    · rw [hw.pl] at g
      rcases h with h | h | h
      · rw [hq.2 g.1.1] at h; cases h
      · rw [hq2.2 g.1.2] at h; cases h
      · exact absurd g.2 h
  have HYE : Hid (q = true → q2 = true → n ≤ 300 → (∃ p0, p0 ∈ joinV t.cs t.ps.length p) ∧ (∀ x ∈ joinV t.cs t.ps.length p, 0 ≤ x) ∧ (joinV t.cs t.ps.length p).length ≤ 6 ∧ ys = cfL (joinV t.cs t.ps.length p) t.ds xs n) := fun h1 h2 h3 => by
    have hh : Sd t ∧ 0 ≤ p ∧ p < (t.ps.length : Int) := ⟨hq.1 h1, by rw [hw.pl]; exact hq2.1 h2⟩
    refine ⟨⟨p, (join_me hh).1⟩, (join_me hh).2, JT.len (.inr ⟨hh, rfl⟩), ?_⟩
    rcases hy with ⟨g, _⟩ | ⟨_, g⟩
    · exact absurd ⟨hh, h3⟩ g
    · exact g
  have HC : Hid (GSeg 3 w ca n (cmX xs)) := hc
  have HDS : Hid (∀ X, Below w.heap.size w X → ∀ x1 x2 x3 v, partV t.ds (x1, x2, x3) = v → Calls Tryz.prog 66 #[tbV t a, .agg #[.int .i64 x1, .int .i64 x2, .int .u32 x3]] X fun e w' => e = .returned (.int .i64 v) ∧ Below X.heap.size X w') := fun X hX x1 x2 x3 v hv => part_of t a x1 x2 x3 v X (hm.below hX).d.seg hw.dl hs.d hv
  clear hm hw hs he hcp hc hy hq hq2 hbE HB0 HX0
  by_cases h300 : n ≤ 300
  rotate_left
  · have hgt : (300 : Int) < (n : Int) := by omega
    have HT : Hid (ys = []) := HNO.out (.inr (.inr h300))
    go_enter Tryz.func40, Tryz.ntmps40
    go_wp2
    go_ret
    exact ⟨_, _, by rw [HT.out]; rfl, HBE.out, by rw [HT.out]; exact cm_empty _ _ _ _⟩
  have hgt : ¬ ((300 : Int) < (n : Int)) := by omega
  go_enter Tryz.func40, Tryz.ntmps40
  go_wp2_with (first | (refine wpList_load_rowG rfl 44 (.tmp 3) rfl w.heap.size rfl 44 (tbA t a) (0, 0) _ HXE.out Tryz.underlying44 rfl (by kernel_rfl) ?_) | fail)
  refine Calls.mono HSO.out ?_
  rintro e w1 ⟨rfl, hb1⟩
  have HB1 : Hid (Below w.heap.size w w1) := HBE.out.trans (hb1.mono HBE.out.size)
  have HX1 : Hid (TBx w1 w.heap.size t a) := HXE.out.below hb1
  have HO1 : Hid (OwnC w1 (w.heap.size + 1) (.slice (some ⟨w.heap.size + 1, 0, none⟩) 0 0) []) := HOE.out.below hb1
  clear hb1 HSO HBE HXE HOE
  cases q
  · have HT : Hid (ys = []) := HNO.out (.inl (by first | rfl | trivial))
    go_wp2
    go_ret
    exact ⟨_, _, by rw [HT.out]; rfl, HB1.out, by rw [HT.out]; exact cm_empty _ _ _ _⟩
  go_wp2_with (first | (refine wpList_load_rowG rfl 44 (.tmp 3) rfl w.heap.size rfl 44 (tbA t a) (0, 0) _ HX1.out Tryz.underlying44 rfl (by kernel_rfl) ?_) | fail)
  refine Calls.mono (HHP.out _) ?_
  rintro e w2 ⟨rfl, hb2⟩
  have HB2 : Hid (Below w.heap.size w w2) := HB1.out.trans (hb2.mono HB1.out.size)
  have HX2 : Hid (TBx w2 w.heap.size t a) := HX1.out.below hb2
  have HO2 : Hid (OwnC w2 (w.heap.size + 1) (.slice (some ⟨w.heap.size + 1, 0, none⟩) 0 0) []) := HO1.out.below hb2
  clear hb2 HB1 HX1 HO1 HHP
  cases q2
  · have HT : Hid (ys = []) := HNO.out (.inr (.inl (by first | rfl | trivial)))
    go_wp2
    go_ret
    exact ⟨_, _, by rw [HT.out]; rfl, HB2.out, by rw [HT.out]; exact cm_empty _ _ _ _⟩
  have HYF : Hid _ := HYE.out (by first | rfl | trivial) (by first | rfl | trivial) h300
  go_wp2_with (first | (refine wpList_load_row rfl 44 (.tmp 3) rfl w.heap.size rfl 44 (tbA t a) (0, 0) _ HX2.out Tryz.underlying44 rfl (by kernel_rfl) ?_) | fail)
  refine Calls.mono (HRE.out (by first | rfl | trivial) (by first | rfl | trivial) _ HB2.out) ?_
  rintro e w3 ⟨AA, capz, rfl, hb3, hoi⟩
  obtain ⟨⟨p0, hp0⟩, hpos, hz6, hys⟩ := HYF.out
  have HYS : Hid (ys = cfL (joinV t.cs t.ps.length p) t.ds xs n) := hys
  have HPOS : Hid (∀ x ∈ joinV t.cs t.ps.length p, 0 ≤ x) := hpos
  have hz0 : 0 < (joinV t.cs t.ps.length p).length := List.length_pos_of_mem hp0
  clear hp0 HYF hys hpos HYE HNO HRE
  generalize joinV t.cs t.ps.length p = zs at hoi hz0 hz6 HYS HPOS
  have HSGx : Hid (Seg .i64 w3 AA zs) := hoi.seg
  obtain ⟨BA, oA, rfl, hb_1, hb_2, hb_3, _⟩ := hoi hz0
  have HBN : Hid (Below w.heap.size w w3) := HB2.out.trans (hb3.mono HB2.out.size)
  have HXN : Hid (TBx w3 w.heap.size t a) := HX2.out.below hb3
  have HON : Hid (OwnC w3 (w.heap.size + 1) (.slice (some ⟨w.heap.size + 1, 0, none⟩) 0 0) []) := HO2.out.below hb3
  have HSG0 : Hid (Seg .i64 w3 (some ⟨BA, oA, none⟩) zs ∧ BA < w3.heap.size) := ⟨HSGx.out, hb_3⟩
  have HGG0 : Hid (w.heap.size + 1 ≠ BA) := by
    have := (HO2.out.gl).1
    show _ ≠ _
    omega
  clear hb3 hoi HB2 HX2 HO2 HSGx hb_1 hb_2 hb_3
  obtain ⟨ii, hii, hz0', hs0, hb0⟩ := cm_info'
  have HII : Hid (Tryz.prog.info? 66 = some ii ∧ ii.zero = some (.agg #[.int .i64 0, .int .i64 0, .int .u32 0]) ∧ ii.size = 3 ∧ ii.bytes = 24) := ⟨hii, hz0', hs0, hb0⟩
  clear hii hz0' hs0 hb0
  go_wp2
  go_loopw [7, 32] (fun v i wr => ∃ (j m g cap : Nat), j ≤ n ∧ m ≤ j ∧ i = .int .i64 j ∧ v = .slice (some ⟨g, 0, none⟩) m cap ∧ Hid ((cfL zs t.ds xs j).length = m) ∧ Hid (Below w.heap.size w wr) ∧ Hid (TBx wr w.heap.size t a) ∧ Hid (OwnC wr (w.heap.size + 1) (.slice (some ⟨g, 0, none⟩) m cap) (cfL zs t.ds xs j)) ∧ Hid (Seg .i64 wr (some ⟨BA, oA, none⟩) zs ∧ BA < wr.heap.size) ∧ Hid (g ≠ BA)) (fun _ i _ => n - (intOf i).toNat)
  case atStart => exact ⟨0, 0, w.heap.size + 1, 0, by omega, by omega, rfl, rfl, rfl, HBN.out, HXN.out, HON.out, HSG0.out, HGG0.out⟩
  case round =>
    clear HBN HXN HON HSG0 HGG0
    obtain ⟨j, m, g, cap, hj, hmj, rfl, rfl, HFL, HBW, HXW, HOW, HSG, HGG⟩ := hrel
    by_cases hjn : j < n
    rotate_left
    · obtain rfl : j = n := by omega
      have hjn' : ¬ ((j : Int) < (j : Int)) := by omega
      go_wp2
      go_ret
      have hh := HOW.out
      rw [← HFL.out] at hh
      obtain ⟨a', cap', e1, h4⟩ := hh.oc
      cases e1
      exact ⟨_, _, by rw [HYS.out, HFL.out]; rfl, HBW.out, by rw [HYS.out]; exact h4.wide (by omega) (Nat.le_refl _)⟩
    have hjn' : (j : Int) < (n : Int) := by omega
    obtain ⟨b1, o1, hca, hbl1, p1⟩ := HC.out.at j hjn
    replace p1 := p1.of (w' := wr) (fun i => HBW.out.cell (p := ⟨b1, i, none⟩) hbl1)
    simp only [cmX] at p1
    obtain ⟨x, HX⟩ : ∃ x, Hid (xs.getD j cm0 = x) := ⟨_, rfl⟩
    rw [HX.out] at p1
    have HYE : Hid (keepC zs t.ds x = true → cfL zs t.ds xs (j + 1) = cfL zs t.ds xs j ++ [plC x]) := fun h => cf_yes HX.out h
    have HNO : Hid (keepC zs t.ds x = false → cfL zs t.ds xs (j + 1) = cfL zs t.ds xs j) := fun h => cf_no HX.out h
    obtain ⟨F2, HF2⟩ : ∃ F2, Hid (cfL zs t.ds xs (j + 1) = F2) := ⟨_, rfl⟩
    rw [HF2.out] at HYE HNO
    generalize cfL zs t.ds xs j = F at HYE HNO HFL HOW
    obtain ⟨c0, c1, c2⟩ := cm_cells p1
    obtain ⟨x1, x2, x3⟩ := x
    simp only at c0 c1 c2
    have HRa0 : Hid ((wr.alloc (.cells #[.int .i64 x1, .int .i64 x2, .int .u32 x3] 66)).heap[wr.heap.size]? = some (.cells #[.int .i64 x1, .int .i64 x2, .int .u32 x3] 66 (0, 0))) := new_row wr _ _ _ rfl
    have hba : Below wr.heap.size wr (wr.alloc (.cells #[.int .i64 x1, .int .i64 x2, .int .u32 x3] 66)) := (Below.refl _ _).alloc (Nat.le_refl _) _
    have HBa0 : Hid (Below w.heap.size w (wr.alloc (.cells #[.int .i64 x1, .int .i64 x2, .int .u32 x3] 66))) := HBW.out.trans (hba.mono HBW.out.size)
    have HXa0 : Hid (TBx (wr.alloc (.cells #[.int .i64 x1, .int .i64 x2, .int .u32 x3] 66)) w.heap.size t a) := HXW.out.below hba
    have HOa0 : Hid (OwnC (wr.alloc (.cells #[.int .i64 x1, .int .i64 x2, .int .u32 x3] 66)) (w.heap.size + 1) (.slice (some ⟨g, 0, none⟩) m cap) F) := HOW.out.below hba
    have HSa0 : Hid (Seg .i64 (wr.alloc (.cells #[.int .i64 x1, .int .i64 x2, .int .u32 x3] 66)) (some ⟨BA, oA, none⟩) zs ∧ BA < (wr.alloc (.cells #[.int .i64 x1, .int .i64 x2, .int .u32 x3] 66)).heap.size) := ⟨HSG.out.1.below hba, Nat.lt_of_lt_of_le HSG.out.2 hba.size⟩
    clear p1 hbl1 hba HBW HXW HOW HSG HX
    rw [hca]
    by_cases hx0 : x1 = 0
    · have hb0 : (x1 == 0) = true := by simp [hx0]
      have HE : Hid (F2 = F ++ [plC (x1, x2, x3)]) := HYE.out (by unfold keepC; simp [hx0])
      clear hx0
      go_wp2_with fail
      revert HRa0 HBa0 HXa0 HOa0 HSa0
      generalize wr.alloc (.cells #[.int .i64 x1, .int .i64 x2, .int .u32 x3] 66) = wa
      generalize wr.heap.size = N
      intro HR HBW HXW HOW HSG
      clear c0 c1 c2
      refine Calls.mono (cm_plain x1 x2 x3 _) ?_
      rintro e w6 ⟨rfl, hb6⟩
      replace HXW : Hid (TBx w6 w.heap.size t a) := HXW.out.below hb6
      replace HOW : Hid (OwnC w6 (w.heap.size + 1) (.slice (some ⟨g, 0, none⟩) m cap) F) := HOW.out.below hb6
      replace HSG : Hid (Seg .i64 w6 (some ⟨BA, oA, none⟩) zs ∧ BA < w6.heap.size) := ⟨HSG.out.1.below hb6, Nat.lt_of_lt_of_le HSG.out.2 hb6.size⟩
      replace HBW : Hid (Below w.heap.size w w6) := HBW.out.trans (hb6.mono HBW.out.size)
      clear hb6 HR
      generalize plC (x1, x2, x3) = y at HE
      obtain ⟨y1, y2, y3⟩ := y
      have HBSk : Hid (w.heap.size + 1 ≤ w6.heap.size) := by have := HOW.out.gl; show _ ≤ _; omega
      have halk : Below w6.heap.size w6 (w6.alloc (.cells #[.int .i64 y1, .int .i64 y2, .int .u32 y3] 66)) := (Below.refl _ _).alloc (Nat.le_refl _) _
      have hownk : (w6.alloc (.cells #[.int .i64 y1, .int .i64 y2, .int .u32 y3] 66)).ownsRow (w.heap.size + 1) 66 3 (.slice (some ⟨g, 0, none⟩) m cap) m (ccells F) := by
        have := HOW.out.below halk
        unfold OwnC at this
        rw [HFL.out] at this
        exact this
      have hlowk := HOW.out.block
      have HZk : Hid (∀ (gg cap1 : Nat) (w9 : World), w9.ownsRow (w.heap.size + 1) 66 3 (.slice (some ⟨gg, 0, none⟩) (m + 1) cap1) (m + 1) (ccells F ++ [.int .i64 y1, .int .i64 y2, .int .u32 y3]) → (w6.alloc (.cells #[.int .i64 y1, .int .i64 y2, .int .u32 y3] 66)).grownBy w9 (Value.slice (some ⟨g, 0, none⟩) m cap).ownBlock → ((Value.slice (some ⟨g, 0, none⟩) m cap).ownBlock = some gg ∨ gg = (w6.alloc (.cells #[.int .i64 y1, .int .i64 y2, .int .u32 y3] 66)).heap.size) → OwnC w9 (w.heap.size + 1) (.slice (some ⟨gg, 0, none⟩) (m + 1) cap1) (F ++ [(y1, y2, y3)]) ∧ Below w.heap.size w w9 ∧ TBx w9 w.heap.size t a ∧ (Seg .i64 w9 (some ⟨BA, oA, none⟩) zs ∧ BA < w9.heap.size) ∧ gg ≠ BA) := fun gg cap1 w9 h1 h2 h3 => by
        have h1' : OwnC w9 (w.heap.size + 1) (.slice (some ⟨gg, 0, none⟩) (m + 1) cap1) (F ++ [(y1, y2, y3)]) := by
          rw [← HFL.out] at h1 ⊢
          exact OwnC.snoc h1
        have hrow : ∀ k, (Value.slice (some ⟨g, 0, none⟩) m cap).ownBlock = some k → k = g := fun k e => by simpa [Value.ownBlock, eq_comm] using e
        have hbz := HBW.out.trans (halk.mono HBW.out.size)
        have hgl := fun k e => (hlowk k e : w.heap.size + 1 ≤ k)
        have hsz := HXW.out.lt
        have hB : w9.heap[w.heap.size]? = (w6.alloc (.cells #[.int .i64 y1, .int .i64 y2, .int .u32 y3] 66)).heap[w.heap.size]? := h2.block w.heap.size (Nat.lt_of_lt_of_le hsz halk.size) (fun e => by have := hgl _ e.symm; omega)
        have hgb : w9.heap[BA]? = (w6.alloc (.cells #[.int .i64 y1, .int .i64 y2, .int .u32 y3] 66)).heap[BA]? := h2.block BA (Nat.lt_of_lt_of_le HSG.out.2 halk.size) (fun e => HGG.out (hrow _ e.symm).symm)
        have hseg : Seg .i64 w9 (some ⟨BA, oA, none⟩) zs := fun h0 => by
          obtain ⟨b, off, e, hlt, hc⟩ := (HSG.out.1.below halk) h0
          cases e
          exact ⟨BA, oA, rfl, Nat.lt_of_lt_of_le HSG.out.2 (Nat.le_trans halk.size h2.size), fun i hi => (World.cell?_of_block hgb).trans (hc i hi)⟩
        exact ⟨h1', Below.grown hbz h2 hbz.size (fun g' e => by have := hgl g' e; omega), hB.trans (HXW.out.below halk), ⟨hseg, Nat.lt_of_lt_of_le HSG.out.2 (Nat.le_trans halk.size h2.size)⟩, (by
          rcases h3 with h3 | h3
          · rw [hrow _ h3]; exact HGG.out
          · have h4 := HSG.out.2; have h6 := halk.size; omega)⟩
      have hbsk : (w.heap.size + 1) ≤ w6.heap.size := HBSk.out
      clear halk hlowk HBW HXW HOW HSG HGG
      go_wp2_with (first | (at_builtin; (refine wpList_append_lies _ rfl (.tmp 46) (.tmp 49) 47 rfl ((w.heap.size + 1)) 66 ii (.agg #[.int .i64 0, .int .i64 0, .int .u32 0]) 3 24 Tryz.underlying47 HII.out.1 HII.out.2.1 HII.out.2.2.1 HII.out.2.2.2 rfl (by omega) _ _ _ rfl hownk _ 1 1 [.int .i64 y1, .int .i64 y2, .int .u32 y3] rfl rfl (cm_new _ _ _ _ _ (by simp)) (cm_oneB _ _ _) (by omega) (by unfold maxLen; omega) (by omega) (by simp; omega) _ rfl ?_; intro gg cap1 w9 hown1 hgrow hat hlt1; have HY : Hid _ := HZk.out gg cap1 w9 hown1 hgrow hat; clear hown1 hgrow hat hlt1)) | fail)
      have HE2 : Hid ((cfL zs t.ds xs (j + 1)).length = m + 1 ∧ OwnC w9 (w.heap.size + 1) (.slice (some ⟨gg, 0, none⟩) (m + 1) cap1) (cfL zs t.ds xs (j + 1))) := by
        rw [HF2.out, HE.out]
        exact ⟨by rw [← HFL.out]; simp, HY.out.1⟩
      go_roundw
      case rel => exact ⟨j + 1, m + 1, gg, cap1, by omega, by omega, by go_num, rfl, HE2.out.1, HY.out.2.1, HY.out.2.2.1, HE2.out.2, HY.out.2.2.2.1, HY.out.2.2.2.2⟩
      case measure => simp [intOf]; omega
    have hb0 : (x1 == 0) = false := by simpa using hx0
    obtain ⟨v, HV⟩ : ∃ v, Hid (partV t.ds (x1, x2, x3) = v) := ⟨_, rfl⟩
    have HKP : Hid (keepC zs t.ds (x1, x2, x3) = decide (v ∈ zs)) := by show _ = _; unfold keepC; rw [HV.out]; simp [hx0]
    clear hx0
    go_wp2_with (first | (refine wpList_load_rowG rfl 44 (.tmp 3) rfl w.heap.size rfl 44 (tbA t a) (0, 0) _ HXa0.out Tryz.underlying44 rfl (by kernel_rfl) ?_) | fail)
    revert HRa0 HBa0 HXa0 HOa0 HSa0
    generalize wr.alloc (.cells #[.int .i64 x1, .int .i64 x2, .int .u32 x3] 66) = wa
    generalize wr.heap.size = N
    intro HR HBW HXW HOW HSG
    clear c0 c1 c2
    refine Calls.mono (HDS.out _ HBW.out x1 x2 x3 v HV.out) ?_
    rintro e w4 ⟨rfl, hb4⟩
    replace HXW : Hid (TBx w4 w.heap.size t a) := HXW.out.below hb4
    replace HOW : Hid (OwnC w4 (w.heap.size + 1) (.slice (some ⟨g, 0, none⟩) m cap) F) := HOW.out.below hb4
    replace HSG : Hid (Seg .i64 w4 (some ⟨BA, oA, none⟩) zs ∧ BA < w4.heap.size) := ⟨HSG.out.1.below hb4, Nat.lt_of_lt_of_le HSG.out.2 hb4.size⟩
    replace HR : Hid (w4.heap[N]? = some (.cells #[.int .i64 x1, .int .i64 x2, .int .u32 x3] 66 (0, 0))) := row_below HR.out hb4
    replace HBW : Hid (Below w.heap.size w w4) := HBW.out.trans (hb4.mono HBW.out.size)
    clear hb4 HV
    obtain ⟨r, HRR⟩ : ∃ r, Hid (decide (v ∈ zs) = r) := ⟨_, rfl⟩
    go_wp2_with fail
    refine Calls.mono (con_l _ capz zs v r _ HSG.out.1 (by omega) HRR.out) ?_
    rintro e w5 ⟨rfl, hw5⟩
    subst hw5
    cases r
    · have HE : Hid (F2 = F) := HNO.out (by rw [HKP.out]; exact HRR.out)
      go_wp2
      go_roundw
      case rel => exact ⟨j + 1, m, g, cap, by omega, by omega, by go_num, rfl, (by show _ = _; rw [HF2.out, HE.out]; exact HFL.out), HBW.out, HXW.out, (by show OwnC _ _ _ _; rw [HF2.out, HE.out]; exact HOW.out), HSG.out, HGG.out⟩
      case measure => simp [intOf]; omega
    have HE : Hid (F2 = F ++ [plC (x1, x2, x3)]) := HYE.out (by rw [HKP.out]; exact HRR.out)
    have e0 : w5.cell? ⟨N, 0, none⟩ = some (.int .i64 x1) := row_cell HR.out _ _ rfl
    have e1 : w5.cell? ⟨N, 1, none⟩ = some (.int .i64 x2) := row_cell HR.out _ _ rfl
    have e2 : w5.cell? ⟨N, 2, none⟩ = some (.int .u32 x3) := row_cell HR.out _ _ rfl
    go_wp2_with fail
    refine Calls.mono (cm_plain x1 x2 x3 _) ?_
    rintro e w6 ⟨rfl, hb6⟩
    replace HXW : Hid (TBx w6 w.heap.size t a) := HXW.out.below hb6
    replace HOW : Hid (OwnC w6 (w.heap.size + 1) (.slice (some ⟨g, 0, none⟩) m cap) F) := HOW.out.below hb6
    replace HSG : Hid (Seg .i64 w6 (some ⟨BA, oA, none⟩) zs ∧ BA < w6.heap.size) := ⟨HSG.out.1.below hb6, Nat.lt_of_lt_of_le HSG.out.2 hb6.size⟩
    replace HBW : Hid (Below w.heap.size w w6) := HBW.out.trans (hb6.mono HBW.out.size)
    clear hb6 HR
    clear e0 e1 e2
    generalize plC (x1, x2, x3) = y at HE
    obtain ⟨y1, y2, y3⟩ := y
    have HBSk : Hid (w.heap.size + 1 ≤ w6.heap.size) := by have := HOW.out.gl; show _ ≤ _; omega
    have halk : Below w6.heap.size w6 (w6.alloc (.cells #[.int .i64 y1, .int .i64 y2, .int .u32 y3] 66)) := (Below.refl _ _).alloc (Nat.le_refl _) _
    have hownk : (w6.alloc (.cells #[.int .i64 y1, .int .i64 y2, .int .u32 y3] 66)).ownsRow (w.heap.size + 1) 66 3 (.slice (some ⟨g, 0, none⟩) m cap) m (ccells F) := by
      have := HOW.out.below halk
      unfold OwnC at this
      rw [HFL.out] at this
      exact this
    have hlowk := HOW.out.block
    have HZk : Hid (∀ (gg cap1 : Nat) (w9 : World), w9.ownsRow (w.heap.size + 1) 66 3 (.slice (some ⟨gg, 0, none⟩) (m + 1) cap1) (m + 1) (ccells F ++ [.int .i64 y1, .int .i64 y2, .int .u32 y3]) → (w6.alloc (.cells #[.int .i64 y1, .int .i64 y2, .int .u32 y3] 66)).grownBy w9 (Value.slice (some ⟨g, 0, none⟩) m cap).ownBlock → ((Value.slice (some ⟨g, 0, none⟩) m cap).ownBlock = some gg ∨ gg = (w6.alloc (.cells #[.int .i64 y1, .int .i64 y2, .int .u32 y3] 66)).heap.size) → OwnC w9 (w.heap.size + 1) (.slice (some ⟨gg, 0, none⟩) (m + 1) cap1) (F ++ [(y1, y2, y3)]) ∧ Below w.heap.size w w9 ∧ TBx w9 w.heap.size t a ∧ (Seg .i64 w9 (some ⟨BA, oA, none⟩) zs ∧ BA < w9.heap.size) ∧ gg ≠ BA) := fun gg cap1 w9 h1 h2 h3 => by
      have h1' : OwnC w9 (w.heap.size + 1) (.slice (some ⟨gg, 0, none⟩) (m + 1) cap1) (F ++ [(y1, y2, y3)]) := by
        rw [← HFL.out] at h1 ⊢
        exact OwnC.snoc h1
      have hrow : ∀ k, (Value.slice (some ⟨g, 0, none⟩) m cap).ownBlock = some k → k = g := fun k e => by simpa [Value.ownBlock, eq_comm] using e
      have hbz := HBW.out.trans (halk.mono HBW.out.size)
      have hgl := fun k e => (hlowk k e : w.heap.size + 1 ≤ k)
      have hsz := HXW.out.lt
      have hB : w9.heap[w.heap.size]? = (w6.alloc (.cells #[.int .i64 y1, .int .i64 y2, .int .u32 y3] 66)).heap[w.heap.size]? := h2.block w.heap.size (Nat.lt_of_lt_of_le hsz halk.size) (fun e => by have := hgl _ e.symm; omega)
      have hgb : w9.heap[BA]? = (w6.alloc (.cells #[.int .i64 y1, .int .i64 y2, .int .u32 y3] 66)).heap[BA]? := h2.block BA (Nat.lt_of_lt_of_le HSG.out.2 halk.size) (fun e => HGG.out (hrow _ e.symm).symm)
      have hseg : Seg .i64 w9 (some ⟨BA, oA, none⟩) zs := fun h0 => by
        obtain ⟨b, off, e, hlt, hc⟩ := (HSG.out.1.below halk) h0
        cases e
        exact ⟨BA, oA, rfl, Nat.lt_of_lt_of_le HSG.out.2 (Nat.le_trans halk.size h2.size), fun i hi => (World.cell?_of_block hgb).trans (hc i hi)⟩
      exact ⟨h1', Below.grown hbz h2 hbz.size (fun g' e => by have := hgl g' e; omega), hB.trans (HXW.out.below halk), ⟨hseg, Nat.lt_of_lt_of_le HSG.out.2 (Nat.le_trans halk.size h2.size)⟩, (by
        rcases h3 with h3 | h3
        · rw [hrow _ h3]; exact HGG.out
        · have h4 := HSG.out.2; have h6 := halk.size; omega)⟩
    have hbsk : (w.heap.size + 1) ≤ w6.heap.size := HBSk.out
    clear halk hlowk HBW HXW HOW HSG HGG
    go_wp2_with (first | (at_builtin; (refine wpList_append_lies _ rfl (.tmp 46) (.tmp 49) 47 rfl ((w.heap.size + 1)) 66 ii (.agg #[.int .i64 0, .int .i64 0, .int .u32 0]) 3 24 Tryz.underlying47 HII.out.1 HII.out.2.1 HII.out.2.2.1 HII.out.2.2.2 rfl (by omega) _ _ _ rfl hownk _ 1 1 [.int .i64 y1, .int .i64 y2, .int .u32 y3] rfl rfl (cm_new _ _ _ _ _ (by simp)) (cm_oneB _ _ _) (by omega) (by unfold maxLen; omega) (by omega) (by simp; omega) _ rfl ?_; intro gg cap1 w9 hown1 hgrow hat hlt1; have HY : Hid _ := HZk.out gg cap1 w9 hown1 hgrow hat; clear hown1 hgrow hat hlt1)) | fail)
    have HE2 : Hid ((cfL zs t.ds xs (j + 1)).length = m + 1 ∧ OwnC w9 (w.heap.size + 1) (.slice (some ⟨gg, 0, none⟩) (m + 1) cap1) (cfL zs t.ds xs (j + 1))) := by
      rw [HF2.out, HE.out]
      exact ⟨by rw [← HFL.out]; simp, HY.out.1⟩
    go_roundw
    case rel => exact ⟨j + 1, m + 1, gg, cap1, by omega, by omega, by go_num, rfl, HE2.out.1, HY.out.2.1, HY.out.2.2.1, HE2.out.2, HY.out.2.2.2.1, HY.out.2.2.2.2⟩
    case measure => simp [intOf]; omega
end Go.Proofs.YtgmhcngdgfhhaaaGreatDoor
