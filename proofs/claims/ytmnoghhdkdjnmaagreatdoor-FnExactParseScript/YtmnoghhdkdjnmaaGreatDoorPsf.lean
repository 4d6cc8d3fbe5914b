
/-
  What the program's ParseScript returns. Conditions: the lists lie in memory; the text is at most 1048576 bytes long; the program's table of extras holds what the program's text lays; the library's variable MaxLen holds a number.
-/
import Derived.Test.YtmnoghhdkdjnmaaGreatDoorBas
import Derived.Test.YtmnoghhdkdjnmaaGreatDoorPse
import Derived.Test.YtmnoghhdkdjnmaaGreatDoorPsd
import Derived.Test.YtmnoghhdkdjnmaaGreatDoorRl3
namespace Go.Proofs.YtmnoghhdkdjnmaaGreatDoor
open Go.ChangeShapes Go.WideShapes Go.ChangeAt Go.RowKit Go.Deep Go.Joins
set_option linter.unusedVariables false

set_option maxRecDepth 40000 in
set_option maxHeartbeats 8000000 in
theorem impl_pq (t : Tb) (a : Ad) (s : ByteArray) (ys : List cmT) (cd ln : Int) (w : World) (hm : TM 0 w t a) (hw : TW t a) (hs : TS a) (he : TabE w) (hcp : a.pn ≤ a.pc) (hx : TabM w) (hsz : s.size ≤ 1048576) (hP : Sr.PQ t s ys cd ln) :
    Calls Tryz.prog 14 #[tbV t a, .string s] w (LPostQ w ys cd ln) := by
  obtain ⟨qs, hqs⟩ := told (Sd t)
  have HB0 : Hid (Below w.heap.size w (w.alloc (.cells (tbA t a) 43))) := (Below.refl _ _).alloc (Nat.le_refl _) _
  have HX0 : Hid (TBx (w.alloc (.cells (tbA t a) 43)) w.heap.size t a) := TBx.new w t a _ rfl
  have HSP : Hid (Calls Tryz.prog 32 #[tbV t a] (w.alloc (.cells (tbA t a) 43)) fun e w' => e = .returned (.bool qs) ∧ Below (w.alloc (.cells (tbA t a) 43)).heap.size (w.alloc (.cells (tbA t a) 43)) w') := impl_sound t a qs _ (hm.below HB0.out) hw hs (he.below HB0.out) hcp hqs
  have HRC : Hid (∀ X m9 x, Below w.heap.size w X → RdM X m9 → x.size ≤ 1048576 → RC X t a m9 x) := fun X m9 x hX hr hz => ⟨hm.below hX, hw, hr, hx.below hX, hz⟩
  have HTM : Hid (∀ X, Below w.heap.size w X → TabM X) := fun X hX => hx.below hX
  have HQ : Hid (qs = true ↔ Sd t) := hqs
  have HPQ : Hid (Sr.PQ t s ys cd ln) := hP
  have HSZ : Hid (s.size ≤ 1048576) := hsz
  clear hm hw hs he hcp hx hqs hP hsz
  go_enter Tryz.func14, Tryz.ntmps14
  go_wp2_with (first | (refine wpList_load_row rfl 43 (.tmp 2) rfl w.heap.size rfl 43 (tbA t a) (0, 0) _ HX0.out Tryz.underlying43 rfl (by kernel_rfl) ?_) | fail)
  refine Calls.mono HSP.out ?_
  rintro e w1 ⟨rfl, hb1⟩
  have HBX : Hid (Below w.heap.size w w1) := HB0.out.trans (hb1.mono HB0.out.size)
  have HX1 : Hid (TBx w1 w.heap.size t a) := HX0.out.below hb1
  have HWB : Hid (w.heap.size < w1.heap.size) := Nat.lt_of_lt_of_le (show w.heap.size < (w.alloc (.cells (tbA t a) 43)).heap.size by simp) hb1.size
  clear hb1 HB0 HX0 HSP
  cases qs
  · have HT : Hid (ys = [] ∧ cd = 5 ∧ ln = 0) := by
      rcases HPQ.out with ⟨_, h⟩ | ⟨h, _⟩ | ⟨h, _⟩
      · exact h
      · have := HQ.out.2 h; cases this
      · have := HQ.out.2 h; cases this
    go_wp2
    go_ret3
    exact ⟨_, _, by rw [HT.out.1, HT.out.2.1, HT.out.2.2]; rfl, HBX.out.alloc HBX.out.size _, by rw [HT.out.1]; exact cm_empty _ _ _ _⟩
  have HT0 : Hid (Sd t) := HQ.out.1 rfl
  clear HQ
  go_wp2_with fail
  refine Calls.mono (impl_lined s _ HSZ.out) ?_
  rintro e w2 ⟨rfl, hw2⟩
  rw [hw2]
  clear hw2
  obtain ⟨qk, HQK⟩ : ∃ q, Hid (Ln.ok s = q) := ⟨_, rfl⟩
  rw [HQK.out]
  cases qk
  · have HT : Hid (ys = [] ∧ cd = 1 ∧ ln = 0) := by
      rcases HPQ.out with ⟨h, _⟩ | ⟨_, _, h⟩ | ⟨_, h, _⟩
      · exact absurd HT0.out h
      · exact h
      · rw [HQK.out] at h; cases h
    go_wp2
    go_ret3
    exact ⟨_, _, by rw [HT.out.1, HT.out.2.1, HT.out.2.2]; rfl, HBX.out.alloc HBX.out.size _, by rw [HT.out.1]; exact cm_empty _ _ _ _⟩
  have HPC : Hid ((Sr.stL t (Ln.pieces s) (Ln.pieces s).length = .inl ys ∧ cd = 0 ∧ ln = 0) ∨ (Sr.stL t (Ln.pieces s) (Ln.pieces s).length = .inr (cd, ln) ∧ ys = [])) := by
    rcases HPQ.out with ⟨h, _⟩ | ⟨_, h, _⟩ | ⟨_, _, h⟩
    · exact absurd HT0.out h
    · rw [HQK.out] at h; cases h
    · exact h
  have hnl : (Ln.pieces s).length ≤ 1048576 := by have := Ln.pieces_many s; have := HSZ.out; omega
  have HSH : Hid (∀ x ∈ Ln.pieces s, x.size ≤ 1048576) := fun x hx => Nat.le_trans (Ln.pieces_shortQ s x hx) HSZ.out
  clear HPQ HQK HT0
  obtain ⟨ls, HLSD⟩ : ∃ ls, Hid (Ln.pieces s = ls) := ⟨_, rfl⟩
  rw [HLSD.out] at HPC hnl HSH
  obtain ⟨n, HN⟩ : ∃ n, Hid (n = ls.length) := ⟨_, rfl⟩
  rw [← HN.out] at hnl HPC
  have HOA : Hid (OwnC (w1.alloc (.cells #[] 62)) w1.heap.size (.slice (some ⟨w1.heap.size, 0, none⟩) 0 0) []) := OwnC.new w1 _ rfl
  have hbA : Below w1.heap.size w1 (w1.alloc (.cells #[] 62)) := (Below.refl _ _).alloc (Nat.le_refl _) _
  have HBA : Hid (Below w.heap.size w (w1.alloc (.cells #[] 62))) := HBX.out.trans (hbA.mono HBX.out.size)
  have HXA : Hid (TBx (w1.alloc (.cells #[] 62)) w.heap.size t a) := HX1.out.below hbA
  clear hbA HBX HX1
  go_wp2_with fail
  refine Calls.mono (readers _) ?_
  rintro e w4 ⟨rfl, hrd, hb4⟩
  have hszA : (w1.alloc (.cells #[] 62)).heap.size = w1.heap.size + 1 := by simp
  rw [hszA] at hrd ⊢
  have HR4 : Hid (RdM w4 (w1.heap.size + 1)) := hrd
  have HB4 : Hid (Below w.heap.size w w4) := HBA.out.trans (hb4.mono HBA.out.size)
  have HX4 : Hid (TBx w4 w.heap.size t a) := HXA.out.below hb4
  have HO4 : Hid (OwnC w4 w1.heap.size (.slice (some ⟨w1.heap.size, 0, none⟩) 0 0) []) := HOA.out.below hb4
  clear hrd hb4 HBA HXA HOA hszA
  go_wp2_with fail
  refine Calls.mono (impl_lines s ls n _ HSZ.out (HTM.out _ HB4.out) HLSD HN) ?_
  rintro e w5 ⟨rfl, hb5, hfl, _⟩
  have HR5 : Hid (RdM w5 (w1.heap.size + 1)) := HR4.out.below hb5
  have HB5 : Hid (Below w.heap.size w w5) := HB4.out.trans (hb5.mono HB4.out.size)
  have HX5 : Hid (TBx w5 w.heap.size t a) := HX4.out.below hb5
  have HO5 : Hid (OwnC w5 w1.heap.size (.slice (some ⟨w1.heap.size, 0, none⟩) 0 0) []) := HO4.out.below hb5
  obtain ⟨bl, HBL⟩ : ∃ bl, Hid (w4.heap.size = bl) := ⟨_, rfl⟩
  have hblv : (w1.heap.size + 1) < bl := by rw [← HBL.out]; exact HR4.out.lt
  rw [HBL.out] at hfl ⊢
  have HL5 : Hid (0 < n → (∀ i, i < n → w5.cell? ⟨bl, i, none⟩ = some (.string (ls.getD i ⟨#[]⟩))) ∧ bl < w5.heap.size) := fun h0 => by
    obtain ⟨h1, off, h2, h3⟩ := hfl (by rw [← HN.out]; exact h0)
    injection h2 with h2
    injection h2 with _ h2 _
    subst h2
    refine ⟨fun i hi => ?_, h1⟩
    have := h3 i (ls.getD i ⟨#[]⟩) (by rw [List.getD_eq_getElem?_getD, List.getElem?_eq_getElem (by rw [← HN.out]; exact hi)]; rfl)
    simpa using this
  clear hfl hb5 HB4 HX4 HO4 HR4 HBL
  obtain ⟨ii, hii, hz1', hs0, hb0⟩ := cm_info'
  have HII : Hid (Tryz.prog.info? 62 = some ii ∧ ii.zero = some (.agg #[.int .i64 0, .int .i64 0, .int .u32 0]) ∧ ii.size = 3 ∧ ii.bytes = 24) := ⟨hii, hz1', hs0, hb0⟩
  clear hii hz1' hs0 hb0
  have HG0 : Hid (w1.heap.size ≠ (w1.heap.size + 1) ∧ w1.heap.size ≠ bl) := ⟨by omega, by omega⟩
  clear hblv
  go_wp2
  go_loopw [7, 26] (fun v i wr => ∃ (j g cap : Nat) (F : List cmT), j ≤ n ∧ i = .int .i64 j ∧ v = .slice (some ⟨g, 0, none⟩) j cap ∧ F.length = j ∧ Hid (Sr.stL t ls j = .inl F) ∧ Hid (Below w.heap.size w wr) ∧ Hid (TBx wr w.heap.size t a) ∧ Hid (RdM wr (w1.heap.size + 1)) ∧ Hid (0 < n → (∀ i, i < n → wr.cell? ⟨bl, i, none⟩ = some (.string (ls.getD i ⟨#[]⟩))) ∧ bl < wr.heap.size) ∧ Hid (OwnC wr w1.heap.size (.slice (some ⟨g, 0, none⟩) j cap) F) ∧ Hid (g ≠ (w1.heap.size + 1) ∧ g ≠ bl)) (fun _ i _ => n - (intOf i).toNat)
  case atStart => exact ⟨0, w1.heap.size, 0, [], by omega, rfl, rfl, rfl, rfl, HB5.out, HX5.out, HR5.out, HL5.out, HO5.out, HG0.out⟩
  case round =>
    clear HB5 HX5 HR5 HL5 HO5 HG0
    obtain ⟨j, g, cap, F, hj, rfl, rfl, hFl, HST, HBW0, HXW0, HRW0, HLW0, HOW0, HGG⟩ := hrel
    have HFL : Hid (F.length = j) := hFl
    clear hFl
    have hj3 := (Sr.stL_len HST.out).2
    by_cases hjn : j < n
    rotate_left
    · obtain rfl : j = n := by omega
      have hjn' : ¬ ((j : Int) < (j : Int)) := by omega
      have HT : Hid (ys = F ∧ cd = 0 ∧ ln = 0) := by
        rcases HPC.out with ⟨h, h1, h2⟩ | ⟨h, _⟩
        · rw [HST.out] at h
          injection h with h
          exact ⟨h.symm, h1, h2⟩
        · rw [HST.out] at h; cases h
      go_wp2
      go_ret3
      have hh := HOW0.out
      rw [← HFL.out] at hh
      obtain ⟨a', cap', e1, h4⟩ := hh.oc
      cases e1
      exact ⟨_, _, by rw [HT.out.1, HT.out.2.1, HT.out.2.2, HFL.out]; rfl, HBW0.out, by rw [HT.out.1]; exact h4.wide (Nat.le_of_lt HWB.out) (Nat.le_refl _)⟩
    have hjn' : (j : Int) < (n : Int) := by omega
    obtain ⟨hl1, hl2⟩ := HLW0.out (by omega)
    have HLA : Hid ((∀ i, i < n → wr.cell? ⟨bl, i, none⟩ = some (.string (ls.getD i ⟨#[]⟩))) ∧ bl < wr.heap.size) := ⟨hl1, hl2⟩
    have hcx := hl1 j hjn
    clear hl1 hl2 HLW0
    obtain ⟨x, HXX⟩ : ∃ x, Hid (ls.getD j ⟨#[]⟩ = x) := ⟨_, rfl⟩
    rw [HXX.out] at hcx
    obtain ⟨p1, p2, p3, p4, hpp⟩ : ∃ p1 p2 p3 p4, Sr.wordsP t (Sp.texts 32 x) = ((p1, p2, p3), p4) := ⟨_, _, _, _, rfl⟩
    have HPP : Hid (Sr.wordsP t (Sp.texts 32 (ls.getD j ⟨#[]⟩)) = ((p1, p2, p3), p4)) := by show _ = _; rw [HXX.out]; exact hpp
    have HNO1 : Hid (¬ p4 = 0 → ys = [] ∧ cd = p4 ∧ ln = (j : Int) + 1) := fun h => by
      have hst := Sr.stL_bad HST.out HPP.out h hjn
      rcases HPC.out with ⟨g1, _⟩ | ⟨g1, g2⟩
      · rw [hst] at g1; cases g1
      · rw [hst] at g1
        injection g1 with g1
        injection g1 with g1 g3
        exact ⟨g2, g1.symm, g3.symm⟩
    have HNO2 : Hid (p4 = 0 → 300 ≤ j → ys = [] ∧ cd = 4 ∧ ln = (j : Int) + 1) := fun h h3 => by
      have hpp2 := HPP.out
      rw [h] at hpp2
      have hst := Sr.stL_many HST.out hpp2 h3 hjn
      rcases HPC.out with ⟨g1, _⟩ | ⟨g1, g2⟩
      · rw [hst] at g1; cases g1
      · rw [hst] at g1
        injection g1 with g1
        injection g1 with g1 g3
        exact ⟨g2, g1.symm, g3.symm⟩
    have hxs : x.size ≤ 1048576 := by rw [← HXX.out]; exact HSH.out _ (getD_in ls _ j (by rw [← HN.out]; exact hjn))
    have HRD : Hid (Calls Tryz.prog 48 #[tbV t a, .map (some (w1.heap.size + 1)), .string x] wr fun e w' => e = .returned (.tuple #[.agg #[.int .i64 p1, .int .i64 p2, .int .u32 p3], .int .i64 p4]) ∧ Below wr.heap.size wr w') := by
      have h := read_cmd t a (w1.heap.size + 1) x wr (HRC.out wr (w1.heap.size + 1) x HBW0.out HRW0.out hxs)
      rw [hpp] at h
      exact h
    clear hxs hpp HXX
    go_wp2_with (first | (refine wpList_load_row rfl 43 (.tmp 2) rfl w.heap.size rfl 43 (tbA t a) (0, 0) _ HXW0.out Tryz.underlying43 rfl (by kernel_rfl) ?_) | fail)
    refine Calls.mono HRD.out ?_
    rintro e V ⟨rfl, hbV⟩
    have HNV : Hid ((V.alloc (.cells #[.int .i64 0, .int .i64 0, .int .u32 0] 62)).heap[V.heap.size]? = some (.cells #[.int .i64 0, .int .i64 0, .int .u32 0] 62 (0, 0))) := new_row V _ _ _ rfl
    have hbZ : Below V.heap.size V ((V.alloc (.cells #[.int .i64 0, .int .i64 0, .int .u32 0] 62)).setRow V.heap.size #[.int .i64 p1, .int .i64 p2, .int .u32 p3]) := below_setRow ((Below.refl _ _).alloc (Nat.le_refl _) _) (Nat.le_refl _) _
    have hbT : Below wr.heap.size wr ((V.alloc (.cells #[.int .i64 0, .int .i64 0, .int .u32 0] 62)).setRow V.heap.size #[.int .i64 p1, .int .i64 p2, .int .u32 p3]) := hbV.trans (hbZ.mono hbV.size)
    have hrow0 : ((V.alloc (.cells #[.int .i64 0, .int .i64 0, .int .u32 0] 62)).setRow V.heap.size #[.int .i64 p1, .int .i64 p2, .int .u32 p3]).heap[V.heap.size]? = some (.cells #[.int .i64 p1, .int .i64 p2, .int .u32 p3] 62 (0, 0)) := setRow_heap _ _ _ _ _ _ HNV.out
    have e0 : ((V.alloc (.cells #[.int .i64 0, .int .i64 0, .int .u32 0] 62)).setRow V.heap.size #[.int .i64 p1, .int .i64 p2, .int .u32 p3]).cell? ⟨V.heap.size, 0, none⟩ = some (.int .i64 p1) := row_c hrow0 0 _ rfl
    have e1 : ((V.alloc (.cells #[.int .i64 0, .int .i64 0, .int .u32 0] 62)).setRow V.heap.size #[.int .i64 p1, .int .i64 p2, .int .u32 p3]).cell? ⟨V.heap.size, 1, none⟩ = some (.int .i64 p2) := row_c hrow0 1 _ rfl
    have e2 : ((V.alloc (.cells #[.int .i64 0, .int .i64 0, .int .u32 0] 62)).setRow V.heap.size #[.int .i64 p1, .int .i64 p2, .int .u32 p3]).cell? ⟨V.heap.size, 2, none⟩ = some (.int .u32 p3) := row_c hrow0 2 _ rfl
    have HBW : Hid (Below w.heap.size w ((V.alloc (.cells #[.int .i64 0, .int .i64 0, .int .u32 0] 62)).setRow V.heap.size #[.int .i64 p1, .int .i64 p2, .int .u32 p3])) := HBW0.out.trans (hbT.mono HBW0.out.size)
    have HXW : Hid (TBx ((V.alloc (.cells #[.int .i64 0, .int .i64 0, .int .u32 0] 62)).setRow V.heap.size #[.int .i64 p1, .int .i64 p2, .int .u32 p3]) w.heap.size t a) := HXW0.out.below hbT
    have HRW : Hid (RdM ((V.alloc (.cells #[.int .i64 0, .int .i64 0, .int .u32 0] 62)).setRow V.heap.size #[.int .i64 p1, .int .i64 p2, .int .u32 p3]) (w1.heap.size + 1)) := HRW0.out.below hbT
    have HLW : Hid ((∀ i, i < n → ((V.alloc (.cells #[.int .i64 0, .int .i64 0, .int .u32 0] 62)).setRow V.heap.size #[.int .i64 p1, .int .i64 p2, .int .u32 p3]).cell? ⟨bl, i, none⟩ = some (.string (ls.getD i ⟨#[]⟩))) ∧ bl < ((V.alloc (.cells #[.int .i64 0, .int .i64 0, .int .u32 0] 62)).setRow V.heap.size #[.int .i64 p1, .int .i64 p2, .int .u32 p3]).heap.size) := ⟨fun i hi => cell_kept hbT (HLA.out.1 i hi), Nat.lt_of_lt_of_le HLA.out.2 hbT.size⟩
    have HOW : Hid (OwnC ((V.alloc (.cells #[.int .i64 0, .int .i64 0, .int .u32 0] 62)).setRow V.heap.size #[.int .i64 p1, .int .i64 p2, .int .u32 p3]) w1.heap.size (.slice (some ⟨g, 0, none⟩) j cap) F) := HOW0.out.below hbT
    clear hbV hbZ hbT hrow0 HBW0 HXW0 HRW0 HLA HOW0 HRD hcx
    have hwj : IntKind.i64.wrap ((j : Int) + 1) = (j : Int) + 1 := by rw [IntKind.wrap_i64]; omega
    by_cases hp4 : p4 = 0
    · subst hp4
      by_cases h300 : j < 300
      · have hge : ((j : Int) == 300) = false := by rw [beq_eq_false_iff_ne]; omega
        have HF2 : Hid (Sr.stL t ls (j + 1) = .inl (F ++ [(p1, p2, p3)])) := Sr.stL_ok HST.out HPP.out h300
        clear HNO1 HNO2 HPP HST
        have hbs9 : w1.heap.size ≤ V.heap.size + 1 := by have h9 := HOW.out.gl; simp at h9; omega
        have HBSp : Hid (w1.heap.size ≤ ((V.alloc (.cells #[.int .i64 0, .int .i64 0, .int .u32 0] 62)).setRow V.heap.size #[.int .i64 p1, .int .i64 p2, .int .u32 p3]).heap.size) := by have := HOW.out.gl; show _ ≤ _; omega
        have halp : Below ((V.alloc (.cells #[.int .i64 0, .int .i64 0, .int .u32 0] 62)).setRow V.heap.size #[.int .i64 p1, .int .i64 p2, .int .u32 p3]).heap.size ((V.alloc (.cells #[.int .i64 0, .int .i64 0, .int .u32 0] 62)).setRow V.heap.size #[.int .i64 p1, .int .i64 p2, .int .u32 p3]) (((V.alloc (.cells #[.int .i64 0, .int .i64 0, .int .u32 0] 62)).setRow V.heap.size #[.int .i64 p1, .int .i64 p2, .int .u32 p3]).alloc (.cells #[.int .i64 p1, .int .i64 p2, .int .u32 p3] 62)) := (Below.refl _ _).alloc (Nat.le_refl _) _
        have hownp : (((V.alloc (.cells #[.int .i64 0, .int .i64 0, .int .u32 0] 62)).setRow V.heap.size #[.int .i64 p1, .int .i64 p2, .int .u32 p3]).alloc (.cells #[.int .i64 p1, .int .i64 p2, .int .u32 p3] 62)).ownsRow (w1.heap.size) 62 3 (.slice (some ⟨g, 0, none⟩) j cap) j (ccells F) := by
          have := HOW.out.below halp
          unfold OwnC at this
          rw [HFL.out] at this
          exact this
        have hlowp := HOW.out.block
        have HZp : Hid (∀ (gg cap1 : Nat) (w9 : World), w9.ownsRow (w1.heap.size) 62 3 (.slice (some ⟨gg, 0, none⟩) (j + 1) cap1) (j + 1) (ccells F ++ [.int .i64 p1, .int .i64 p2, .int .u32 p3]) → (((V.alloc (.cells #[.int .i64 0, .int .i64 0, .int .u32 0] 62)).setRow V.heap.size #[.int .i64 p1, .int .i64 p2, .int .u32 p3]).alloc (.cells #[.int .i64 p1, .int .i64 p2, .int .u32 p3] 62)).grownBy w9 (Value.slice (some ⟨g, 0, none⟩) j cap).ownBlock → ((Value.slice (some ⟨g, 0, none⟩) j cap).ownBlock = some gg ∨ gg = (((V.alloc (.cells #[.int .i64 0, .int .i64 0, .int .u32 0] 62)).setRow V.heap.size #[.int .i64 p1, .int .i64 p2, .int .u32 p3]).alloc (.cells #[.int .i64 p1, .int .i64 p2, .int .u32 p3] 62)).heap.size) → OwnC w9 (w1.heap.size) (.slice (some ⟨gg, 0, none⟩) (j + 1) cap1) (F ++ [(p1, p2, p3)]) ∧ Below w.heap.size w w9 ∧ TBx w9 w.heap.size t a ∧ RdM w9 (w1.heap.size + 1) ∧ ((∀ i, i < n → w9.cell? ⟨bl, i, none⟩ = some (.string (ls.getD i ⟨#[]⟩))) ∧ bl < w9.heap.size) ∧ gg ≠ (w1.heap.size + 1) ∧ gg ≠ bl) := fun gg cap1 w9 h1 h2 h3 => by
          have h1' : OwnC w9 (w1.heap.size) (.slice (some ⟨gg, 0, none⟩) (j + 1) cap1) (F ++ [(p1, p2, p3)]) := by
            rw [← HFL.out] at h1 ⊢
            exact OwnC.snoc h1
          have hrow : ∀ k, (Value.slice (some ⟨g, 0, none⟩) j cap).ownBlock = some k → k = g := fun k e => by simpa [Value.ownBlock, eq_comm] using e
          have hbz := HBW.out.trans (halp.mono HBW.out.size)
          have hgl := fun k e => (hlowp k e : w1.heap.size ≤ k)
          have hsz := HXW.out.lt
          have hB : w9.heap[w.heap.size]? = (((V.alloc (.cells #[.int .i64 0, .int .i64 0, .int .u32 0] 62)).setRow V.heap.size #[.int .i64 p1, .int .i64 p2, .int .u32 p3]).alloc (.cells #[.int .i64 p1, .int .i64 p2, .int .u32 p3] 62)).heap[w.heap.size]? := h2.block w.heap.size (Nat.lt_of_lt_of_le hsz halp.size) (fun e => by have := hgl _ e.symm; have := HWB.out; omega)
          have hmb : w9.heap[(w1.heap.size + 1)]? = (((V.alloc (.cells #[.int .i64 0, .int .i64 0, .int .u32 0] 62)).setRow V.heap.size #[.int .i64 p1, .int .i64 p2, .int .u32 p3]).alloc (.cells #[.int .i64 p1, .int .i64 p2, .int .u32 p3] 62)).heap[(w1.heap.size + 1)]? := h2.block (w1.heap.size + 1) (Nat.lt_of_lt_of_le HRW.out.lt halp.size) (fun e => HGG.out.1 (hrow _ e.symm).symm)
          have hbl : w9.heap[bl]? = (((V.alloc (.cells #[.int .i64 0, .int .i64 0, .int .u32 0] 62)).setRow V.heap.size #[.int .i64 p1, .int .i64 p2, .int .u32 p3]).alloc (.cells #[.int .i64 p1, .int .i64 p2, .int .u32 p3] 62)).heap[bl]? := h2.block bl (Nat.lt_of_lt_of_le HLW.out.2 halp.size) (fun e => HGG.out.2 (hrow _ e.symm).symm)
          refine ⟨h1', Below.grown hbz h2 hbz.size (fun g' e => by have := hgl g' e; have := HWB.out; omega), hB.trans (HXW.out.below halp), (HRW.out.below halp).kept hmb, ⟨fun i hi => (World.cell?_of_block (a := ⟨bl, i, none⟩) hbl).trans (cell_kept halp (HLW.out.1 i hi)), Nat.lt_of_lt_of_le HLW.out.2 (Nat.le_trans halp.size h2.size)⟩, ?_, ?_⟩
          · rcases h3 with h3 | h3
            · rw [hrow _ h3]; exact HGG.out.1
            · have h4 := HRW.out.lt; have h6 := halp.size; omega
          · rcases h3 with h3 | h3
            · rw [hrow _ h3]; exact HGG.out.2
            · have h4 := HLW.out.2; have h6 := halp.size; omega
        have hbsp : (w1.heap.size) ≤ ((V.alloc (.cells #[.int .i64 0, .int .i64 0, .int .u32 0] 62)).setRow V.heap.size #[.int .i64 p1, .int .i64 p2, .int .u32 p3]).heap.size := HBSp.out
        clear halp hlowp HBW HXW HOW HRW HLW
        go_wp2_with (first | (refine wpList_store_row rfl 62 (.tmp 11) (.tmp 36) rfl V.heap.size #[.int .i64 p1, .int .i64 p2, .int .u32 p3] rfl rfl 62 #[.int .i64 0, .int .i64 0, .int .u32 0] HNV.out (by kernel_rfl) rfl (by simp [Value.oneCell']) ?_) | (at_builtin; (refine wpList_append_lies _ rfl (.tmp 51) (.tmp 53) 45 rfl ((w1.heap.size)) 62 ii (.agg #[.int .i64 0, .int .i64 0, .int .u32 0]) 3 24 Tryz.underlying45 HII.out.1 HII.out.2.1 HII.out.2.2.1 HII.out.2.2.2 rfl (by omega) _ _ _ rfl hownp _ 1 1 [.int .i64 p1, .int .i64 p2, .int .u32 p3] rfl rfl (cm_new _ _ _ _ _ (by simp)) (cm_oneB _ _ _) (by omega) (by unfold maxLen; omega) (by omega) (by simp; omega) _ rfl ?_; intro gg cap1 w9 hown1 hgrow hat hlt1; have HY : Hid _ := HZp.out gg cap1 w9 hown1 hgrow hat; clear hown1 hgrow hat hlt1)) | fail)
        go_wp2
        go_roundw
        case rel => exact ⟨j + 1, gg, cap1, F ++ [(p1, p2, p3)], by omega, by go_num, rfl, by rw [List.length_append, HFL.out]; rfl, HF2.out, HY.out.2.1, HY.out.2.2.1, HY.out.2.2.2.1, fun _ => HY.out.2.2.2.2.1, HY.out.1, HY.out.2.2.2.2.2⟩
        case measure => simp [intOf]; omega
      · have hge : ((j : Int) == 300) = true := by rw [beq_iff_eq]; omega
        have HT : Hid (ys = [] ∧ cd = 4 ∧ ln = (j : Int) + 1) := HNO2.out rfl (by omega)
        have HBX := HBW
        clear HNO1 HNO2 HPP HST
        go_wp2_with (first | (refine wpList_store_row rfl 62 (.tmp 11) (.tmp 36) rfl V.heap.size #[.int .i64 p1, .int .i64 p2, .int .u32 p3] rfl rfl 62 #[.int .i64 0, .int .i64 0, .int .u32 0] HNV.out (by kernel_rfl) rfl (by simp [Value.oneCell']) ?_) | fail)
        go_ret3
        exact ⟨_, _, by rw [HT.out.1, HT.out.2.1, HT.out.2.2]; rfl, HBX.out.alloc HBX.out.size _, by rw [HT.out.1]; exact cm_empty _ _ _ _⟩
    · have hb4 : (p4 == 0) = false := by simpa using hp4
      have hb5 : (p4 != 0) = true := by simpa using hp4
      have HT : Hid (ys = [] ∧ cd = p4 ∧ ln = (j : Int) + 1) := HNO1.out hp4
      have HBX := HBW
      clear HNO1 HNO2 HPP HST
      go_wp2_with (first | (refine wpList_store_row rfl 62 (.tmp 11) (.tmp 36) rfl V.heap.size #[.int .i64 p1, .int .i64 p2, .int .u32 p3] rfl rfl 62 #[.int .i64 0, .int .i64 0, .int .u32 0] HNV.out (by kernel_rfl) rfl (by simp [Value.oneCell']) ?_) | fail)
      go_ret3
      exact ⟨_, _, by rw [HT.out.1, HT.out.2.1, HT.out.2.2]; rfl, HBX.out.alloc HBX.out.size _, by rw [HT.out.1]; exact cm_empty _ _ _ _⟩
end Go.Proofs.YtmnoghhdkdjnmaaGreatDoor
