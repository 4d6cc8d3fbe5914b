
/-
  Whether two systems look alike to a partition: the specification's SameFor. Conditions: the lists lie in memory; lengths are at most 1048576; bytes are bytes.
-/
import Derived.Test.YtgmhcngdgfhhaaaGreatDoorBas
import Derived.Test.YtgmhcngdgfhhaaaGreatDoorSfc
namespace Go.Proofs.YtgmhcngdgfhhaaaGreatDoor
open Go.ChangeShapes Go.WideShapes Go.ChangeAt Go.RowKit Go.Deep Go.Joins
set_option linter.unusedVariables false

theorem allW_at {ps : List Pt} {i j : Nat} (hi : i < ps.length) (hj : j < (ps.getD i pt0).ws.length) : (allW (ps.take i)).length + j < (allW ps).length ∧ (allW ps).getD ((allW (ps.take i)).length + j) wi0 = (ps.getD i pt0).ws.getD j wi0 := by
  have e : allW ps = allW (ps.take i) ++ ((ps.getD i pt0).ws ++ allW (ps.drop (i + 1))) := by
    have h0 : ps.take i ++ (ps.getD i pt0 :: ps.drop (i + 1)) = ps := by
      have : ps.getD i pt0 = ps[i] := by simp [List.getD, hi]
      rw [this, ← List.drop_eq_getElem_cons hi, List.take_append_drop]
    have h1 : allW (ps.take i ++ (ps.getD i pt0 :: ps.drop (i + 1))) = allW (ps.take i) ++ ((ps.getD i pt0).ws ++ allW (ps.drop (i + 1))) := by simp only [allW, List.map_append, List.map_cons, List.flatten_append, List.flatten_cons]
    rw [h0] at h1
    exact h1
  generalize allW (ps.take i) = A at e ⊢
  generalize allW (ps.drop (i + 1)) = C at e
  generalize (ps.getD i pt0).ws = B at e hj ⊢
  rw [e]
  constructor
  · rw [List.length_append, List.length_append]; omega
  · simp only [List.getD]
    rw [List.getElem?_append_right (by omega), Nat.add_sub_cancel_left, List.getElem?_append_left hj]
/-- All bytes are bytes. -/
def MBy (n : Nat) (N : Nat → Nat) (D : Nat → Nat → List Int) : Prop := ∀ i, i < n → ∀ j, j < N i → ∀ z ∈ D i j, 0 ≤ z ∧ z ≤ 255
theorem fit_pos {t : Tb} {n : Nat} {N : Nat → Nat} {D : Nat → Nat → List Int} (hs : Sd t) (h : ImsFit t n N D) {i j : Nat} (hi : i < n) (hj : j < N i) : 0 < (D i j).length := by
  obtain ⟨h1, h2, h3, h4⟩ := h.2 i hi
  rw [Int.toNat_natCast] at h3 h4
  have hip : i < t.ps.length := by omega
  have hjw : j < (t.ps.getD i pt0).ws.length := by rw [h3]; exact hj
  have r13 := hs 13 (by omega)
  simp only [R] at r13
  have := (r13 _ (allW_at hip hjw).1).1
  rw [(allW_at hip hjw).2] at this
  have h5 := h4 j hj
  have h6 : 4 ≤ ((t.ps.getD i pt0).ws.getD j wi0).2.1 := this.2.1
  omega
structure RS9 (V : World) (T0 P0 S1 S2 : Value) (U1 U2 : List cmT) (w' : World) (b0 b1 b2 b3 b4 b5 b6 b7 b8 b9 : Bool) (x72 x73 x74 x75 x76 x77 x78 x79 x15 x16 : Value) : Prop where
  gb : Below V.heap.size V w'
  f0 : b0 = true → x72 = T0
  f1 : b1 = true → x73 = P0
  f2 : b2 = true → x74 = S1
  f3 : b3 = true → ∃ A c, x75 = .slice A (U1).length c ∧ GSeg 3 w' A (U1).length (cmX (U1))
  f4 : b4 = true → x76 = T0
  f5 : b5 = true → x77 = P0
  f6 : b6 = true → x78 = S2
  f7 : b7 = true → ∃ A c, x79 = .slice A (U2).length c ∧ GSeg 3 w' A (U2).length (cmX (U2))
  f8 : b8 = true → ∃ A c, x15 = .slice A (U1).length c ∧ GSeg 3 w' A (U1).length (cmX (U1))
  f9 : b9 = true → ∃ A c, x16 = .slice A (U2).length c ∧ GSeg 3 w' A (U2).length (cmX (U2))
theorem RS9.below {V : World} {T0 P0 S1 S2 : Value} {U1 U2 : List cmT} {w' w2 : World} {b0 b1 b2 b3 b4 b5 b6 b7 b8 b9 : Bool} {x72 x73 x74 x75 x76 x77 x78 x79 x15 x16 : Value} (h : RS9 V T0 P0 S1 S2 U1 U2 w' b0 b1 b2 b3 b4 b5 b6 b7 b8 b9 x72 x73 x74 x75 x76 x77 x78 x79 x15 x16) (hb : Below w'.heap.size w' w2) : RS9 V T0 P0 S1 S2 U1 U2 w2 b0 b1 b2 b3 b4 b5 b6 b7 b8 b9 x72 x73 x74 x75 x76 x77 x78 x79 x15 x16 :=
  ⟨h.gb.trans (hb.mono h.gb.size), h.f0, h.f1, h.f2, fun g => (by obtain ⟨A, c, e, hs⟩ := h.f3 g; exact ⟨A, c, e, hs.below hb⟩), h.f4, h.f5, h.f6, fun g => (by obtain ⟨A, c, e, hs⟩ := h.f7 g; exact ⟨A, c, e, hs.below hb⟩), fun g => (by obtain ⟨A, c, e, hs⟩ := h.f8 g; exact ⟨A, c, e, hs.below hb⟩), fun g => (by obtain ⟨A, c, e, hs⟩ := h.f9 g; exact ⟨A, c, e, hs.below hb⟩)⟩
set_option maxRecDepth 40000 in
set_option maxHeartbeats 8000000 in
theorem spec_sf (t : Tb) (a : Ad) (p : Int) (ia ib ca cb : Option Addr) (ica icb cca ccb n m nx ny : Nat) (N M : Nat → Nat) (D E : Nat → Nat → List Int) (xs ys : List cmT) (q : Bool) (w : World) (hm : TM 0 w t a) (hw : TW t a) (hs : TS a)
    (ha : MSeg w ia n N D) (hb : MSeg w ib m M E) (hn : n ≤ 1048576) (hmm : m ≤ 1048576) (hd : MSz n N D) (hE : MSz m M E) (hbd : MBy n N D) (hbe : MBy m M E) (hx : GSeg 3 w ca nx (cmX xs)) (hy : GSeg 3 w cb ny (cmX ys)) (hnx : nx ≤ 1048576) (hny : ny ≤ 1048576) (hq : q = true ↔ SFr t p n N D m M E nx xs ny ys) :
    Calls Tryz.prog 7 #[tbV t a, .int .i64 p, .slice ia n ica, .slice ca nx cca, .slice ib m icb, .slice cb ny ccb] w fun e w' => e = .returned (.bool q) ∧ Below w.heap.size w w' := by
  obtain ⟨qa, hqa⟩ := told (Sd t ∧ ImsFit t n N D)
  obtain ⟨qb, hqb⟩ := told (Sd t ∧ ImsFit t m M E)
  obtain ⟨q2, HQ2⟩ : ∃ b, Hid (inr p 0 ((a.pn : Int) - 1) = b) := ⟨_, rfl⟩
  have hpn : a.pn ≤ 1048576 := hs.p
  have HBE : Hid (Below w.heap.size w (w.alloc (.cells (tbA t a) 44))) := (Below.refl _ _).alloc (Nat.le_refl _) _
  have HXE : Hid (TBx (w.alloc (.cells (tbA t a) 44)) w.heap.size t a) := TBx.new w t a _ rfl
  have HIN : Hid (∀ X, Calls Tryz.prog 21 #[.int .i64 p, .int .i64 0, .int .i64 ((a.pn : Int) - 1)] X fun e w' => e = .returned (.bool q2) ∧ w' = X) := fun X => by rw [← HQ2.out]; exact in_any _ _ _ X
  have HIA : Hid (∀ X, Below w.heap.size w X → Calls Tryz.prog 20 #[tbV t a, .slice ia n ica] X fun e w' => e = .returned (.bool qa) ∧ Below X.heap.size X w') := fun X hX => spec_images t a ia ica n N D qa X (hm.below hX) hw hs (ha.below hX) hn hd hqa
  have HIB : Hid (∀ X, Below w.heap.size w X → Calls Tryz.prog 20 #[tbV t a, .slice ib m icb] X fun e w' => e = .returned (.bool qb) ∧ Below X.heap.size X w') := fun X hX => spec_images t a ib icb m M E qb X (hm.below hX) hw hs (hb.below hX) hmm hE hqb
  have HNO : Hid ((¬ nx ≤ 300 ∨ ¬ ny ≤ 300 ∨ q2 = false ∨ qa = false ∨ qb = false) → q = false) := fun h => by
    cases q
    · rfl
    · exfalso
      obtain ⟨g1, g2, g3, g4, g5, _⟩ := hq.1 rfl
      rw [hw.pl] at g5
      rcases h with h | h | h | h | h
      · exact h g3
      · exact h g4
      · rw [← HQ2.out, inr_yes ⟨g5.1, by have := g5.2; omega⟩] at h; cases h
      · rw [hqa.2 g1] at h; cases h
      · rw [hqb.2 g2] at h; cases h
  have HOK : Hid (qa = true → qb = true → q2 = true → nx ≤ 300 → ny ≤ 300 → (Sd t ∧ 0 ≤ p ∧ p < (t.ps.length : Int)) ∧ (ImsFit t n N D ∧ ImsFit t m M E) ∧ (q = true ↔ (∀ z ∈ joinV t.cs t.ps.length p, ImE (N z.toNat) (M z.toNat) (D z.toNat) (E z.toNat)) ∧ cfL (joinV t.cs t.ps.length p) t.ds xs nx = cfL (joinV t.cs t.ps.length p) t.ds ys ny)) := fun h1 h2 h3 h4 h5 => by
    have g1 := hqa.1 h1
    have g2 := hqb.1 h2
    have g3 := of_inr (HQ2.out.trans h3)
    have g3' : 0 ≤ p ∧ p < (t.ps.length : Int) := by rw [hw.pl]; omega
    exact ⟨⟨g1.1, g3'⟩, ⟨g1.2, g2.2⟩, hq.trans ⟨fun h => h.2.2.2.2.2, fun h => ⟨g1, g2, h4, h5, g3', h⟩⟩⟩
  have HRE : Hid (∀ X, Below w.heap.size w X → ∀ zs, JT t p zs → Calls Tryz.prog 22 #[tbV t a, .int .i64 p] X (LPostI X zs)) := fun X hX zs hz => spec_joined t a p zs X (hm.below hX) hw hs (hz.jr hw)
  have HCF : Hid (∀ (z1 : Option Addr) (z2 z3 : Nat) (zz us : List cmT) X, Below w.heap.size w X → GSeg 3 X z1 z3 (cmX zz) → z3 ≤ 1048576 → CT t p z3 zz us → Calls Tryz.prog 24 #[tbV t a, .int .i64 p, .slice z1 z3 z2] X (LPostC X us)) := fun z1 z2 z3 zz us X hX hz hz3 hct => spec_cf t a p z1 z2 z3 zz us X (hm.below hX) hw hs hz hz3 hct
  have HMS : Hid (MSeg w ia n N D ∧ MSeg w ib m M E) := ⟨ha, hb⟩
  have HSZ : Hid (MSz n N D ∧ MSz m M E) := ⟨hd, hE⟩
  have HBY : Hid (MBy n N D ∧ MBy m M E) := ⟨hbd, hbe⟩
  have HXY : Hid (GSeg 3 w ca nx (cmX xs) ∧ GSeg 3 w cb ny (cmX ys)) := ⟨hx, hy⟩
  have hw0 : IntKind.i64.wrap ((a.pn : Int) - 1) = (a.pn : Int) - 1 := by rw [IntKind.wrap_i64]; omega
  clear hm hw hs ha hb hd hE hbd hbe hx hy hq hqa hqb HQ2
  go_enter Tryz.func7, Tryz.ntmps7
  go_wp2_with (first | (refine wpList_load_row rfl 44 (.tmp 6) rfl w.heap.size rfl 44 (tbA t a) (0, 0) _ HXE.out Tryz.underlying44 rfl (by kernel_rfl) ?_) | fail)
  refine Calls.mono (HIA.out _ HBE.out) ?_
  rintro e w1 ⟨rfl, hb1⟩
  have HB1 : Hid (Below w.heap.size w w1) := HBE.out.trans (hb1.mono HBE.out.size)
  have HX1 : Hid (TBx w1 w.heap.size t a) := HXE.out.below hb1
  clear hb1 HBE HXE HIA
  cases qa
  · have HT : Hid (q = false) := HNO.out (.inr (.inr (.inr (.inl (by first | rfl | trivial)))))
    go_wp2
    go_ret
    exact ⟨by rw [HT.out]; rfl, HB1.out⟩
  go_wp2_with (first | (refine wpList_load_rowG rfl 44 (.tmp 6) rfl w.heap.size rfl 44 (tbA t a) (0, 0) _ HX1.out Tryz.underlying44 rfl (by kernel_rfl) ?_) | fail)
  refine Calls.mono (HIB.out _ HB1.out) ?_
  rintro e w2 ⟨rfl, hb2⟩
  have HB2 : Hid (Below w.heap.size w w2) := HB1.out.trans (hb2.mono HB1.out.size)
  have HX2 : Hid (TBx w2 w.heap.size t a) := HX1.out.below hb2
  clear hb2 HB1 HX1 HIB
  cases qb
  · have HT : Hid (q = false) := HNO.out (.inr (.inr (.inr (.inr (by first | rfl | trivial)))))
    go_wp2
    go_ret
    exact ⟨by rw [HT.out]; rfl, HB2.out⟩
  by_cases h3 : nx ≤ 300
  rotate_left
  · have hgt : (300 : Int) < (nx : Int) := by omega
    have HT : Hid (q = false) := HNO.out (.inl h3)
    go_wp2
    go_ret
    exact ⟨by rw [HT.out]; rfl, HB2.out⟩
  have hgt : ¬ ((300 : Int) < (nx : Int)) := by omega
  by_cases h4 : ny ≤ 300
  rotate_left
  · have hgt2 : (300 : Int) < (ny : Int) := by omega
    have HT : Hid (q = false) := HNO.out (.inr (.inl h4))
    go_wp2
    go_ret
    exact ⟨by rw [HT.out]; rfl, HB2.out⟩
  have hgt2 : ¬ ((300 : Int) < (ny : Int)) := by omega
  have k15 : w2.cell? ⟨w.heap.size, 15, none⟩ = some (.slice a.pa a.pn a.pc) := HX2.out.cell 15 rfl
  go_wp2_with fail
  refine Calls.mono (HIN.out _) ?_
  rintro e w3 ⟨rfl, hw3⟩
  subst hw3
  clear HIN k15 hw0
  cases q2
  · have HT : Hid (q = false) := HNO.out (.inr (.inr (.inl (by first | rfl | trivial))))
    go_wp2
    go_ret
    exact ⟨by rw [HT.out]; rfl, HB2.out⟩
  obtain ⟨hok, hfit, hqq⟩ := HOK.out (by first | rfl | trivial) (by first | rfl | trivial) (by first | rfl | trivial) h3 h4
  have HKO : Hid (Sd t ∧ 0 ≤ p ∧ p < (t.ps.length : Int)) := hok
  have HFT : Hid (ImsFit t n N D ∧ ImsFit t m M E) := hfit
  have HQQ : Hid _ := hqq
  have HJM : Hid (∀ z ∈ joinV t.cs t.ps.length p, 0 ≤ z ∧ z < (t.ps.length : Int)) := fun z hz => by
    unfold joinV at hz
    exact ((flt_mem _ _ _).1 hz).1
  clear HNO HOK hok hfit hqq
  have HJT : Hid (JT t p (joinV t.cs t.ps.length p)) := .inr ⟨HKO.out, rfl⟩
  have hj6 : (joinV t.cs t.ps.length p).length ≤ 6 := HJT.out.len
  have HU1 : Hid (CT t p nx xs (cfL (joinV t.cs t.ps.length p) t.ds xs nx)) := .inr ⟨⟨HKO.out, h3⟩, rfl⟩
  have HU2 : Hid (CT t p ny ys (cfL (joinV t.cs t.ps.length p) t.ds ys ny)) := .inr ⟨⟨HKO.out, h4⟩, rfl⟩
  have hu1 : (cfL (joinV t.cs t.ps.length p) t.ds xs nx).length ≤ 300 := HU1.out.len
  have hu2 : (cfL (joinV t.cs t.ps.length p) t.ds ys ny).length ≤ 300 := HU2.out.len
  generalize cfL (joinV t.cs t.ps.length p) t.ds xs nx = us at HU1 hu1 HQQ
  generalize cfL (joinV t.cs t.ps.length p) t.ds ys ny = vs at HU2 hu2 HQQ
  generalize joinV t.cs t.ps.length p = zs at HJT HQQ hj6 HJM
  go_wp2_with (first | (refine wpList_load_row rfl 44 (.tmp 6) rfl w.heap.size rfl 44 (tbA t a) (0, 0) _ HX2.out Tryz.underlying44 rfl (by kernel_rfl) ?_) | fail)
  refine Calls.mono (HRE.out _ HB2.out zs HJT.out) ?_
  rintro e w4 ⟨A, cA, rfl, hb4, hoi⟩
  have HB4 : Hid (Below w.heap.size w w4) := HB2.out.trans (hb4.mono HB2.out.size)
  have HX4 : Hid (TBx w4 w.heap.size t a) := HX2.out.below hb4
  have HSA : Hid (Seg .i64 w4 A zs) := hoi.seg
  clear hb4 hoi HB2 HX2 HRE
  obtain ⟨nz, hnz⟩ : ∃ nz, nz = zs.length := ⟨_, rfl⟩
  have HNZ : Hid (nz = zs.length) := hnz
  rw [← hnz] at hj6 ⊢
  clear hnz
  go_wp2
  go_loopw [14] (fun i wr => ∃ k : Nat, k ≤ nz ∧ i = .int .i64 k ∧ Hid (Below w.heap.size w wr) ∧ Hid (TBx wr w.heap.size t a) ∧ Hid (Seg .i64 wr A zs) ∧ Hid (∀ j, j < k → ImE (N (zs.getD j 0).toNat) (M (zs.getD j 0).toNat) (D (zs.getD j 0).toNat) (E (zs.getD j 0).toNat))) (fun i _ => nz - (intOf i).toNat)
  case atStart => exact ⟨0, by omega, rfl, HB4.out, HX4.out, HSA.out, fun j hj => by omega⟩
  case round =>
    clear HB4 HX4 HSA
    obtain ⟨k, hk, rfl, HB4, HX4, HSA, HR⟩ := hrel
    by_cases hkn : k < nz
    rotate_left
    · obtain rfl : k = nz := by omega
      have hkk : ¬ ((k : Int) < (k : Int)) := by omega
      have HAL : Hid (∀ z ∈ zs, ImE (N z.toNat) (M z.toNat) (D z.toNat) (E z.toNat)) := fun z hz => by
        obtain ⟨j, hj, e⟩ := List.getElem_of_mem hz
        have := HR.out j (by rw [HNZ.out]; exact hj)
        rwa [show zs.getD j 0 = z by simpa [List.getD, hj] using e] at this
      have HXB : Hid (∀ X, Below wr.heap.size wr X → X.heap[w.heap.size]? = some (.cells (tbA t a) 44 (0, 0))) := fun X hX => row_of (HX4.out.below hX)
      have HC1 : Hid (∀ X, Below wr.heap.size wr X → Calls Tryz.prog 24 #[tbV t a, .int .i64 p, .slice ca nx cca] X (LPostC X us)) := fun X hX => HCF.out ca cca nx xs us X (HB4.out.trans (hX.mono HB4.out.size)) (HXY.out.1.below (HB4.out.trans (hX.mono HB4.out.size))) hnx HU1.out
      have HC2 : Hid (∀ X, Below wr.heap.size wr X → Calls Tryz.prog 24 #[tbV t a, .int .i64 p, .slice cb ny ccb] X (LPostC X vs)) := fun X hX => HCF.out cb ccb ny ys vs X (HB4.out.trans (hX.mono HB4.out.size)) (HXY.out.2.below (HB4.out.trans (hX.mono HB4.out.size))) hny HU2.out
      have HW0 : Hid (Below wr.heap.size wr wr) := Below.refl _ _
      have HQE : Hid (q = true ↔ us = vs) := HQQ.out.trans ⟨fun h => h.2, fun h => ⟨HAL.out, h⟩⟩
      clear HR HAL HQQ HCF HMS HSZ HBY HXY HSA
      go_wp2
      refine wp_region_inv (by kernel_rfl) (by kernel_rfl) (fun A ℓ a' w' => ∃ (x72 x73 x74 x75 x76 x77 x78 x79 x15 x16 : Value), a' = ((((((((((A.put (some 72) x72).put (some 73) x73).put (some 74) x74).put (some 75) x75).put (some 76) x76).put (some 77) x77).put (some 78) x78).put (some 79) x79).put (some 15) x15).put (some 16) x16) ∧ RS9 wr (tbV t a) (.int .i64 p) (.slice ca nx cca) (.slice cb ny ccb) us vs w' (ℓ 0) (ℓ 1) (ℓ 2) (ℓ 3) (ℓ 4) (ℓ 5) (ℓ 6) (ℓ 7) (ℓ 8) (ℓ 9) x72 x73 x74 x75 x76 x77 x78 x79 x15 x16) ?_ ?_ ?_ ?_
      · exact ⟨undef, undef, undef, undef, undef, undef, undef, undef, undef, undef, (by simp only [Act.put, List.setIfInBounds_toArray, List.set_cons_zero, List.set_cons_succ]), ⟨HW0.out.drew, (fun g => by cases g), (fun g => by cases g), (fun g => by cases g), (fun g => by cases g), (fun g => by cases g), (fun g => by cases g), (fun g => by cases g), (fun g => by cases g), (fun g => by cases g), (fun g => by cases g)⟩⟩
      · intro ℓ a' w' hI hall
        obtain ⟨x72, x73, x74, x75, x76, x77, x78, x79, x15, x16, rfl, hr⟩ := hI
        have hall' : ∀ i, i < 10 → ℓ i = true := hall
        obtain rfl := hr.f0 (hall' 0 (by decide))
        obtain rfl := hr.f1 (hall' 1 (by decide))
        obtain rfl := hr.f2 (hall' 2 (by decide))
        obtain ⟨A3, c3, rfl, hs3⟩ := hr.f3 (hall' 3 (by decide))
        obtain rfl := hr.f4 (hall' 4 (by decide))
        obtain rfl := hr.f5 (hall' 5 (by decide))
        obtain rfl := hr.f6 (hall' 6 (by decide))
        obtain ⟨A7, c7, rfl, hs7⟩ := hr.f7 (hall' 7 (by decide))
        obtain ⟨A8, c8, rfl, hs8⟩ := hr.f8 (hall' 8 (by decide))
        obtain ⟨A9, c9, rfl, hs9⟩ := hr.f9 (hall' 9 (by decide))
        have gb : Hid (Below wr.heap.size wr w') := hr.gb
        clear hall hall' hr
        simp only [Act.put, List.setIfInBounds_toArray, List.set_cons_zero, List.set_cons_succ]
        have HBF : Hid (Below w.heap.size w w') := HB4.out.trans (gb.out.mono HB4.out.size)
        have HS5 : Hid (GSeg 3 w' A8 us.length (cmX us) ∧ GSeg 3 w' A9 vs.length (cmX vs)) := ⟨hs8, hs9⟩
        clear hs3 hs7 hs8 hs9 gb HC1 HC2 HXB HW0
        by_cases hl : us.length = vs.length
        rotate_left
        · have hlb : ((us.length : Int) != (vs.length : Int)) = true := by simp; omega
          have HT : Hid (q = false) := by
            cases q
            · rfl
            · exact absurd (by rw [HQE.out.1 rfl]) hl
          clear hl
          go_wp2
          go_ret
          exact ⟨by rw [HT.out]; rfl, HBF.out⟩
        have HL : Hid (us.length = vs.length) := hl
        obtain ⟨nu, hnu⟩ : ∃ nu, nu = us.length := ⟨_, rfl⟩
        have HNU : Hid (nu = us.length) := hnu
        rw [← hl, ← hnu]
        have hu3 : nu ≤ 300 := by omega
        clear hl hnu
        have hlb : ((nu : Int) != (nu : Int)) = false := by simp
        go_wp2
        go_loopw [17] (fun i wr => ∃ k : Nat, k ≤ nu ∧ i = .int .i64 k ∧ Hid (Below w'.heap.size w' wr ∧ ∀ j, j < k → us.getD j cm0 = vs.getD j cm0)) (fun i _ => nu - (intOf i).toNat)
        case atStart => exact ⟨0, by omega, rfl, Below.refl _ _, fun j hj => by omega⟩
        case round =>
          obtain ⟨k, hk, rfl, HR⟩ := hrel
          have HBW : Hid (Below w'.heap.size w' wr) := HR.out.1
          have HBG : Hid (Below w.heap.size w wr) := HBF.out.trans (HBW.out.mono HBF.out.size)
          by_cases hkn : k < nu
          rotate_left
          · obtain rfl : k = nu := by omega
            have hkk : ¬ ((k : Int) < (k : Int)) := by omega
            have HT : Hid (q = true) := HQE.out.2 (ext_cm HL.out (by rw [← HNU.out]; exact HR.out.2))
            go_wp2
            go_ret
            exact ⟨by rw [HT.out]; rfl, HBG.out⟩
          have hkn' : (k : Int) < (nu : Int) := by omega
          obtain ⟨b1, o1, hA8, hbl1, p1⟩ := HS5.out.1.at k (by rw [← HNU.out]; exact hkn)
          obtain ⟨b2, o2, hA9, hbl2, p2⟩ := HS5.out.2.at k (by rw [← HL.out, ← HNU.out]; exact hkn)
          replace p1 := p1.of (w' := wr) (fun j => HBW.out.cell (p := ⟨b1, j, none⟩) hbl1)
          replace p2 := p2.of (w' := wr) (fun j => HBW.out.cell (p := ⟨b2, j, none⟩) hbl2)
          simp only [cmX] at p1 p2
          obtain ⟨x, HX⟩ : ∃ x, Hid (us.getD k cm0 = x) := ⟨_, rfl⟩
          obtain ⟨y, HY⟩ : ∃ y, Hid (vs.getD k cm0 = y) := ⟨_, rfl⟩
          rw [HX.out] at p1
          rw [HY.out] at p2
          obtain ⟨c0, c1, c2⟩ := cm_cells p1
          obtain ⟨d0, d1, d2⟩ := cm_cells p2
          rw [hA8, hA9]
          have HA8 : Hid (A8 = some ⟨b1, o1, none⟩ ∧ A9 = some ⟨b2, o2, none⟩) := ⟨hA8, hA9⟩
          clear hbl1 hbl2 p1 p2 hA8 hA9
          by_cases hxy : x = y
          · subst hxy
            have HN : Hid (∀ j, j < k + 1 → us.getD j cm0 = vs.getD j cm0) := fun j hj => by
              by_cases e : j = k
              · subst e; rw [HX.out, HY.out]
              · exact HR.out.2 j (by omega)
            clear HR HX HY
            obtain ⟨x1, x2, x3⟩ := x
            simp only at c0 c1 c2 d0 d1 d2
            replace c0 := fun X => gr_cell c0 X
            replace c1 := fun X => gr_cell c1 X
            replace c2 := fun X => gr_cell c2 X
            replace d0 := fun X => gr_cell d0 X
            replace d1 := fun X => gr_cell d1 X
            replace d2 := fun X => gr_cell d2 X
            go_wp2
            have hgr := gr_some wr
            refine region_alike (by kernel_rfl) (by kernel_rfl) ?_
            repeat (go_big_quiet_step (fail))
            refine wpQuiet_nil ?_
            intro _ hw9
            obtain ⟨X1, rfl⟩ := hw9
            have hb2 := X1.h
            generalize X1.w = W1 at hb2 ⊢
            have HB1 : Hid (Below w'.heap.size w' W1) := HBW.out.trans (hb2.mono HBW.out.size)
            have HBH : Hid (Below w.heap.size w W1) := HBG.out.trans (hb2.mono HBG.out.size)
            clear hb2 c0 c1 c2 d0 d1 d2
            go_wp2
            go_roundw
            case rel => exact ⟨k + 1, by omega, by go_num, HB1.out, HN.out⟩
            case measure => simp [intOf]; omega
          · have HT : Hid (q = false) := by
              cases q
              · rfl
              · exact absurd (by rw [← HX.out, ← HY.out, HQE.out.1 rfl]) hxy
            clear HR
            obtain ⟨x1, x2, x3⟩ := x
            obtain ⟨y1, y2, y3⟩ := y
            simp only at c0 c1 c2 d0 d1 d2
            have hne : x1 ≠ y1 ∨ (x1 = y1 ∧ x2 ≠ y2) ∨ (x1 = y1 ∧ x2 = y2 ∧ x3 ≠ y3) := by simp only [Prod.mk.injEq] at hxy; omega
            clear hxy HX HY
            replace c0 := fun X => gr_cell c0 X
            replace c1 := fun X => gr_cell c1 X
            replace c2 := fun X => gr_cell c2 X
            replace d0 := fun X => gr_cell d0 X
            replace d1 := fun X => gr_cell d1 X
            replace d2 := fun X => gr_cell d2 X
            rcases hne with hd | ⟨rfl, hd⟩ | ⟨rfl, rfl, hd⟩
            · have hdd := decide_eq_false hd
              go_wp2
              have hgr := gr_some wr
              refine region_alike (by kernel_rfl) (by kernel_rfl) ?_
              repeat (go_big_quiet_step (fail))
              refine wpQuiet_nil ?_
              intro _ hw9
              obtain ⟨X1, rfl⟩ := hw9
              have hb2 := X1.h
              generalize X1.w = W1 at hb2 ⊢
              have HB1 : Hid (Below w'.heap.size w' W1) := HBW.out.trans (hb2.mono HBW.out.size)
              have HBH : Hid (Below w.heap.size w W1) := HBG.out.trans (hb2.mono HBG.out.size)
              clear hb2 c0 c1 c2 d0 d1 d2
              go_wp2
              go_ret
              exact ⟨by rw [HT.out]; rfl, HBH.out⟩
            · have hdd := decide_eq_false hd
              go_wp2
              have hgr := gr_some wr
              refine region_alike (by kernel_rfl) (by kernel_rfl) ?_
              repeat (go_big_quiet_step (fail))
              refine wpQuiet_nil ?_
              intro _ hw9
              obtain ⟨X1, rfl⟩ := hw9
              have hb2 := X1.h
              generalize X1.w = W1 at hb2 ⊢
              have HB1 : Hid (Below w'.heap.size w' W1) := HBW.out.trans (hb2.mono HBW.out.size)
              have HBH : Hid (Below w.heap.size w W1) := HBG.out.trans (hb2.mono HBG.out.size)
              clear hb2 c0 c1 c2 d0 d1 d2
              go_wp2
              go_ret
              exact ⟨by rw [HT.out]; rfl, HBH.out⟩
            · have hdd := decide_eq_false hd
              go_wp2
              have hgr := gr_some wr
              refine region_alike (by kernel_rfl) (by kernel_rfl) ?_
              repeat (go_big_quiet_step (fail))
              refine wpQuiet_nil ?_
              intro _ hw9
              obtain ⟨X1, rfl⟩ := hw9
              have hb2 := X1.h
              generalize X1.w = W1 at hb2 ⊢
              have HB1 : Hid (Below w'.heap.size w' W1) := HBW.out.trans (hb2.mono HBW.out.size)
              have HBH : Hid (Below w.heap.size w W1) := HBG.out.trans (hb2.mono HBG.out.size)
              clear hb2 c0 c1 c2 d0 d1 d2
              go_wp2
              go_ret
              exact ⟨by rw [HT.out]; rfl, HBH.out⟩
      · intro ℓ a' w' i o hI ho hi hL hdep K hK
        obtain ⟨x72, x73, x74, x75, x76, x77, x78, x79, x15, x16, rfl, hr⟩ := hI
        have hi7 : i < 10 := hi
        have hcs : i = 0 ∨ i = 1 ∨ i = 2 ∨ i = 3 ∨ i = 4 ∨ i = 5 ∨ i = 6 ∨ i = 7 ∨ i = 8 ∨ i = 9 := by omega
        clear hi hi7
        rcases hcs with rfl | rfl | rfl | rfl | rfl | rfl | rfl | rfl | rfl | rfl
        · replace ho : some ({ dst := some 72, op := .load 44 (.tmp 6), type := 44, pos := "l20_flow.go:87", after := #[], guard := none } : Oper) = some o := ho
          obtain rfl := Option.some.inj ho
          clear hdep ho
          revert hK
          intro hK
          rw [if_pos (by rfl)]
          try simp only [Act.put, List.setIfInBounds_toArray, List.set_cons_zero, List.set_cons_succ]
          refine wp_load_row (P := Tryz.prog) 44 (.tmp 6) rfl w.heap.size rfl 44 (tbA t a) (0, 0) _ (HXB.out _ hr.gb) Tryz.underlying44 rfl (by kernel_rfl) ?_
          exact hK.out _ _ (fun j => if j = 0 then true else ℓ j) ⟨tbV t a, x73, x74, x75, x76, x77, x78, x79, x15, x16, (by simp only [Act.put, List.setIfInBounds_toArray, List.set_cons_zero, List.set_cons_succ]), ⟨hr.gb, (fun _ => rfl), hr.f1, hr.f2, hr.f3, hr.f4, hr.f5, hr.f6, hr.f7, hr.f8, hr.f9⟩⟩ (if_pos rfl) (fun j hj => if_neg hj)
        · obtain rfl := Option.some.inj ho
          clear hdep ho
          revert hK
          intro hK
          rw [if_pos (by rfl)]
          try simp only [Act.put, List.setIfInBounds_toArray, List.set_cons_zero, List.set_cons_succ]
          go_simp
          exact hK.out _ _ (fun j => if j = 1 then true else ℓ j) ⟨x72, .int .i64 p, x74, x75, x76, x77, x78, x79, x15, x16, (by simp only [Act.put, List.setIfInBounds_toArray, List.set_cons_zero, List.set_cons_succ]), ⟨hr.gb, hr.f0, (fun _ => rfl), hr.f2, hr.f3, hr.f4, hr.f5, hr.f6, hr.f7, hr.f8, hr.f9⟩⟩ (if_pos rfl) (fun j hj => if_neg hj)
        · obtain rfl := Option.some.inj ho
          clear hdep ho
          revert hK
          intro hK
          rw [if_pos (by rfl)]
          try simp only [Act.put, List.setIfInBounds_toArray, List.set_cons_zero, List.set_cons_succ]
          go_simp
          exact hK.out _ _ (fun j => if j = 2 then true else ℓ j) ⟨x72, x73, .slice ca nx cca, x75, x76, x77, x78, x79, x15, x16, (by simp only [Act.put, List.setIfInBounds_toArray, List.set_cons_zero, List.set_cons_succ]), ⟨hr.gb, hr.f0, hr.f1, (fun _ => rfl), hr.f3, hr.f4, hr.f5, hr.f6, hr.f7, hr.f8, hr.f9⟩⟩ (if_pos rfl) (fun j hj => if_neg hj)
        · obtain rfl := Option.some.inj ho
          have g0 : ℓ 0 = true := hdep { on := 0, ground := Ground.data } (by simp) rfl
          have g1 : ℓ 1 = true := hdep { on := 1, ground := Ground.data } (by simp) rfl
          have g2 : ℓ 2 = true := hdep { on := 2, ground := Ground.data } (by simp) rfl
          clear hdep ho
          revert hK
          obtain rfl := hr.f0 g0
          obtain rfl := hr.f1 g1
          obtain rfl := hr.f2 g2
          intro hK
          rw [if_pos (by rfl)]
          try simp only [Act.put, List.setIfInBounds_toArray, List.set_cons_zero, List.set_cons_succ]
          go_simp
          refine Calls.mono (HC1.out _ hr.gb) ?_
          rintro e w9 ⟨AN, cN, rfl, hb9, hoi⟩
          have hr9 := hr.below hb9
          exact hK.out _ _ (fun j => if j = 3 then true else ℓ j) ⟨tbV t a, .int .i64 p, .slice ca nx cca, .slice AN (us).length cN, x76, x77, x78, x79, x15, x16, (by simp only [Act.put, List.setIfInBounds_toArray, List.set_cons_zero, List.set_cons_succ]), ⟨hr9.gb, (fun _ => rfl), (fun _ => rfl), (fun _ => rfl), (fun _ => ⟨AN, cN, rfl, hoi.2⟩), hr9.f4, hr9.f5, hr9.f6, hr9.f7, hr9.f8, hr9.f9⟩⟩ (if_pos rfl) (fun j hj => if_neg hj)
        · replace ho : some ({ dst := some 76, op := .load 44 (.tmp 6), type := 44, pos := "l20_flow.go:87", after := #[], guard := none } : Oper) = some o := ho
          obtain rfl := Option.some.inj ho
          clear hdep ho
          revert hK
          intro hK
          rw [if_pos (by rfl)]
          try simp only [Act.put, List.setIfInBounds_toArray, List.set_cons_zero, List.set_cons_succ]
          refine wp_load_row (P := Tryz.prog) 44 (.tmp 6) rfl w.heap.size rfl 44 (tbA t a) (0, 0) _ (HXB.out _ hr.gb) Tryz.underlying44 rfl (by kernel_rfl) ?_
          exact hK.out _ _ (fun j => if j = 4 then true else ℓ j) ⟨x72, x73, x74, x75, tbV t a, x77, x78, x79, x15, x16, (by simp only [Act.put, List.setIfInBounds_toArray, List.set_cons_zero, List.set_cons_succ]), ⟨hr.gb, hr.f0, hr.f1, hr.f2, hr.f3, (fun _ => rfl), hr.f5, hr.f6, hr.f7, hr.f8, hr.f9⟩⟩ (if_pos rfl) (fun j hj => if_neg hj)
        · obtain rfl := Option.some.inj ho
          clear hdep ho
          revert hK
          intro hK
          rw [if_pos (by rfl)]
          try simp only [Act.put, List.setIfInBounds_toArray, List.set_cons_zero, List.set_cons_succ]
          go_simp
          exact hK.out _ _ (fun j => if j = 5 then true else ℓ j) ⟨x72, x73, x74, x75, x76, .int .i64 p, x78, x79, x15, x16, (by simp only [Act.put, List.setIfInBounds_toArray, List.set_cons_zero, List.set_cons_succ]), ⟨hr.gb, hr.f0, hr.f1, hr.f2, hr.f3, hr.f4, (fun _ => rfl), hr.f6, hr.f7, hr.f8, hr.f9⟩⟩ (if_pos rfl) (fun j hj => if_neg hj)
        · obtain rfl := Option.some.inj ho
          clear hdep ho
          revert hK
          intro hK
          rw [if_pos (by rfl)]
          try simp only [Act.put, List.setIfInBounds_toArray, List.set_cons_zero, List.set_cons_succ]
          go_simp
          exact hK.out _ _ (fun j => if j = 6 then true else ℓ j) ⟨x72, x73, x74, x75, x76, x77, .slice cb ny ccb, x79, x15, x16, (by simp only [Act.put, List.setIfInBounds_toArray, List.set_cons_zero, List.set_cons_succ]), ⟨hr.gb, hr.f0, hr.f1, hr.f2, hr.f3, hr.f4, hr.f5, (fun _ => rfl), hr.f7, hr.f8, hr.f9⟩⟩ (if_pos rfl) (fun j hj => if_neg hj)
        · obtain rfl := Option.some.inj ho
          have g4 : ℓ 4 = true := hdep { on := 4, ground := Ground.data } (by simp) rfl
          have g5 : ℓ 5 = true := hdep { on := 5, ground := Ground.data } (by simp) rfl
          have g6 : ℓ 6 = true := hdep { on := 6, ground := Ground.data } (by simp) rfl
          clear hdep ho
          revert hK
          obtain rfl := hr.f4 g4
          obtain rfl := hr.f5 g5
          obtain rfl := hr.f6 g6
          intro hK
          rw [if_pos (by rfl)]
          try simp only [Act.put, List.setIfInBounds_toArray, List.set_cons_zero, List.set_cons_succ]
          go_simp
          refine Calls.mono (HC2.out _ hr.gb) ?_
          rintro e w9 ⟨AN, cN, rfl, hb9, hoi⟩
          have hr9 := hr.below hb9
          exact hK.out _ _ (fun j => if j = 7 then true else ℓ j) ⟨x72, x73, x74, x75, tbV t a, .int .i64 p, .slice cb ny ccb, .slice AN (vs).length cN, x15, x16, (by simp only [Act.put, List.setIfInBounds_toArray, List.set_cons_zero, List.set_cons_succ]), ⟨hr9.gb, hr9.f0, hr9.f1, hr9.f2, hr9.f3, (fun _ => rfl), (fun _ => rfl), (fun _ => rfl), (fun _ => ⟨AN, cN, rfl, hoi.2⟩), hr9.f8, hr9.f9⟩⟩ (if_pos rfl) (fun j hj => if_neg hj)
        · obtain rfl := Option.some.inj ho
          have g3 : ℓ 3 = true := hdep { on := 3, ground := Ground.data } (by simp) rfl
          clear hdep ho
          revert hK
          obtain ⟨A3, c3, rfl, hs3⟩ := hr.f3 g3
          intro hK
          rw [if_pos (by rfl)]
          try simp only [Act.put, List.setIfInBounds_toArray, List.set_cons_zero, List.set_cons_succ]
          go_simp
          exact hK.out _ _ (fun j => if j = 8 then true else ℓ j) ⟨x72, x73, x74, .slice A3 (us).length c3, x76, x77, x78, x79, .slice A3 (us).length c3, x16, (by simp only [Act.put, List.setIfInBounds_toArray, List.set_cons_zero, List.set_cons_succ]), ⟨hr.gb, hr.f0, hr.f1, hr.f2, (fun _ => ⟨A3, c3, rfl, hs3⟩), hr.f4, hr.f5, hr.f6, hr.f7, (fun _ => ⟨A3, c3, rfl, hs3⟩), hr.f9⟩⟩ (if_pos rfl) (fun j hj => if_neg hj)
        · obtain rfl := Option.some.inj ho
          have g7 : ℓ 7 = true := hdep { on := 7, ground := Ground.data } (by simp) rfl
          clear hdep ho
          revert hK
          obtain ⟨A7, c7, rfl, hs7⟩ := hr.f7 g7
          intro hK
          rw [if_pos (by rfl)]
          try simp only [Act.put, List.setIfInBounds_toArray, List.set_cons_zero, List.set_cons_succ]
          go_simp
          exact hK.out _ _ (fun j => if j = 9 then true else ℓ j) ⟨x72, x73, x74, x75, x76, x77, x78, .slice A7 (vs).length c7, x15, .slice A7 (vs).length c7, (by simp only [Act.put, List.setIfInBounds_toArray, List.set_cons_zero, List.set_cons_succ]), ⟨hr.gb, hr.f0, hr.f1, hr.f2, hr.f3, hr.f4, hr.f5, hr.f6, (fun _ => ⟨A7, c7, rfl, hs7⟩), hr.f8, (fun _ => ⟨A7, c7, rfl, hs7⟩)⟩⟩ (if_pos rfl) (fun j hj => if_neg hj)
      · rintro a' w' ℓ ℓ' hℓ hI
        rw [← show ℓ = ℓ' from funext hℓ]
        exact hI
    have hkn' : (k : Int) < (nz : Int) := by omega
    obtain ⟨bz, oz, rfl, hbz, cz⟩ := HSA.out.at k (by rw [← HNZ.out]; exact hkn)
    have hzm : zs.getD k 0 ∈ zs := by
      have hl : k < zs.length := by rw [← HNZ.out]; exact hkn
      have : zs.getD k 0 = zs[k] := by simp [List.getD, hl]
      rw [this]; exact List.getElem_mem _
    have hzr := HJM.out _ hzm
    obtain ⟨i, hi⟩ : ∃ i : Nat, zs.getD k 0 = (i : Int) := ⟨(zs.getD k 0).toNat, by omega⟩
    have HII : Hid (zs.getD k 0 = (i : Int)) := hi
    rw [hi] at cz hzr
    have HZM : Hid ((i : Int) ∈ zs) := by rw [← hi]; exact hzm
    have hin : i < n := by have := HFT.out.1.1; omega
    have him : i < m := by have := HFT.out.2.1; omega
    obtain ⟨r, hr⟩ := told (ImE (N i) (M i) (D i) (E i))
    have HRR : Hid (r = true ↔ ImE (N i) (M i) (D i) (E i)) := hr
    obtain ⟨b1, o1, a1, c1, hia, hl1, e1, s1⟩ := MSeg.at (HMS.out.1.below HB4.out) i hin
    obtain ⟨b2, o2, a2, c2, hib, hl2, e2, s2⟩ := MSeg.at (HMS.out.2.below HB4.out) i him
    have HC : Hid (∀ x : Gr wr, Calls Tryz.prog 23 #[.slice a1 (N i) c1, .slice a2 (M i) c2] x.w fun e w' => e = .returned (.bool r) ∧ Below x.w.heap.size x.w w') := fun x => same_s a1 a2 c1 c2 (N i) (M i) (D i) (E i) r x.w (s1.below x.h) (s2.below x.h) (HSZ.out.1 i hin).1 (HSZ.out.2 i him).1 (fun j hj => fit_pos HKO.out.1 HFT.out.1 hin hj) (fun j hj => fit_pos HKO.out.1 HFT.out.2 him hj) (HBY.out.1 i hin) (HBY.out.2 i him) hr
    have hin' : (i : Int) < (n : Int) := by omega
    have him' : (i : Int) < (m : Int) := by omega
    rw [hia, hib]
    have HIA2 : Hid (ia = some ⟨b1, o1, none⟩ ∧ ib = some ⟨b2, o2, none⟩) := ⟨hia, hib⟩
    replace cz := fun X => gr_cell cz X
    replace e1 := fun X => gr_cell e1 X
    replace e2 := fun X => gr_cell e2 X
    clear hbz hzm hi hr s1 s2 hl1 hl2 hzr hia hib
    go_wp2
    have hgr := gr_some wr
    refine region_alike (by kernel_rfl) (by kernel_rfl) ?_
    repeat (go_big_quiet_step (first | (go_at_call 23; exact gr_call (HC.out _))))
    refine wpQuiet_nil ?_
    intro _ hw'
    obtain ⟨X1, rfl⟩ := hw'
    have hb3 := X1.h
    generalize X1.w = W1 at hb3 ⊢
    have HBN : Hid (Below w.heap.size w W1) := HB4.out.trans (hb3.mono HB4.out.size)
    have HXN : Hid (TBx W1 w.heap.size t a) := HX4.out.below hb3
    have HSN : Hid (Seg .i64 W1 (some ⟨bz, oz, none⟩) zs) := HSA.out.below hb3
    clear hb3 cz e1 e2 hgr HC
    cases r
    · have HT : Hid (q = false) := by
        cases q
        · rfl
        · have h1 := (HQQ.out.1 rfl).1 _ HZM.out
          rw [Int.toNat_natCast] at h1
          have := HRR.out.2 h1
          cases this
      go_wp2
      go_ret
      exact ⟨by rw [HT.out]; rfl, HBN.out⟩
    have HN : Hid (∀ j, j < k + 1 → ImE (N (zs.getD j 0).toNat) (M (zs.getD j 0).toNat) (D (zs.getD j 0).toNat) (E (zs.getD j 0).toNat)) := fun j hj => by
      by_cases e : j = k
      · subst e; rw [HII.out, Int.toNat_natCast]; exact HRR.out.1 (by first | rfl | trivial)
      · exact HR.out j (by omega)
    clear HR HRR HII
    go_wp2
    go_roundw
    case rel => exact ⟨k + 1, by omega, by go_num, HBN.out, HXN.out, HSN.out, HN.out⟩
    case measure => simp [intOf]; omega
end Go.Proofs.YtgmhcngdgfhhaaaGreatDoor
