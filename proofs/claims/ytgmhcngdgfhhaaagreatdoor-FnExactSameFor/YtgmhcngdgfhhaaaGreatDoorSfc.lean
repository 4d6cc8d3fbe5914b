
/-
  Whether two systems look alike to a partition: the program's SameFor. Conditions: the lists lie in memory; lengths are at most 1048576; the program's table of extras holds what the program's text lays.
-/
import Derived.Test.YtgmhcngdgfhhaaaGreatDoorBas
import Derived.Test.YtgmhcngdgfhhaaaGreatDoorSfb
import Derived.Test.YtgmhcngdgfhhaaaGreatDoorImo
import Derived.Test.YtgmhcngdgfhhaaaGreatDoorCmh
namespace Go.Proofs.YtgmhcngdgfhhaaaGreatDoor
open Go.ChangeShapes Go.WideShapes Go.ChangeAt Go.RowKit Go.Deep Go.Joins
set_option linter.unusedVariables false

/-- What SameFor tells. -/
def SFr (t : Tb) (p : Int) (n : Nat) (N : Nat → Nat) (D : Nat → Nat → List Int) (m : Nat) (M : Nat → Nat) (E : Nat → Nat → List Int) (nx : Nat) (xs : List cmT) (ny : Nat) (ys : List cmT) : Prop :=
  (Sd t ∧ ImsFit t n N D) ∧ (Sd t ∧ ImsFit t m M E) ∧ nx ≤ 300 ∧ ny ≤ 300 ∧ (0 ≤ p ∧ p < (t.ps.length : Int)) ∧
  (∀ z ∈ joinV t.cs t.ps.length p, ImE (N z.toNat) (M z.toNat) (D z.toNat) (E z.toNat)) ∧ cfL (joinV t.cs t.ps.length p) t.ds xs nx = cfL (joinV t.cs t.ps.length p) t.ds ys ny
theorem rows_small {D : Nat → List Int} {n : Nat} (h : btot D n ≤ 1048576) {j : Nat} (hj : j < n) : (D j).length ≤ 1048576 := by
  induction n with
  | zero => omega
  | succ n ih =>
    have hb : btot D (n + 1) = btot D n + (D n).length := rfl
    by_cases e : j = n
    · subst e; omega
    · exact ih (by omega) (by omega)
structure RS4 (V : World) (T0 P0 S1 S2 R0 : Value) (U1 U2 : List cmT) (w' : World) (b0 b1 b2 b3 b4 b5 b6 b7 b8 b9 b10 b11 b12 : Bool) (x45 x46 x47 x48 x49 x50 x51 x52 x53 x54 x55 x56 x12 : Value) : Prop where
  gb : Below V.heap.size V w'
  f0 : b0 = true → x45 = .bool true
  f1 : b1 = true → x46 = .bool true
  f2 : b2 = true → x47 = T0
  f3 : b3 = true → x48 = P0
  f4 : b4 = true → x49 = S1
  f5 : b5 = true → ∃ A c, x50 = .slice A (U1).length c ∧ GSeg 3 w' A (U1).length (cmX (U1))
  f6 : b6 = true → x51 = T0
  f7 : b7 = true → x52 = P0
  f8 : b8 = true → x53 = S2
  f9 : b9 = true → ∃ A c, x54 = .slice A (U2).length c ∧ GSeg 3 w' A (U2).length (cmX (U2))
  f10 : b10 = true → x55 = R0
  f11 : b11 = true → x56 = R0
  f12 : b12 = true → x12 = R0
theorem RS4.below {V : World} {T0 P0 S1 S2 R0 : Value} {U1 U2 : List cmT} {w' w2 : World} {b0 b1 b2 b3 b4 b5 b6 b7 b8 b9 b10 b11 b12 : Bool} {x45 x46 x47 x48 x49 x50 x51 x52 x53 x54 x55 x56 x12 : Value} (h : RS4 V T0 P0 S1 S2 R0 U1 U2 w' b0 b1 b2 b3 b4 b5 b6 b7 b8 b9 b10 b11 b12 x45 x46 x47 x48 x49 x50 x51 x52 x53 x54 x55 x56 x12) (hb : Below w'.heap.size w' w2) : RS4 V T0 P0 S1 S2 R0 U1 U2 w2 b0 b1 b2 b3 b4 b5 b6 b7 b8 b9 b10 b11 b12 x45 x46 x47 x48 x49 x50 x51 x52 x53 x54 x55 x56 x12 :=
  ⟨h.gb.trans (hb.mono h.gb.size), h.f0, h.f1, h.f2, h.f3, h.f4, fun g => (by obtain ⟨A, c, e, hs⟩ := h.f5 g; exact ⟨A, c, e, hs.below hb⟩), h.f6, h.f7, h.f8, fun g => (by obtain ⟨A, c, e, hs⟩ := h.f9 g; exact ⟨A, c, e, hs.below hb⟩), h.f10, h.f11, h.f12⟩
structure RS5 (V : World) (w' : World) (b0 b1 b2 b3 b4 b5 b6 b7 b8 b9 b10 b11 b12 : Bool) (x45 x46 x47 x48 x49 x50 x51 x52 x53 x54 x55 x56 x12 : Value) : Prop where
  gb : Below V.heap.size V w'
  f0 : b0 = true → x45 = .bool false
  f1 : b1 = true → x46 = .bool false
  f2 : b2 = true → x47 = undef
  f3 : b3 = true → x48 = undef
  f4 : b4 = true → x49 = undef
  f5 : b5 = true → x50 = undef
  f6 : b6 = true → x51 = undef
  f7 : b7 = true → x52 = undef
  f8 : b8 = true → x53 = undef
  f9 : b9 = true → x54 = undef
  f10 : b10 = true → x55 = undef
  f11 : b11 = true → x56 = .bool false
  f12 : b12 = true → x12 = .bool false
theorem RS5.below {V : World} {w' w2 : World} {b0 b1 b2 b3 b4 b5 b6 b7 b8 b9 b10 b11 b12 : Bool} {x45 x46 x47 x48 x49 x50 x51 x52 x53 x54 x55 x56 x12 : Value} (h : RS5 V w' b0 b1 b2 b3 b4 b5 b6 b7 b8 b9 b10 b11 b12 x45 x46 x47 x48 x49 x50 x51 x52 x53 x54 x55 x56 x12) (hb : Below w'.heap.size w' w2) : RS5 V w2 b0 b1 b2 b3 b4 b5 b6 b7 b8 b9 b10 b11 b12 x45 x46 x47 x48 x49 x50 x51 x52 x53 x54 x55 x56 x12 :=
  ⟨h.gb.trans (hb.mono h.gb.size), h.f0, h.f1, h.f2, h.f3, h.f4, h.f5, h.f6, h.f7, h.f8, h.f9, h.f10, h.f11, h.f12⟩
set_option maxRecDepth 40000 in
set_option maxHeartbeats 8000000 in
theorem impl_sf (t : Tb) (a : Ad) (p : Int) (ia ib ca cb : Option Addr) (ica icb cca ccb n m nx ny : Nat) (N M : Nat → Nat) (D E : Nat → Nat → List Int) (xs ys : List cmT) (q : Bool) (w : World) (hm : TM 0 w t a) (hw : TW t a) (hs : TS a) (he : TabE w) (hcp : a.pn ≤ a.pc)
    (ha : MSeg w ia n N D) (hb : MSeg w ib m M E) (hn : n ≤ 1048576) (hmm : m ≤ 1048576) (hd : MSz n N D) (hE : MSz m M E) (hx : GSeg 3 w ca nx (cmX xs)) (hy : GSeg 3 w cb ny (cmX ys)) (hnx : nx ≤ 1048576) (hny : ny ≤ 1048576) (hq : q = true ↔ SFr t p n N D m M E nx xs ny ys) :
    Calls Tryz.prog 11 #[tbV t a, .int .i64 p, .slice ia n ica, .slice ca nx cca, .slice ib m icb, .slice cb ny ccb] w fun e w' => e = .returned (.bool q) ∧ Below w.heap.size w w' := by
  obtain ⟨qa, hqa⟩ := told (Sd t ∧ ImsFit t n N D)
  obtain ⟨qb, hqb⟩ := told (Sd t ∧ ImsFit t m M E)
  obtain ⟨q2, hq2⟩ := told (0 ≤ p ∧ p < (a.pn : Int))
  have HBE : Hid (Below w.heap.size w (((w.alloc (.cells (tbA t a) 44)).alloc (.cells #[.slice ia n ica] 32)).alloc (.cells #[.slice ib m icb] 32))) := (((Below.refl _ _).alloc (Nat.le_refl _) _).alloc (by simp) _).alloc (by simp; omega) _
  have HXE : Hid (TBx (((w.alloc (.cells (tbA t a) 44)).alloc (.cells #[.slice ia n ica] 32)).alloc (.cells #[.slice ib m icb] 32)) w.heap.size t a) := ((TBx.new w t a _ rfl).below ((Below.refl _ _).alloc (Nat.le_refl _) _)).below ((Below.refl _ _).alloc (Nat.le_refl _) _)
  have HY1 : Hid ((((w.alloc (.cells (tbA t a) 44)).alloc (.cells #[.slice ia n ica] 32)).alloc (.cells #[.slice ib m icb] 32)).heap[w.heap.size + 1]? = some (.cells #[.slice ia n ica] 32 (0, 0))) := row_below (new_row (w.alloc (.cells (tbA t a) 44)) _ _ _ (by simp)) ((Below.refl _ _).alloc (Nat.le_refl _) _)
  have HY2 : Hid ((((w.alloc (.cells (tbA t a) 44)).alloc (.cells #[.slice ia n ica] 32)).alloc (.cells #[.slice ib m icb] 32)).heap[w.heap.size + 2]? = some (.cells #[.slice ib m icb] 32 (0, 0))) := new_row ((w.alloc (.cells (tbA t a) 44)).alloc (.cells #[.slice ia n ica] 32)) _ _ _ (by simp)
  have HHP : Hid (∀ Y, Calls Tryz.prog 33 #[tbV t a, .int .i64 p] Y fun e w' => e = .returned (.bool q2) ∧ Below Y.heap.size Y w') := fun Y => has_part t a p q2 Y hw.pb hq2
  have HIA : Hid (∀ X, Below w.heap.size w X → Calls Tryz.prog 34 #[tbV t a, .slice ia n ica] X fun e w' => e = .returned (.bool qa) ∧ Below X.heap.size X w') := fun X hX => impl_images t a ia ica n N D qa X (hm.below hX) hw hs (ha.below hX) hn hd (he.below hX) hcp hqa
  have HIB : Hid (∀ X, Below w.heap.size w X → Calls Tryz.prog 34 #[tbV t a, .slice ib m icb] X fun e w' => e = .returned (.bool qb) ∧ Below X.heap.size X w') := fun X hX => impl_images t a ib icb m M E qb X (hm.below hX) hw hs (hb.below hX) hmm hE (he.below hX) hcp hqb
  have HNO : Hid ((¬ nx ≤ 300 ∨ ¬ ny ≤ 300 ∨ q2 = false ∨ qa = false ∨ qb = false) → q = false) := fun h => by
    cases q
    · rfl
    · exfalso
      obtain ⟨g1, g2, g3, g4, g5, _⟩ := hq.1 rfl
      rw [hw.pl] at g5
      rcases h with h | h | h | h | h
      · exact h g3
      · exact h g4
      · rw [hq2.2 g5] at h; cases h
      · rw [hqa.2 g1] at h; cases h
      · rw [hqb.2 g2] at h; cases h
  have HOK : Hid (qa = true → qb = true → q2 = true → nx ≤ 300 → ny ≤ 300 → (Sd t ∧ 0 ≤ p ∧ p < (t.ps.length : Int)) ∧ n = a.pn ∧ m = a.pn ∧ (q = true ↔ (∀ z ∈ joinV t.cs t.ps.length p, ImE (N z.toNat) (M z.toNat) (D z.toNat) (E z.toNat)) ∧ cfL (joinV t.cs t.ps.length p) t.ds xs nx = cfL (joinV t.cs t.ps.length p) t.ds ys ny)) := fun h1 h2 h3 h4 h5 => by
    have g1 := hqa.1 h1
    have g2 := hqb.1 h2
    have g3 := hq2.1 h3
    have g3' : 0 ≤ p ∧ p < (t.ps.length : Int) := by rw [hw.pl]; exact g3
    refine ⟨⟨g1.1, g3'⟩, by rw [g1.2.1, hw.pl], by rw [g2.2.1, hw.pl], hq.trans ⟨fun h => h.2.2.2.2.2, fun h => ⟨g1, g2, h4, h5, g3', h⟩⟩⟩
  have HRE : Hid (Sd t → (0 ≤ p ∧ p < (t.ps.length : Int)) → ∀ X, Below w.heap.size w X → Calls Tryz.prog 36 #[tbV t a, .int .i64 p] X (LPostI X (joinV t.cs t.ps.length p))) := fun h1 h2 X hX => by
    rw [hw.pl] at h2 ⊢; exact impl_reach t a p X (hm.below hX) hw h1 h2
  have HCF : Hid (∀ (z1 : Option Addr) (z2 z3 : Nat) (zz us : List cmT) X, Below w.heap.size w X → GSeg 3 X z1 z3 (cmX zz) → z3 ≤ 1048576 → CT t p z3 zz us → Calls Tryz.prog 40 #[tbV t a, .int .i64 p, .slice z1 z3 z2] X (LPostC X us)) := fun z1 z2 z3 zz us X hX hz hz3 hct => impl_cf t a p z1 z2 z3 zz us X (hm.below hX) hw hs (he.below hX) hcp hz hz3 hct
  have HMS : Hid (MSeg w ia n N D ∧ MSeg w ib m M E) := ⟨ha, hb⟩
  have HSZ : Hid (MSz n N D ∧ MSz m M E) := ⟨hd, hE⟩
  have HXY : Hid (GSeg 3 w ca nx (cmX xs) ∧ GSeg 3 w cb ny (cmX ys)) := ⟨hx, hy⟩
  have HNP : Hid (t.ps.length = a.pn) := hw.pl
  clear hm hw hs he hcp ha hb hd hE hx hy hq hqa hqb hq2
  by_cases h3 : nx ≤ 300
  rotate_left
  · have hgt : (300 : Int) < (nx : Int) := by omega
    have HT : Hid (q = false) := HNO.out (.inl h3)
    go_enter Tryz.func11, Tryz.ntmps11
    go_wp2
    go_ret
    exact ⟨by rw [HT.out]; rfl, HBE.out⟩
  have hgt : ¬ ((300 : Int) < (nx : Int)) := by omega
  by_cases h4 : ny ≤ 300
  rotate_left
  · have hgt2 : (300 : Int) < (ny : Int) := by omega
    have HT : Hid (q = false) := HNO.out (.inr (.inl h4))
    go_enter Tryz.func11, Tryz.ntmps11
    go_wp2
    go_ret
    exact ⟨by rw [HT.out]; rfl, HBE.out⟩
  have hgt2 : ¬ ((300 : Int) < (ny : Int)) := by omega
  go_enter Tryz.func11, Tryz.ntmps11
  go_wp2_with (first | (refine wpList_load_rowG rfl 44 (.tmp 6) rfl w.heap.size rfl 44 (tbA t a) (0, 0) _ HXE.out Tryz.underlying44 rfl (by kernel_rfl) ?_) | fail)
  revert HBE HXE HY1 HY2
  generalize (((w.alloc (.cells (tbA t a) 44)).alloc (.cells #[.slice ia n ica] 32)).alloc (.cells #[.slice ib m icb] 32)) = V
  intro HBE HXE HY1 HY2
  refine Calls.mono (HHP.out _) ?_
  rintro e w1 ⟨rfl, hb1⟩
  have HB1 : Hid (Below w.heap.size w w1) := HBE.out.trans (hb1.mono HBE.out.size)
  have HX1 : Hid (TBx w1 w.heap.size t a) := HXE.out.below hb1
  replace HY1 : Hid (w1.heap[w.heap.size + 1]? = some (.cells #[.slice ia n ica] 32 (0, 0))) := row_below HY1.out hb1
  replace HY2 : Hid (w1.heap[w.heap.size + 2]? = some (.cells #[.slice ib m icb] 32 (0, 0))) := row_below HY2.out hb1
  clear hb1 HBE HXE HHP
  cases q2
  · have HT : Hid (q = false) := HNO.out (.inr (.inr (.inl (by first | rfl | trivial))))
    go_wp2
    go_ret
    exact ⟨by rw [HT.out]; rfl, HB1.out⟩
  have k1 : w1.cell? ⟨w.heap.size + 1, 0, none⟩ = some (.slice ia n ica) := row_cell HY1.out _ _ rfl
  go_wp2_with (first | (refine wpList_load_rowG rfl 44 (.tmp 6) rfl w.heap.size rfl 44 (tbA t a) (0, 0) _ HX1.out Tryz.underlying44 rfl (by kernel_rfl) ?_) | fail)
  refine Calls.mono (HIA.out _ HB1.out) ?_
  rintro e w2 ⟨rfl, hb2⟩
  have HB2 : Hid (Below w.heap.size w w2) := HB1.out.trans (hb2.mono HB1.out.size)
  have HX2 : Hid (TBx w2 w.heap.size t a) := HX1.out.below hb2
  replace HY1 : Hid (w2.heap[w.heap.size + 1]? = some (.cells #[.slice ia n ica] 32 (0, 0))) := row_below HY1.out hb2
  replace HY2 : Hid (w2.heap[w.heap.size + 2]? = some (.cells #[.slice ib m icb] 32 (0, 0))) := row_below HY2.out hb2
  clear hb2 HB1 HX1 HIA k1
  cases qa
  · have HT : Hid (q = false) := HNO.out (.inr (.inr (.inr (.inl (by first | rfl | trivial)))))
    go_wp2
    go_ret
    exact ⟨by rw [HT.out]; rfl, HB2.out⟩
  have k2 : w2.cell? ⟨w.heap.size + 2, 0, none⟩ = some (.slice ib m icb) := row_cell HY2.out _ _ rfl
  go_wp2_with (first | (refine wpList_load_rowG rfl 44 (.tmp 6) rfl w.heap.size rfl 44 (tbA t a) (0, 0) _ HX2.out Tryz.underlying44 rfl (by kernel_rfl) ?_) | fail)
  refine Calls.mono (HIB.out _ HB2.out) ?_
  rintro e w3 ⟨rfl, hb3⟩
  have HB3 : Hid (Below w.heap.size w w3) := HB2.out.trans (hb3.mono HB2.out.size)
  have HX3 : Hid (TBx w3 w.heap.size t a) := HX2.out.below hb3
  replace HY1 : Hid (w3.heap[w.heap.size + 1]? = some (.cells #[.slice ia n ica] 32 (0, 0))) := row_below HY1.out hb3
  replace HY2 : Hid (w3.heap[w.heap.size + 2]? = some (.cells #[.slice ib m icb] 32 (0, 0))) := row_below HY2.out hb3
  clear hb3 HB2 HX2 HIB k2
  cases qb
  · have HT : Hid (q = false) := HNO.out (.inr (.inr (.inr (.inr (by first | rfl | trivial)))))
    go_wp2
    go_ret
    exact ⟨by rw [HT.out]; rfl, HB3.out⟩
  obtain ⟨hok, hna, hma, hqq⟩ := HOK.out (by first | rfl | trivial) (by first | rfl | trivial) (by first | rfl | trivial) h3 h4
  have HKO : Hid (Sd t ∧ 0 ≤ p ∧ p < (t.ps.length : Int)) := hok
  have HNA : Hid (n = a.pn ∧ m = a.pn) := ⟨hna, hma⟩
  have HQQ : Hid _ := hqq
  have HJM : Hid (∀ z ∈ joinV t.cs t.ps.length p, 0 ≤ z ∧ z < (a.pn : Int)) := fun z hz => by
    unfold joinV at hz
    have := ((flt_mem _ _ _).1 hz).1
    rw [HNP.out] at this
    exact this
  clear HNO HOK hok hna hma hqq
  have hj6 : (joinV t.cs t.ps.length p).length ≤ 6 := JT.len (.inr ⟨HKO.out, rfl⟩)
  have HU1 : Hid (CT t p nx xs (cfL (joinV t.cs t.ps.length p) t.ds xs nx)) := .inr ⟨⟨HKO.out, h3⟩, rfl⟩
  have HU2 : Hid (CT t p ny ys (cfL (joinV t.cs t.ps.length p) t.ds ys ny)) := .inr ⟨⟨HKO.out, h4⟩, rfl⟩
  have hu1 : (cfL (joinV t.cs t.ps.length p) t.ds xs nx).length ≤ 300 := HU1.out.len
  have hu2 : (cfL (joinV t.cs t.ps.length p) t.ds ys ny).length ≤ 300 := HU2.out.len
  go_wp2_with (first | (refine wpList_load_row rfl 44 (.tmp 6) rfl w.heap.size rfl 44 (tbA t a) (0, 0) _ HX3.out Tryz.underlying44 rfl (by kernel_rfl) ?_) | fail)
  refine Calls.mono (HRE.out HKO.out.1 HKO.out.2 _ HB3.out) ?_
  rintro e w4 ⟨A, cA, rfl, hb4, hoi⟩
  have HB4 : Hid (Below w.heap.size w w4) := HB3.out.trans (hb4.mono HB3.out.size)
  have HX4 : Hid (TBx w4 w.heap.size t a) := HX3.out.below hb4
  replace HY1 : Hid (w4.heap[w.heap.size + 1]? = some (.cells #[.slice ia n ica] 32 (0, 0))) := row_below HY1.out hb4
  replace HY2 : Hid (w4.heap[w.heap.size + 2]? = some (.cells #[.slice ib m icb] 32 (0, 0))) := row_below HY2.out hb4
  have HSA : Hid (Seg .i64 w4 A (joinV t.cs t.ps.length p)) := hoi.seg
  clear hb4 hoi HB3 HX3 HRE
  generalize cfL (joinV t.cs t.ps.length p) t.ds xs nx = us at HU1 hu1 HQQ
  generalize cfL (joinV t.cs t.ps.length p) t.ds ys ny = vs at HU2 hu2 HQQ
  generalize joinV t.cs t.ps.length p = zs at HSA HQQ hj6 HJM
  obtain ⟨G, HG⟩ : ∃ G : Int → Bool, Hid (∀ z, G z = true ↔ ImE (N z.toNat) (M z.toNat) (D z.toNat) (E z.toNat)) := ⟨fun z => @decide _ (Classical.propDecidable (ImE (N z.toNat) (M z.toNat) (D z.toNat) (E z.toNat))), fun z => by simp⟩
  obtain ⟨g, hg⟩ := told (∀ z ∈ zs, G z = true)
  have HGG : Hid (g = true ↔ ∀ z ∈ zs, G z = true) := hg
  have HEV : Hid (Calls Tryz.prog 35 #[.slice A zs.length cA, .func (.func 37) #[] #[.pointer (some ⟨w.heap.size + 1, 0, none⟩), .pointer (some ⟨w.heap.size + 2, 0, none⟩)]] w4 fun e w' => e = .returned (.bool g) ∧ Below w4.heap.size w4 w') := every_i A cA zs (w.heap.size + 1) (w.heap.size + 2) G g w4 HSA.out (by omega) (fun X hX z hz => by
    have hzr := HJM.out z hz
    obtain ⟨i, rfl⟩ : ∃ i : Nat, z = (i : Int) := ⟨z.toNat, by omega⟩
    have hin : i < n := by have := HNA.out; omega
    have him : i < m := by have := HNA.out; omega
    have hbx := HB4.out.trans (hX.mono HB4.out.size)
    have hgz := HG.out (i : Int)
    rw [Int.toNat_natCast] at hgz
    exact cl_sf i ia ib ica icb n m _ _ N M D E (G (i : Int)) X (row_cell (row_below HY1.out hX) _ _ rfl) (row_cell (row_below HY2.out hX) _ _ rfl) (HMS.out.1.below hbx) (HMS.out.2.below hbx) hin him (HSZ.out.1 i hin).1 (HSZ.out.2 i him).1 (fun j hj => rows_small (HSZ.out.1 i hin).2 hj) (fun j hj => rows_small (HSZ.out.2 i him).2 hj) hgz) hg
  clear hg
  go_wp2_with fail
  refine Calls.mono HEV.out ?_
  rintro e W3 ⟨rfl, hb5⟩
  have HB5 : Hid (Below w.heap.size w W3) := HB4.out.trans (hb5.mono HB4.out.size)
  have HXB : Hid (∀ X, Below W3.heap.size W3 X → X.heap[w.heap.size]? = some (.cells (tbA t a) 44 (0, 0))) := fun X hX => row_of ((HX4.out.below hb5).below hX)
  have HC1 : Hid (∀ X, Below W3.heap.size W3 X → Calls Tryz.prog 40 #[tbV t a, .int .i64 p, .slice ca nx cca] X (LPostC X us)) := fun X hX => HCF.out ca cca nx xs us X (HB5.out.trans (hX.mono HB5.out.size)) (HXY.out.1.below (HB5.out.trans (hX.mono HB5.out.size))) hnx HU1.out
  have HC2 : Hid (∀ X, Below W3.heap.size W3 X → Calls Tryz.prog 40 #[tbV t a, .int .i64 p, .slice cb ny ccb] X (LPostC X vs)) := fun X hX => HCF.out cb ccb ny ys vs X (HB5.out.trans (hX.mono HB5.out.size)) (HXY.out.2.below (HB5.out.trans (hX.mono HB5.out.size))) hny HU2.out
  have HW0 : Hid (Below W3.heap.size W3 W3) := Below.refl _ _
  obtain ⟨r, HRR⟩ : ∃ r, Hid (decide (us = vs) = r) := ⟨_, rfl⟩
  have HEQ : Hid (∀ (X : World) (A B : Option Addr) (c c' : Nat), GSeg 3 X A us.length (cmX us) → GSeg 3 X B vs.length (cmX vs) → Calls Tryz.prog 39 #[.slice A us.length c, .slice B vs.length c'] X fun e w' => e = .returned (.bool r) ∧ Below X.heap.size X w') := fun X A B c c' hA hB => eq_cm A B c c' us vs r X hA hB (by omega) (by omega) HRR.out
  clear hb5 HEV HB4 HX4 HCF HXY HMS HSZ HY1 HY2 HSA
  cases g
  · have HT : Hid (q = false) := by
      cases q
      · rfl
      · exfalso
        have h1 := (HQQ.out.1 rfl).1
        have := HGG.out.2 (fun z hz => (HG.out z).2 (h1 z hz))
        cases this
    go_wp2
    refine wp_region_inv (by kernel_rfl) (by kernel_rfl) (fun A ℓ a' w' => ∃ (x45 x46 x47 x48 x49 x50 x51 x52 x53 x54 x55 x56 x12 : Value), a' = (((((((((((((A.put (some 45) x45).put (some 46) x46).put (some 47) x47).put (some 48) x48).put (some 49) x49).put (some 50) x50).put (some 51) x51).put (some 52) x52).put (some 53) x53).put (some 54) x54).put (some 55) x55).put (some 56) x56).put (some 12) x12) ∧ RS5 W3 w' (ℓ 0) (ℓ 1) (ℓ 2) (ℓ 3) (ℓ 4) (ℓ 5) (ℓ 6) (ℓ 7) (ℓ 8) (ℓ 9) (ℓ 10) (ℓ 11) (ℓ 12) x45 x46 x47 x48 x49 x50 x51 x52 x53 x54 x55 x56 x12) ?_ ?_ ?_ ?_
    · exact ⟨undef, undef, undef, undef, undef, undef, undef, undef, undef, undef, undef, undef, .bool false, (by simp only [Act.put, List.setIfInBounds_toArray, List.set_cons_zero, List.set_cons_succ]), ⟨HW0.out.drew, (fun g => by cases g), (fun g => by cases g), (fun g => by cases g), (fun g => by cases g), (fun g => by cases g), (fun g => by cases g), (fun g => by cases g), (fun g => by cases g), (fun g => by cases g), (fun g => by cases g), (fun g => by cases g), (fun g => by cases g), (fun g => by cases g)⟩⟩
    · intro ℓ a' w' hI hall
      obtain ⟨x45, x46, x47, x48, x49, x50, x51, x52, x53, x54, x55, x56, x12, rfl, hr⟩ := hI
      have hall' : ∀ i, i < 13 → ℓ i = true := hall
      obtain rfl := hr.f0 (hall' 0 (by decide))
      obtain rfl := hr.f1 (hall' 1 (by decide))
      obtain rfl := hr.f2 (hall' 2 (by decide))
      obtain rfl := hr.f3 (hall' 3 (by decide))
      obtain rfl := hr.f4 (hall' 4 (by decide))
      obtain rfl := hr.f5 (hall' 5 (by decide))
      obtain rfl := hr.f6 (hall' 6 (by decide))
      obtain rfl := hr.f7 (hall' 7 (by decide))
      obtain rfl := hr.f8 (hall' 8 (by decide))
      obtain rfl := hr.f9 (hall' 9 (by decide))
      obtain rfl := hr.f10 (hall' 10 (by decide))
      obtain rfl := hr.f11 (hall' 11 (by decide))
      obtain rfl := hr.f12 (hall' 12 (by decide))
      have gb : Hid (Below W3.heap.size W3 w') := hr.gb
      clear hall hall' hr
      simp only [Act.put, List.setIfInBounds_toArray, List.set_cons_zero, List.set_cons_succ]
      have HBF : Hid (Below w.heap.size w w') := HB5.out.trans (gb.out.mono HB5.out.size)
      go_wp2
      go_ret
      exact ⟨by rw [HT.out]; rfl, HBF.out⟩
    · intro ℓ a' w' i o hI ho hi hL hdep K hK
      obtain ⟨x45, x46, x47, x48, x49, x50, x51, x52, x53, x54, x55, x56, x12, rfl, hr⟩ := hI
      have hi7 : i < 13 := hi
      have hcs : i = 0 ∨ i = 1 ∨ i = 2 ∨ i = 3 ∨ i = 4 ∨ i = 5 ∨ i = 6 ∨ i = 7 ∨ i = 8 ∨ i = 9 ∨ i = 10 ∨ i = 11 ∨ i = 12 := by omega
      clear hi hi7
      rcases hcs with rfl | rfl | rfl | rfl | rfl | rfl | rfl | rfl | rfl | rfl | rfl | rfl | rfl
      · obtain rfl := Option.some.inj ho
        clear hdep ho
        revert hK
        intro hK
        rw [if_pos (by rfl)]
        try simp only [Act.put, List.setIfInBounds_toArray, List.set_cons_zero, List.set_cons_succ]
        go_simp
        exact hK.out _ _ (fun j => if j = 0 then true else ℓ j) ⟨.bool false, x46, x47, x48, x49, x50, x51, x52, x53, x54, x55, x56, x12, (by simp only [Act.put, List.setIfInBounds_toArray, List.set_cons_zero, List.set_cons_succ]), ⟨hr.gb, (fun _ => rfl), hr.f1, hr.f2, hr.f3, hr.f4, hr.f5, hr.f6, hr.f7, hr.f8, hr.f9, hr.f10, hr.f11, hr.f12⟩⟩ (if_pos rfl) (fun j hj => if_neg hj)
      · obtain rfl := Option.some.inj ho
        have g0 : ℓ 0 = true := hdep { on := 0, ground := Ground.data } (by simp) rfl
        clear hdep ho
        revert hK
        obtain rfl := hr.f0 g0
        intro hK
        rw [if_pos (by rfl)]
        try simp only [Act.put, List.setIfInBounds_toArray, List.set_cons_zero, List.set_cons_succ]
        go_simp
        exact hK.out _ _ (fun j => if j = 1 then true else ℓ j) ⟨.bool false, .bool false, x47, x48, x49, x50, x51, x52, x53, x54, x55, x56, x12, (by simp only [Act.put, List.setIfInBounds_toArray, List.set_cons_zero, List.set_cons_succ]), ⟨hr.gb, (fun _ => rfl), (fun _ => rfl), hr.f2, hr.f3, hr.f4, hr.f5, hr.f6, hr.f7, hr.f8, hr.f9, hr.f10, hr.f11, hr.f12⟩⟩ (if_pos rfl) (fun j hj => if_neg hj)
      · obtain rfl := Option.some.inj ho
        have g1 : ℓ 1 = true := hdep { on := 1, ground := Ground.guard } (by simp) rfl
        clear hdep ho
        revert hK
        obtain rfl := hr.f1 g1
        intro hK
        try simp only [Act.put, List.setIfInBounds_toArray, List.set_cons_zero, List.set_cons_succ]
        rw [if_neg (by exact fun h => Bool.false_ne_true h)]
        try simp only [List.getElem_toArray, List.getElem_cons_zero, List.getElem_cons_succ, List.set_cons_zero, List.set_cons_succ]
        exact hK.out _ _ (fun j => if j = 2 then true else ℓ j) ⟨x45, .bool false, undef, x48, x49, x50, x51, x52, x53, x54, x55, x56, x12, (by simp only [Act.put, List.setIfInBounds_toArray, List.set_cons_zero, List.set_cons_succ]), ⟨hr.gb, hr.f0, (fun _ => rfl), (fun _ => rfl), hr.f3, hr.f4, hr.f5, hr.f6, hr.f7, hr.f8, hr.f9, hr.f10, hr.f11, hr.f12⟩⟩ (if_pos rfl) (fun j hj => if_neg hj)
      · obtain rfl := Option.some.inj ho
        have g1 : ℓ 1 = true := hdep { on := 1, ground := Ground.guard } (by simp) rfl
        clear hdep ho
        revert hK
        obtain rfl := hr.f1 g1
        intro hK
        try simp only [Act.put, List.setIfInBounds_toArray, List.set_cons_zero, List.set_cons_succ]
        rw [if_neg (by exact fun h => Bool.false_ne_true h)]
        try simp only [List.getElem_toArray, List.getElem_cons_zero, List.getElem_cons_succ, List.set_cons_zero, List.set_cons_succ]
        exact hK.out _ _ (fun j => if j = 3 then true else ℓ j) ⟨x45, .bool false, x47, undef, x49, x50, x51, x52, x53, x54, x55, x56, x12, (by simp only [Act.put, List.setIfInBounds_toArray, List.set_cons_zero, List.set_cons_succ]), ⟨hr.gb, hr.f0, (fun _ => rfl), hr.f2, (fun _ => rfl), hr.f4, hr.f5, hr.f6, hr.f7, hr.f8, hr.f9, hr.f10, hr.f11, hr.f12⟩⟩ (if_pos rfl) (fun j hj => if_neg hj)
      · obtain rfl := Option.some.inj ho
        have g1 : ℓ 1 = true := hdep { on := 1, ground := Ground.guard } (by simp) rfl
        clear hdep ho
        revert hK
        obtain rfl := hr.f1 g1
        intro hK
        try simp only [Act.put, List.setIfInBounds_toArray, List.set_cons_zero, List.set_cons_succ]
        rw [if_neg (by exact fun h => Bool.false_ne_true h)]
        try simp only [List.getElem_toArray, List.getElem_cons_zero, List.getElem_cons_succ, List.set_cons_zero, List.set_cons_succ]
        exact hK.out _ _ (fun j => if j = 4 then true else ℓ j) ⟨x45, .bool false, x47, x48, undef, x50, x51, x52, x53, x54, x55, x56, x12, (by simp only [Act.put, List.setIfInBounds_toArray, List.set_cons_zero, List.set_cons_succ]), ⟨hr.gb, hr.f0, (fun _ => rfl), hr.f2, hr.f3, (fun _ => rfl), hr.f5, hr.f6, hr.f7, hr.f8, hr.f9, hr.f10, hr.f11, hr.f12⟩⟩ (if_pos rfl) (fun j hj => if_neg hj)
      · obtain rfl := Option.some.inj ho
        have g1 : ℓ 1 = true := hdep { on := 1, ground := Ground.guard } (by simp) rfl
        clear hdep ho
        revert hK
        obtain rfl := hr.f1 g1
        intro hK
        try simp only [Act.put, List.setIfInBounds_toArray, List.set_cons_zero, List.set_cons_succ]
        rw [if_neg (by exact fun h => Bool.false_ne_true h)]
        try simp only [List.getElem_toArray, List.getElem_cons_zero, List.getElem_cons_succ, List.set_cons_zero, List.set_cons_succ]
        exact hK.out _ _ (fun j => if j = 5 then true else ℓ j) ⟨x45, .bool false, x47, x48, x49, undef, x51, x52, x53, x54, x55, x56, x12, (by simp only [Act.put, List.setIfInBounds_toArray, List.set_cons_zero, List.set_cons_succ]), ⟨hr.gb, hr.f0, (fun _ => rfl), hr.f2, hr.f3, hr.f4, (fun _ => rfl), hr.f6, hr.f7, hr.f8, hr.f9, hr.f10, hr.f11, hr.f12⟩⟩ (if_pos rfl) (fun j hj => if_neg hj)
      · obtain rfl := Option.some.inj ho
        have g1 : ℓ 1 = true := hdep { on := 1, ground := Ground.guard } (by simp) rfl
        clear hdep ho
        revert hK
        obtain rfl := hr.f1 g1
        intro hK
        try simp only [Act.put, List.setIfInBounds_toArray, List.set_cons_zero, List.set_cons_succ]
        rw [if_neg (by exact fun h => Bool.false_ne_true h)]
        try simp only [List.getElem_toArray, List.getElem_cons_zero, List.getElem_cons_succ, List.set_cons_zero, List.set_cons_succ]
        exact hK.out _ _ (fun j => if j = 6 then true else ℓ j) ⟨x45, .bool false, x47, x48, x49, x50, undef, x52, x53, x54, x55, x56, x12, (by simp only [Act.put, List.setIfInBounds_toArray, List.set_cons_zero, List.set_cons_succ]), ⟨hr.gb, hr.f0, (fun _ => rfl), hr.f2, hr.f3, hr.f4, hr.f5, (fun _ => rfl), hr.f7, hr.f8, hr.f9, hr.f10, hr.f11, hr.f12⟩⟩ (if_pos rfl) (fun j hj => if_neg hj)
      · obtain rfl := Option.some.inj ho
        have g1 : ℓ 1 = true := hdep { on := 1, ground := Ground.guard } (by simp) rfl
        clear hdep ho
        revert hK
        obtain rfl := hr.f1 g1
        intro hK
        try simp only [Act.put, List.setIfInBounds_toArray, List.set_cons_zero, List.set_cons_succ]
        rw [if_neg (by exact fun h => Bool.false_ne_true h)]
        try simp only [List.getElem_toArray, List.getElem_cons_zero, List.getElem_cons_succ, List.set_cons_zero, List.set_cons_succ]
        exact hK.out _ _ (fun j => if j = 7 then true else ℓ j) ⟨x45, .bool false, x47, x48, x49, x50, x51, undef, x53, x54, x55, x56, x12, (by simp only [Act.put, List.setIfInBounds_toArray, List.set_cons_zero, List.set_cons_succ]), ⟨hr.gb, hr.f0, (fun _ => rfl), hr.f2, hr.f3, hr.f4, hr.f5, hr.f6, (fun _ => rfl), hr.f8, hr.f9, hr.f10, hr.f11, hr.f12⟩⟩ (if_pos rfl) (fun j hj => if_neg hj)
      · obtain rfl := Option.some.inj ho
        have g1 : ℓ 1 = true := hdep { on := 1, ground := Ground.guard } (by simp) rfl
        clear hdep ho
        revert hK
        obtain rfl := hr.f1 g1
        intro hK
        try simp only [Act.put, List.setIfInBounds_toArray, List.set_cons_zero, List.set_cons_succ]
        rw [if_neg (by exact fun h => Bool.false_ne_true h)]
        try simp only [List.getElem_toArray, List.getElem_cons_zero, List.getElem_cons_succ, List.set_cons_zero, List.set_cons_succ]
        exact hK.out _ _ (fun j => if j = 8 then true else ℓ j) ⟨x45, .bool false, x47, x48, x49, x50, x51, x52, undef, x54, x55, x56, x12, (by simp only [Act.put, List.setIfInBounds_toArray, List.set_cons_zero, List.set_cons_succ]), ⟨hr.gb, hr.f0, (fun _ => rfl), hr.f2, hr.f3, hr.f4, hr.f5, hr.f6, hr.f7, (fun _ => rfl), hr.f9, hr.f10, hr.f11, hr.f12⟩⟩ (if_pos rfl) (fun j hj => if_neg hj)
      · obtain rfl := Option.some.inj ho
        have g1 : ℓ 1 = true := hdep { on := 1, ground := Ground.guard } (by simp) rfl
        clear hdep ho
        revert hK
        obtain rfl := hr.f1 g1
        intro hK
        try simp only [Act.put, List.setIfInBounds_toArray, List.set_cons_zero, List.set_cons_succ]
        rw [if_neg (by exact fun h => Bool.false_ne_true h)]
        try simp only [List.getElem_toArray, List.getElem_cons_zero, List.getElem_cons_succ, List.set_cons_zero, List.set_cons_succ]
        exact hK.out _ _ (fun j => if j = 9 then true else ℓ j) ⟨x45, .bool false, x47, x48, x49, x50, x51, x52, x53, undef, x55, x56, x12, (by simp only [Act.put, List.setIfInBounds_toArray, List.set_cons_zero, List.set_cons_succ]), ⟨hr.gb, hr.f0, (fun _ => rfl), hr.f2, hr.f3, hr.f4, hr.f5, hr.f6, hr.f7, hr.f8, (fun _ => rfl), hr.f10, hr.f11, hr.f12⟩⟩ (if_pos rfl) (fun j hj => if_neg hj)
      · obtain rfl := Option.some.inj ho
        have g1 : ℓ 1 = true := hdep { on := 1, ground := Ground.guard } (by simp) rfl
        clear hdep ho
        revert hK
        obtain rfl := hr.f1 g1
        intro hK
        try simp only [Act.put, List.setIfInBounds_toArray, List.set_cons_zero, List.set_cons_succ]
        rw [if_neg (by exact fun h => Bool.false_ne_true h)]
        try simp only [List.getElem_toArray, List.getElem_cons_zero, List.getElem_cons_succ, List.set_cons_zero, List.set_cons_succ]
        exact hK.out _ _ (fun j => if j = 10 then true else ℓ j) ⟨x45, .bool false, x47, x48, x49, x50, x51, x52, x53, x54, undef, x56, x12, (by simp only [Act.put, List.setIfInBounds_toArray, List.set_cons_zero, List.set_cons_succ]), ⟨hr.gb, hr.f0, (fun _ => rfl), hr.f2, hr.f3, hr.f4, hr.f5, hr.f6, hr.f7, hr.f8, hr.f9, (fun _ => rfl), hr.f11, hr.f12⟩⟩ (if_pos rfl) (fun j hj => if_neg hj)
      · obtain rfl := Option.some.inj ho
        have g1 : ℓ 1 = true := hdep { on := 1, ground := Ground.data } (by simp) rfl
        clear hdep ho
        revert hK
        obtain rfl := hr.f1 g1
        intro hK
        rw [if_pos (by rfl)]
        try simp only [Act.put, List.setIfInBounds_toArray, List.set_cons_zero, List.set_cons_succ]
        go_simp
        exact hK.out _ _ (fun j => if j = 11 then true else ℓ j) ⟨x45, .bool false, x47, x48, x49, x50, x51, x52, x53, x54, x55, .bool false, x12, (by simp only [Act.put, List.setIfInBounds_toArray, List.set_cons_zero, List.set_cons_succ]), ⟨hr.gb, hr.f0, (fun _ => rfl), hr.f2, hr.f3, hr.f4, hr.f5, hr.f6, hr.f7, hr.f8, hr.f9, hr.f10, (fun _ => rfl), hr.f12⟩⟩ (if_pos rfl) (fun j hj => if_neg hj)
      · obtain rfl := Option.some.inj ho
        have g11 : ℓ 11 = true := hdep { on := 11, ground := Ground.data } (by simp) rfl
        clear hdep ho
        revert hK
        obtain rfl := hr.f11 g11
        intro hK
        rw [if_pos (by rfl)]
        try simp only [Act.put, List.setIfInBounds_toArray, List.set_cons_zero, List.set_cons_succ]
        go_simp
        exact hK.out _ _ (fun j => if j = 12 then true else ℓ j) ⟨x45, x46, x47, x48, x49, x50, x51, x52, x53, x54, x55, .bool false, .bool false, (by simp only [Act.put, List.setIfInBounds_toArray, List.set_cons_zero, List.set_cons_succ]), ⟨hr.gb, hr.f0, hr.f1, hr.f2, hr.f3, hr.f4, hr.f5, hr.f6, hr.f7, hr.f8, hr.f9, hr.f10, (fun _ => rfl), (fun _ => rfl)⟩⟩ (if_pos rfl) (fun j hj => if_neg hj)
    · rintro a' w' ℓ ℓ' hℓ hI
      rw [← show ℓ = ℓ' from funext hℓ]
      exact hI
  have HT : Hid (q = r) := by
    have hall : ∀ z ∈ zs, ImE (N z.toNat) (M z.toNat) (D z.toNat) (E z.toNat) := fun z hz => (HG.out z).1 (HGG.out.1 (by first | rfl | trivial) z hz)
    cases hr : r
    · cases q
      · rfl
      · have := (HQQ.out.1 rfl).2
        rw [← HRR.out] at hr
        exact absurd this (of_decide_eq_false hr)
    · exact HQQ.out.2 ⟨hall, of_decide_eq_true (HRR.out.trans hr)⟩
  go_wp2
  refine wp_region_inv (by kernel_rfl) (by kernel_rfl) (fun A ℓ a' w' => ∃ (x45 x46 x47 x48 x49 x50 x51 x52 x53 x54 x55 x56 x12 : Value), a' = (((((((((((((A.put (some 45) x45).put (some 46) x46).put (some 47) x47).put (some 48) x48).put (some 49) x49).put (some 50) x50).put (some 51) x51).put (some 52) x52).put (some 53) x53).put (some 54) x54).put (some 55) x55).put (some 56) x56).put (some 12) x12) ∧ RS4 W3 (tbV t a) (.int .i64 p) (.slice ca nx cca) (.slice cb ny ccb) (.bool r) us vs w' (ℓ 0) (ℓ 1) (ℓ 2) (ℓ 3) (ℓ 4) (ℓ 5) (ℓ 6) (ℓ 7) (ℓ 8) (ℓ 9) (ℓ 10) (ℓ 11) (ℓ 12) x45 x46 x47 x48 x49 x50 x51 x52 x53 x54 x55 x56 x12) ?_ ?_ ?_ ?_
  · exact ⟨undef, undef, undef, undef, undef, undef, undef, undef, undef, undef, undef, undef, .bool false, (by simp only [Act.put, List.setIfInBounds_toArray, List.set_cons_zero, List.set_cons_succ]), ⟨HW0.out.drew, (fun g => by cases g), (fun g => by cases g), (fun g => by cases g), (fun g => by cases g), (fun g => by cases g), (fun g => by cases g), (fun g => by cases g), (fun g => by cases g), (fun g => by cases g), (fun g => by cases g), (fun g => by cases g), (fun g => by cases g), (fun g => by cases g)⟩⟩
  · intro ℓ a' w' hI hall
    obtain ⟨x45, x46, x47, x48, x49, x50, x51, x52, x53, x54, x55, x56, x12, rfl, hr⟩ := hI
    have hall' : ∀ i, i < 13 → ℓ i = true := hall
    obtain rfl := hr.f0 (hall' 0 (by decide))
    obtain rfl := hr.f1 (hall' 1 (by decide))
    obtain rfl := hr.f2 (hall' 2 (by decide))
    obtain rfl := hr.f3 (hall' 3 (by decide))
    obtain rfl := hr.f4 (hall' 4 (by decide))
    obtain ⟨A5, c5, rfl, hs5⟩ := hr.f5 (hall' 5 (by decide))
    obtain rfl := hr.f6 (hall' 6 (by decide))
    obtain rfl := hr.f7 (hall' 7 (by decide))
    obtain rfl := hr.f8 (hall' 8 (by decide))
    obtain ⟨A9, c9, rfl, hs9⟩ := hr.f9 (hall' 9 (by decide))
    obtain rfl := hr.f10 (hall' 10 (by decide))
    obtain rfl := hr.f11 (hall' 11 (by decide))
    obtain rfl := hr.f12 (hall' 12 (by decide))
    have gb : Hid (Below W3.heap.size W3 w') := hr.gb
    clear hall hall' hr
    simp only [Act.put, List.setIfInBounds_toArray, List.set_cons_zero, List.set_cons_succ]
    have HBF : Hid (Below w.heap.size w w') := HB5.out.trans (gb.out.mono HB5.out.size)
    go_wp2
    go_ret
    exact ⟨by rw [HT.out]; rfl, HBF.out⟩
  · intro ℓ a' w' i o hI ho hi hL hdep K hK
    obtain ⟨x45, x46, x47, x48, x49, x50, x51, x52, x53, x54, x55, x56, x12, rfl, hr⟩ := hI
    have hi7 : i < 13 := hi
    have hcs : i = 0 ∨ i = 1 ∨ i = 2 ∨ i = 3 ∨ i = 4 ∨ i = 5 ∨ i = 6 ∨ i = 7 ∨ i = 8 ∨ i = 9 ∨ i = 10 ∨ i = 11 ∨ i = 12 := by omega
    clear hi hi7
    rcases hcs with rfl | rfl | rfl | rfl | rfl | rfl | rfl | rfl | rfl | rfl | rfl | rfl | rfl
    · obtain rfl := Option.some.inj ho
      clear hdep ho
      revert hK
      intro hK
      rw [if_pos (by rfl)]
      try simp only [Act.put, List.setIfInBounds_toArray, List.set_cons_zero, List.set_cons_succ]
      go_simp
      exact hK.out _ _ (fun j => if j = 0 then true else ℓ j) ⟨.bool true, x46, x47, x48, x49, x50, x51, x52, x53, x54, x55, x56, x12, (by simp only [Act.put, List.setIfInBounds_toArray, List.set_cons_zero, List.set_cons_succ]), ⟨hr.gb, (fun _ => rfl), hr.f1, hr.f2, hr.f3, hr.f4, hr.f5, hr.f6, hr.f7, hr.f8, hr.f9, hr.f10, hr.f11, hr.f12⟩⟩ (if_pos rfl) (fun j hj => if_neg hj)
    · obtain rfl := Option.some.inj ho
      have g0 : ℓ 0 = true := hdep { on := 0, ground := Ground.data } (by simp) rfl
      clear hdep ho
      revert hK
      obtain rfl := hr.f0 g0
      intro hK
      rw [if_pos (by rfl)]
      try simp only [Act.put, List.setIfInBounds_toArray, List.set_cons_zero, List.set_cons_succ]
      go_simp
      exact hK.out _ _ (fun j => if j = 1 then true else ℓ j) ⟨.bool true, .bool true, x47, x48, x49, x50, x51, x52, x53, x54, x55, x56, x12, (by simp only [Act.put, List.setIfInBounds_toArray, List.set_cons_zero, List.set_cons_succ]), ⟨hr.gb, (fun _ => rfl), (fun _ => rfl), hr.f2, hr.f3, hr.f4, hr.f5, hr.f6, hr.f7, hr.f8, hr.f9, hr.f10, hr.f11, hr.f12⟩⟩ (if_pos rfl) (fun j hj => if_neg hj)
    · replace ho : some ({ dst := some 47, op := .load 44 (.tmp 6), type := 44, pos := "l20_flow.go:156", after := #[{ on := 1, ground := Ground.guard }], guard := some (1, true) } : Oper) = some o := ho
      obtain rfl := Option.some.inj ho
      have g1 : ℓ 1 = true := hdep { on := 1, ground := Ground.guard } (by simp) rfl
      clear hdep ho
      revert hK
      obtain rfl := hr.f1 g1
      intro hK
      try simp only [Act.put, List.setIfInBounds_toArray, List.set_cons_zero, List.set_cons_succ]
      rw [if_pos (by rfl)]
      try simp only [Act.put, List.setIfInBounds_toArray, List.set_cons_zero, List.set_cons_succ]
      refine wp_load_row (P := Tryz.prog) 44 (.tmp 6) rfl w.heap.size rfl 44 (tbA t a) (0, 0) _ (HXB.out _ hr.gb) Tryz.underlying44 rfl (by kernel_rfl) ?_
      exact hK.out _ _ (fun j => if j = 2 then true else ℓ j) ⟨x45, .bool true, tbV t a, x48, x49, x50, x51, x52, x53, x54, x55, x56, x12, (by simp only [Act.put, List.setIfInBounds_toArray, List.set_cons_zero, List.set_cons_succ]), ⟨hr.gb, hr.f0, (fun _ => rfl), (fun _ => rfl), hr.f3, hr.f4, hr.f5, hr.f6, hr.f7, hr.f8, hr.f9, hr.f10, hr.f11, hr.f12⟩⟩ (if_pos rfl) (fun j hj => if_neg hj)
    · obtain rfl := Option.some.inj ho
      have g1 : ℓ 1 = true := hdep { on := 1, ground := Ground.guard } (by simp) rfl
      clear hdep ho
      revert hK
      obtain rfl := hr.f1 g1
      intro hK
      try simp only [Act.put, List.setIfInBounds_toArray, List.set_cons_zero, List.set_cons_succ]
      rw [if_pos (by rfl)]
      try simp only [Act.put, List.setIfInBounds_toArray, List.set_cons_zero, List.set_cons_succ]
      go_simp
      exact hK.out _ _ (fun j => if j = 3 then true else ℓ j) ⟨x45, .bool true, x47, .int .i64 p, x49, x50, x51, x52, x53, x54, x55, x56, x12, (by simp only [Act.put, List.setIfInBounds_toArray, List.set_cons_zero, List.set_cons_succ]), ⟨hr.gb, hr.f0, (fun _ => rfl), hr.f2, (fun _ => rfl), hr.f4, hr.f5, hr.f6, hr.f7, hr.f8, hr.f9, hr.f10, hr.f11, hr.f12⟩⟩ (if_pos rfl) (fun j hj => if_neg hj)
    · obtain rfl := Option.some.inj ho
      have g1 : ℓ 1 = true := hdep { on := 1, ground := Ground.guard } (by simp) rfl
      clear hdep ho
      revert hK
      obtain rfl := hr.f1 g1
      intro hK
      try simp only [Act.put, List.setIfInBounds_toArray, List.set_cons_zero, List.set_cons_succ]
      rw [if_pos (by rfl)]
      try simp only [Act.put, List.setIfInBounds_toArray, List.set_cons_zero, List.set_cons_succ]
      go_simp
      exact hK.out _ _ (fun j => if j = 4 then true else ℓ j) ⟨x45, .bool true, x47, x48, .slice ca nx cca, x50, x51, x52, x53, x54, x55, x56, x12, (by simp only [Act.put, List.setIfInBounds_toArray, List.set_cons_zero, List.set_cons_succ]), ⟨hr.gb, hr.f0, (fun _ => rfl), hr.f2, hr.f3, (fun _ => rfl), hr.f5, hr.f6, hr.f7, hr.f8, hr.f9, hr.f10, hr.f11, hr.f12⟩⟩ (if_pos rfl) (fun j hj => if_neg hj)
    · obtain rfl := Option.some.inj ho
      have g2 : ℓ 2 = true := hdep { on := 2, ground := Ground.data } (by simp) rfl
      have g3 : ℓ 3 = true := hdep { on := 3, ground := Ground.data } (by simp) rfl
      have g4 : ℓ 4 = true := hdep { on := 4, ground := Ground.data } (by simp) rfl
      have g1 : ℓ 1 = true := hdep { on := 1, ground := Ground.guard } (by simp) rfl
      clear hdep ho
      revert hK
      obtain rfl := hr.f1 g1
      obtain rfl := hr.f2 g2
      obtain rfl := hr.f3 g3
      obtain rfl := hr.f4 g4
      intro hK
      try simp only [Act.put, List.setIfInBounds_toArray, List.set_cons_zero, List.set_cons_succ]
      rw [if_pos (by rfl)]
      try simp only [Act.put, List.setIfInBounds_toArray, List.set_cons_zero, List.set_cons_succ]
      go_simp
      refine Calls.mono (HC1.out _ hr.gb) ?_
      rintro e w9 ⟨AN, cN, rfl, hb9, hoi⟩
      have hr9 := hr.below hb9
      exact hK.out _ _ (fun j => if j = 5 then true else ℓ j) ⟨x45, .bool true, tbV t a, .int .i64 p, .slice ca nx cca, .slice AN (us).length cN, x51, x52, x53, x54, x55, x56, x12, (by simp only [Act.put, List.setIfInBounds_toArray, List.set_cons_zero, List.set_cons_succ]), ⟨hr9.gb, hr9.f0, (fun _ => rfl), (fun _ => rfl), (fun _ => rfl), (fun _ => rfl), (fun _ => ⟨AN, cN, rfl, hoi.2⟩), hr9.f6, hr9.f7, hr9.f8, hr9.f9, hr9.f10, hr9.f11, hr9.f12⟩⟩ (if_pos rfl) (fun j hj => if_neg hj)
    · replace ho : some ({ dst := some 51, op := .load 44 (.tmp 6), type := 44, pos := "l20_flow.go:156", after := #[{ on := 1, ground := Ground.guard }], guard := some (1, true) } : Oper) = some o := ho
      obtain rfl := Option.some.inj ho
      have g1 : ℓ 1 = true := hdep { on := 1, ground := Ground.guard } (by simp) rfl
      clear hdep ho
      revert hK
      obtain rfl := hr.f1 g1
      intro hK
      try simp only [Act.put, List.setIfInBounds_toArray, List.set_cons_zero, List.set_cons_succ]
      rw [if_pos (by rfl)]
      try simp only [Act.put, List.setIfInBounds_toArray, List.set_cons_zero, List.set_cons_succ]
      refine wp_load_row (P := Tryz.prog) 44 (.tmp 6) rfl w.heap.size rfl 44 (tbA t a) (0, 0) _ (HXB.out _ hr.gb) Tryz.underlying44 rfl (by kernel_rfl) ?_
      exact hK.out _ _ (fun j => if j = 6 then true else ℓ j) ⟨x45, .bool true, x47, x48, x49, x50, tbV t a, x52, x53, x54, x55, x56, x12, (by simp only [Act.put, List.setIfInBounds_toArray, List.set_cons_zero, List.set_cons_succ]), ⟨hr.gb, hr.f0, (fun _ => rfl), hr.f2, hr.f3, hr.f4, hr.f5, (fun _ => rfl), hr.f7, hr.f8, hr.f9, hr.f10, hr.f11, hr.f12⟩⟩ (if_pos rfl) (fun j hj => if_neg hj)
    · obtain rfl := Option.some.inj ho
      have g1 : ℓ 1 = true := hdep { on := 1, ground := Ground.guard } (by simp) rfl
      clear hdep ho
      revert hK
      obtain rfl := hr.f1 g1
      intro hK
      try simp only [Act.put, List.setIfInBounds_toArray, List.set_cons_zero, List.set_cons_succ]
      rw [if_pos (by rfl)]
      try simp only [Act.put, List.setIfInBounds_toArray, List.set_cons_zero, List.set_cons_succ]
      go_simp
      exact hK.out _ _ (fun j => if j = 7 then true else ℓ j) ⟨x45, .bool true, x47, x48, x49, x50, x51, .int .i64 p, x53, x54, x55, x56, x12, (by simp only [Act.put, List.setIfInBounds_toArray, List.set_cons_zero, List.set_cons_succ]), ⟨hr.gb, hr.f0, (fun _ => rfl), hr.f2, hr.f3, hr.f4, hr.f5, hr.f6, (fun _ => rfl), hr.f8, hr.f9, hr.f10, hr.f11, hr.f12⟩⟩ (if_pos rfl) (fun j hj => if_neg hj)
    · obtain rfl := Option.some.inj ho
      have g1 : ℓ 1 = true := hdep { on := 1, ground := Ground.guard } (by simp) rfl
      clear hdep ho
      revert hK
      obtain rfl := hr.f1 g1
      intro hK
      try simp only [Act.put, List.setIfInBounds_toArray, List.set_cons_zero, List.set_cons_succ]
      rw [if_pos (by rfl)]
      try simp only [Act.put, List.setIfInBounds_toArray, List.set_cons_zero, List.set_cons_succ]
      go_simp
      exact hK.out _ _ (fun j => if j = 8 then true else ℓ j) ⟨x45, .bool true, x47, x48, x49, x50, x51, x52, .slice cb ny ccb, x54, x55, x56, x12, (by simp only [Act.put, List.setIfInBounds_toArray, List.set_cons_zero, List.set_cons_succ]), ⟨hr.gb, hr.f0, (fun _ => rfl), hr.f2, hr.f3, hr.f4, hr.f5, hr.f6, hr.f7, (fun _ => rfl), hr.f9, hr.f10, hr.f11, hr.f12⟩⟩ (if_pos rfl) (fun j hj => if_neg hj)
    · obtain rfl := Option.some.inj ho
      have g6 : ℓ 6 = true := hdep { on := 6, ground := Ground.data } (by simp) rfl
      have g7 : ℓ 7 = true := hdep { on := 7, ground := Ground.data } (by simp) rfl
      have g8 : ℓ 8 = true := hdep { on := 8, ground := Ground.data } (by simp) rfl
      have g1 : ℓ 1 = true := hdep { on := 1, ground := Ground.guard } (by simp) rfl
      clear hdep ho
      revert hK
      obtain rfl := hr.f1 g1
      obtain rfl := hr.f6 g6
      obtain rfl := hr.f7 g7
      obtain rfl := hr.f8 g8
      intro hK
      try simp only [Act.put, List.setIfInBounds_toArray, List.set_cons_zero, List.set_cons_succ]
      rw [if_pos (by rfl)]
      try simp only [Act.put, List.setIfInBounds_toArray, List.set_cons_zero, List.set_cons_succ]
      go_simp
      refine Calls.mono (HC2.out _ hr.gb) ?_
      rintro e w9 ⟨AN, cN, rfl, hb9, hoi⟩
      have hr9 := hr.below hb9
      exact hK.out _ _ (fun j => if j = 9 then true else ℓ j) ⟨x45, .bool true, x47, x48, x49, x50, tbV t a, .int .i64 p, .slice cb ny ccb, .slice AN (vs).length cN, x55, x56, x12, (by simp only [Act.put, List.setIfInBounds_toArray, List.set_cons_zero, List.set_cons_succ]), ⟨hr9.gb, hr9.f0, (fun _ => rfl), hr9.f2, hr9.f3, hr9.f4, hr9.f5, (fun _ => rfl), (fun _ => rfl), (fun _ => rfl), (fun _ => ⟨AN, cN, rfl, hoi.2⟩), hr9.f10, hr9.f11, hr9.f12⟩⟩ (if_pos rfl) (fun j hj => if_neg hj)
    · obtain rfl := Option.some.inj ho
      have g5 : ℓ 5 = true := hdep { on := 5, ground := Ground.data } (by simp) rfl
      have g9 : ℓ 9 = true := hdep { on := 9, ground := Ground.data } (by simp) rfl
      have g1 : ℓ 1 = true := hdep { on := 1, ground := Ground.guard } (by simp) rfl
      clear hdep ho
      revert hK
      obtain rfl := hr.f1 g1
      obtain ⟨A5, c5, rfl, hs5⟩ := hr.f5 g5
      obtain ⟨A9, c9, rfl, hs9⟩ := hr.f9 g9
      intro hK
      try simp only [Act.put, List.setIfInBounds_toArray, List.set_cons_zero, List.set_cons_succ]
      rw [if_pos (by rfl)]
      try simp only [Act.put, List.setIfInBounds_toArray, List.set_cons_zero, List.set_cons_succ]
      go_simp
      refine Calls.mono (HEQ.out _ _ _ _ _ hs5 hs9) ?_
      rintro e w9 ⟨rfl, hb9⟩
      have hr9 := hr.below hb9
      exact hK.out _ _ (fun j => if j = 10 then true else ℓ j) ⟨x45, .bool true, x47, x48, x49, .slice A5 (us).length c5, x51, x52, x53, .slice A9 (vs).length c9, .bool r, x56, x12, (by simp only [Act.put, List.setIfInBounds_toArray, List.set_cons_zero, List.set_cons_succ]), ⟨hr9.gb, hr9.f0, (fun _ => rfl), hr9.f2, hr9.f3, hr9.f4, (fun _ => ⟨A5, c5, rfl, hs5.below hb9⟩), hr9.f6, hr9.f7, hr9.f8, (fun _ => ⟨A9, c9, rfl, hs9.below hb9⟩), (fun _ => rfl), hr9.f11, hr9.f12⟩⟩ (if_pos rfl) (fun j hj => if_neg hj)
    · obtain rfl := Option.some.inj ho
      have g1 : ℓ 1 = true := hdep { on := 1, ground := Ground.data } (by simp) rfl
      have g10 : ℓ 10 = true := hdep { on := 10, ground := Ground.data } (by simp) rfl
      clear hdep ho
      revert hK
      obtain rfl := hr.f1 g1
      obtain rfl := hr.f10 g10
      intro hK
      rw [if_pos (by rfl)]
      try simp only [Act.put, List.setIfInBounds_toArray, List.set_cons_zero, List.set_cons_succ]
      go_simp
      exact hK.out _ _ (fun j => if j = 11 then true else ℓ j) ⟨x45, .bool true, x47, x48, x49, x50, x51, x52, x53, x54, .bool r, .bool r, x12, (by simp only [Act.put, List.setIfInBounds_toArray, List.set_cons_zero, List.set_cons_succ]), ⟨hr.gb, hr.f0, (fun _ => rfl), hr.f2, hr.f3, hr.f4, hr.f5, hr.f6, hr.f7, hr.f8, hr.f9, (fun _ => rfl), (fun _ => rfl), hr.f12⟩⟩ (if_pos rfl) (fun j hj => if_neg hj)
    · obtain rfl := Option.some.inj ho
      have g11 : ℓ 11 = true := hdep { on := 11, ground := Ground.data } (by simp) rfl
      clear hdep ho
      revert hK
      obtain rfl := hr.f11 g11
      intro hK
      rw [if_pos (by rfl)]
      try simp only [Act.put, List.setIfInBounds_toArray, List.set_cons_zero, List.set_cons_succ]
      go_simp
      exact hK.out _ _ (fun j => if j = 12 then true else ℓ j) ⟨x45, x46, x47, x48, x49, x50, x51, x52, x53, x54, x55, .bool r, .bool r, (by simp only [Act.put, List.setIfInBounds_toArray, List.set_cons_zero, List.set_cons_succ]), ⟨hr.gb, hr.f0, hr.f1, hr.f2, hr.f3, hr.f4, hr.f5, hr.f6, hr.f7, hr.f8, hr.f9, hr.f10, (fun _ => rfl), (fun _ => rfl)⟩⟩ (if_pos rfl) (fun j hj => if_neg hj)
  · rintro a' w' ℓ ℓ' hℓ hI
    rw [← show ℓ = ℓ' from funext hℓ]
    exact hI
end Go.Proofs.YtgmhcngdgfhhaaaGreatDoor
