
/-
  The law on blamed spans, walked: of all bytes it returns true. Conditions: the bytes are bytes; the program's table of extras holds what the program's text lays.
-/
import Derived.Test.YtlomcdgfcocmmaaGreatDoorBas
import Derived.Test.YtlomcdgfcocmmaaGreatDoorDsp
import Derived.Test.YtlomcdgfcocmmaaGreatDoorJa2
import Derived.Test.YtlomcdgfcocmmaaGreatDoorVat
namespace Go.Proofs.YtlomcdgfcocmmaaGreatDoor
open Go.ChangeShapes Go.WideShapes Go.ChangeAt Go.RowKit Go.Deep Go.Joins
set_option linter.unusedVariables false

set_option maxRecDepth 40000 in
set_option maxHeartbeats 16000000 in
theorem walk_blamed (a : Option Addr) (zs : List Int) (cap n : Nat) (w : World) (hs : Seg .u8 w a zs) (hb : ∀ z ∈ zs, (Lit.int .u8 z).wf = true) (hl : zs.length = n) (he : TabE w) :
    Calls Tryz.prog 6 #[.slice a n cap] w fun e w' => e = .returned (.bool true) ∧ Below w.heap.size w w' := by
  by_cases hn : n ≤ 1048576
  rotate_left
  · have HY : Hid _ := big_yes a n cap w hn
    go_enter Tryz.func6, Tryz.ntmps6
    go_wp2_with fail
    refine Calls.mono HY.out ?_
    rintro e w1 ⟨rfl, rfl⟩
    go_wp2
    go_ret
    exact ⟨rfl, Below.refl _ _⟩
  have HNO : Hid _ := big_no a n cap w hn
  have HDR : Hid _ := draw_spans w a zs cap n hs hb hl hn
  have HTE : Hid (∀ X, Below w.heap.size w X → TabE X) := fun X hX => he.below hX
  have HAT : Hid _ := fun X (hX : Below w.heap.size w X) => at_any a cap n zs 1 X hn hl (by omega) (hs.below hX) hb
  clear hs hb hl he
  go_enter Tryz.func6, Tryz.ntmps6
  go_wp2_with fail
  refine Calls.mono HNO.out ?_
  rintro e w ⟨rfl, rfl⟩
  go_wp2_with fail
  refine Calls.mono HDR.out ?_
  rintro e w1 ⟨t, ad, f, u, rfl, hD, hb⟩
  have HNR : Hid (RV (w1.alloc (.cells #[.int .i64 0, .int .i64 0, .int .i64 0, .int .i64 0, .int .i64 0, .int .i64 0, .int .i64 0, .int .i64 0, .int .i64 0, .int .i64 0, .int .i64 0, .int .i64 0, .int .i64 0, .int .i64 0, .int .i64 0, .slice none 0 0, .slice none 0 0, .slice none 0 0, .slice none 0 0] 33)) w1.heap.size (#[.int .i64 0, .int .i64 0, .int .i64 0, .int .i64 0, .int .i64 0, .int .i64 0, .int .i64 0, .int .i64 0, .int .i64 0, .int .i64 0, .int .i64 0, .int .i64 0, .int .i64 0, .int .i64 0, .int .i64 0, .slice none 0 0, .slice none 0 0, .slice none 0 0, .slice none 0 0])) := new_row w1 _ _ _ rfl
  have hbV : Below w1.heap.size w1 ((w1.alloc (.cells #[.int .i64 0, .int .i64 0, .int .i64 0, .int .i64 0, .int .i64 0, .int .i64 0, .int .i64 0, .int .i64 0, .int .i64 0, .int .i64 0, .int .i64 0, .int .i64 0, .int .i64 0, .int .i64 0, .int .i64 0, .slice none 0 0, .slice none 0 0, .slice none 0 0, .slice none 0 0] 33)).setRow w1.heap.size (tbA t ad)) := below_setRow ((Below.refl _ _).alloc (Nat.le_refl _) _) (Nat.le_refl _) _
  have HX : Hid (∀ X, Below ((w1.alloc (.cells #[.int .i64 0, .int .i64 0, .int .i64 0, .int .i64 0, .int .i64 0, .int .i64 0, .int .i64 0, .int .i64 0, .int .i64 0, .int .i64 0, .int .i64 0, .int .i64 0, .int .i64 0, .int .i64 0, .int .i64 0, .slice none 0 0, .slice none 0 0, .slice none 0 0, .slice none 0 0] 33)).setRow w1.heap.size (tbA t ad)).heap.size ((w1.alloc (.cells #[.int .i64 0, .int .i64 0, .int .i64 0, .int .i64 0, .int .i64 0, .int .i64 0, .int .i64 0, .int .i64 0, .int .i64 0, .int .i64 0, .int .i64 0, .int .i64 0, .int .i64 0, .int .i64 0, .int .i64 0, .slice none 0 0, .slice none 0 0, .slice none 0 0, .slice none 0 0] 33)).setRow w1.heap.size (tbA t ad)) X → X.heap[w1.heap.size]? = some (.cells (tbA t ad) 33 (0, 0))) := fun X hX => row_below (setRow_heap _ _ _ _ _ _ HNR.out) hX
  have HB1 : Hid (Below w.heap.size w ((w1.alloc (.cells #[.int .i64 0, .int .i64 0, .int .i64 0, .int .i64 0, .int .i64 0, .int .i64 0, .int .i64 0, .int .i64 0, .int .i64 0, .int .i64 0, .int .i64 0, .int .i64 0, .int .i64 0, .int .i64 0, .int .i64 0, .slice none 0 0, .slice none 0 0, .slice none 0 0, .slice none 0 0] 33)).setRow w1.heap.size (tbA t ad))) := hb.trans (hbV.mono hb.size)
  have HTM : Hid (∀ X, Below ((w1.alloc (.cells #[.int .i64 0, .int .i64 0, .int .i64 0, .int .i64 0, .int .i64 0, .int .i64 0, .int .i64 0, .int .i64 0, .int .i64 0, .int .i64 0, .int .i64 0, .int .i64 0, .int .i64 0, .int .i64 0, .int .i64 0, .slice none 0 0, .slice none 0 0, .slice none 0 0, .slice none 0 0] 33)).setRow w1.heap.size (tbA t ad)).heap.size ((w1.alloc (.cells #[.int .i64 0, .int .i64 0, .int .i64 0, .int .i64 0, .int .i64 0, .int .i64 0, .int .i64 0, .int .i64 0, .int .i64 0, .int .i64 0, .int .i64 0, .int .i64 0, .int .i64 0, .int .i64 0, .int .i64 0, .slice none 0 0, .slice none 0 0, .slice none 0 0, .slice none 0 0] 33)).setRow w1.heap.size (tbA t ad)) X → TM 0 X t ad) := fun X hX => hD.t.below (hbV.trans (hX.mono hbV.size))
  have HTW : Hid (TW t ad) := hD.w
  have HTS : Hid (TS ad) := hD.s
  have HCP : Hid (ad.pn ≤ ad.pc ∧ ad.sn ≤ ad.sc) := ⟨hD.c1, hD.c2⟩
  have HP4 : Hid (2 ≤ ad.pn ∧ ad.pn ≤ 4) := hD.p
  have HTB : Hid (∀ X, Below ((w1.alloc (.cells #[.int .i64 0, .int .i64 0, .int .i64 0, .int .i64 0, .int .i64 0, .int .i64 0, .int .i64 0, .int .i64 0, .int .i64 0, .int .i64 0, .int .i64 0, .int .i64 0, .int .i64 0, .int .i64 0, .int .i64 0, .slice none 0 0, .slice none 0 0, .slice none 0 0, .slice none 0 0] 33)).setRow w1.heap.size (tbA t ad)).heap.size ((w1.alloc (.cells #[.int .i64 0, .int .i64 0, .int .i64 0, .int .i64 0, .int .i64 0, .int .i64 0, .int .i64 0, .int .i64 0, .int .i64 0, .int .i64 0, .int .i64 0, .int .i64 0, .int .i64 0, .int .i64 0, .int .i64 0, .slice none 0 0, .slice none 0 0, .slice none 0 0, .slice none 0 0] 33)).setRow w1.heap.size (tbA t ad)) X → TabE X) := fun X hX => HTE.out X (HB1.out.trans (hX.mono HB1.out.size))
  clear hb hbV hD HDR HNO HTE
  go_wp2_with (first | (refine wpList_store_row rfl 33 (.tmp 3) (.tmp 13) rfl w1.heap.size (tbA t ad) rfl rfl 33 (#[.int .i64 0, .int .i64 0, .int .i64 0, .int .i64 0, .int .i64 0, .int .i64 0, .int .i64 0, .int .i64 0, .int .i64 0, .int .i64 0, .int .i64 0, .int .i64 0, .int .i64 0, .int .i64 0, .int .i64 0, .slice none 0 0, .slice none 0 0, .slice none 0 0, .slice none 0 0]) HNR.out (by kernel_rfl) rfl (by simp [Value.oneCell']) ?_) | (refine wpList_load_row rfl 33 (.tmp 3) rfl w1.heap.size rfl 33 (tbA t ad) (0, 0) _ (HX.out _ (Below.refl _ _)) Tryz.underlying33 rfl (by kernel_rfl) ?_) | fail)
  clear HNR
  revert HX HB1 HTM HTB
  generalize ((w1.alloc (.cells #[.int .i64 0, .int .i64 0, .int .i64 0, .int .i64 0, .int .i64 0, .int .i64 0, .int .i64 0, .int .i64 0, .int .i64 0, .int .i64 0, .int .i64 0, .int .i64 0, .int .i64 0, .int .i64 0, .int .i64 0, .slice none 0 0, .slice none 0 0, .slice none 0 0, .slice none 0 0] 33)).setRow w1.heap.size (tbA t ad)) = V
  generalize w1.heap.size = N
  intro HX HB1 HTM HTB
  have HSS : Hid (∀ X, Below V.heap.size V X → Calls Tryz.prog 22 #[tbV t ad, .int .i64 f, .int .i64 u] X fun e w' => ∃ v, e = .returned v ∧ OwnS w' (X.heap.size + 1) v (spAll t f u) ∧ Below X.heap.size X w') := fun X hX => spec_spans t ad f u X (HTM.out X hX) HTW.out HTS.out
  have HIB : Hid (∀ (b : Option Addr) (cb : Nat) (xs : List saT) X, Below V.heap.size V X → GSeg 4 X b xs.length (saX xs) → xs.length ≤ 1048576 → Calls Tryz.prog 24 #[tbV t ad, .slice b xs.length cb] X fun e w' => e = .returned (.int .i64 (blmV t xs)) ∧ Below X.heap.size X w') := fun b cb xs X hX h1 h2 => impl_blame t ad b cb xs X (HTM.out X hX) HTW.out HTS.out (HTB.out X hX) HCP.out.1 HCP.out.2 h1 h2
  have HIS : Hid (∀ (b : Option Addr) (cb : Nat) (xs : List saT) X, Below V.heap.size V X → GSeg 4 X b xs.length (saX xs) → xs.length ≤ 1048576 → Calls Tryz.prog 23 #[tbV t ad, .int .i64 f, .int .i64 u, .slice b xs.length cb] X fun e w' => e = .returned (.bool (sokV t f u xs)) ∧ Below X.heap.size X w') := fun b cb xs X hX h1 h2 => impl_sok t ad f u b cb xs X (HTM.out X hX) HTW.out HTS.out (HTB.out X hX) HCP.out.1 HCP.out.2 h1 h2
  refine Calls.mono (HSS.out _ (Below.refl _ _)) ?_
  rintro e w2 ⟨v, rfl, ho, hb2⟩
  have HB2 : Hid (Below V.heap.size V w2) := hb2
  have HO2 : Hid (OwnS w2 (V.heap.size + 1) v (spAll t f u)) := ho
  clear ho hb2
  have hzl : (spAll t f u).length ≤ 5000 := spAll_len t f u
  by_cases h0 : (spAll t f u).length = 0
  · obtain ⟨A, c, rfl, _, hsg⟩ := HO2.out.seg
    have HE : Hid (blmV t (spAll t f u) = -1) := by
      have e : spAll t f u = [] := List.eq_nil_of_length_eq_zero h0
      show _ = _
      rw [e]
      unfold blmV
      split <;> rfl
    have HC : Hid _ := HIB.out A c (spAll t f u) w2 HB2.out hsg (by omega)
    have h00 : (((spAll t f u).length : Int) == 0) = true := by simp [h0]
    rw [HE.out] at HC
    generalize (spAll t f u).length = m at *
    clear HE hsg h0 HSS HIB HIS HAT
    go_wp2_with (first | (refine wpList_load_row rfl 33 (.tmp 3) rfl N rfl 33 (tbA t ad) (0, 0) _ (HX.out _ HB2.out) Tryz.underlying33 rfl (by kernel_rfl) ?_) | fail)
    refine Calls.mono HC.out ?_
    rintro e w3 ⟨rfl, hb3⟩
    have HB3 : Hid (Below w.heap.size w w3) := HB1.out.trans ((HB2.out.trans (hb3.mono HB2.out.size)).mono HB1.out.size)
    clear hb3
    go_wp2
    go_ret
    exact ⟨rfl, HB3.out⟩
  have HF : Hid (∃ g c, v = .slice (some ⟨g, 0, none⟩) (spAll t f u).length c) := by
    rcases HO2.out.2 with ⟨_, q⟩ | ⟨g, c, cur, q, _⟩
    · exact absurd q h0
    · exact ⟨g, c, q⟩
  obtain ⟨g, c, rfl⟩ := HF.out
  clear HF
  have h00 : (((spAll t f u).length : Int) == 0) = false := by simpa using h0
  have HSP : Hid (SPok t f u) := (spAll_ok h0).1
  obtain ⟨m, hm⟩ : ∃ m, (spAll t f u).length = m := ⟨_, rfl⟩
  have HM : Hid ((spAll t f u).length = m) := hm
  have HPS : Hid (t.ps.length ≤ 1048576) := by have := HP4.out.2; have := HTW.out.pl; show _ ≤ _; omega
  have hgb := HO2.out.gl
  have HGB : Hid (g < w2.heap.size ∧ V.heap.size + 1 ≤ g) := hgb
  rw [hm] at hzl h0 h00 HO2 ⊢
  clear hm hgb
  have hbw2 : Below w.heap.size w w2 := HB1.out.trans (HB2.out.mono HB1.out.size)
  have HA : Hid _ := HAT.out w2 hbw2
  clear hbw2 HAT
  go_wp2_with fail
  refine Calls.mono HA.out ?_
  rintro e w2' ⟨y, rfl, hy0, hy1, hww⟩
  subst hww
  have hm0 : ¬ ((m : Int) = 0) := by omega
  have hmm := Int.emod_nonneg y (show (m : Int) ≠ 0 by omega)
  have hml := Int.emod_lt_of_pos y (show 0 < (m : Int) by omega)
  obtain ⟨i, hi⟩ : ∃ i : Nat, y % (m : Int) = (i : Int) := ⟨(y % (m : Int)).toNat, by omega⟩
  rw [hi] at hmm hml
  have him : i < m := by omega
  have HX1 : Hid (i < (spAll t f u).length) := by rw [HM.out]; exact him
  have hph := spAll_phase HX1.out
  have hwh := spAll_who HX1.out HPS.out
  obtain ⟨x, hxe⟩ : ∃ x, (spAll t f u).getD i sa0 = x := ⟨_, rfl⟩
  have HXE : Hid ((spAll t f u).getD i sa0 = x) := hxe
  rw [hxe] at hph hwh
  clear hxe
  obtain ⟨x1, x2, x3, x4⟩ := x
  simp only at hph hwh
  obtain ⟨p4, hp4⟩ : ∃ p, (x4 + 1) % 4 = p := ⟨_, rfl⟩
  have HP4N : Hid (p4 ≠ x4) := by show p4 ≠ x4; omega
  have hw4 : IntKind.i64.wrap (x4 + 1) = x4 + 1 := by rw [IntKind.wrap_i64]; omega
  have hx40 : 0 ≤ x4 + 1 := by omega
  have hw3 : IntKind.i64.wrap (x3 + 1) = x3 + 1 := by rw [IntKind.wrap_i64]; omega
  have HT4 : Hid _ := turned (t := t) (f := f) (u := u) (i := i) (x' := (x1, x2, x3, p4)) HX1.out (by rw [HXE.out]) (.inl (by rw [HXE.out]; exact HP4N.out)) (by rw [HXE.out])
  have HT3 : Hid _ := turned (t := t) (f := f) (u := u) (i := i) (x' := (x1, x2, x3 + 1, x4)) HX1.out (by rw [HXE.out]) (.inr (by rw [HXE.out]; show x3 + 1 ≠ x3; omega)) (by rw [HXE.out])
  have hst := HO2.out.setj i HX1.out 3 (by omega) (.int .i64 p4) (x1, x2, x3, p4) (by rw [HXE.out]; rfl)
  have f3 := hst.1
  have c3 : w2'.cell? ⟨g, i * 4 + 3, none⟩ = some (.int .i64 x4) := hst.2.1 3 _ (by rw [HXE.out]; rfl)
  have HO3 : Hid (OwnS (w2'.setCell ⟨g, i * 4 + 3, none⟩ (.int .i64 p4)) (V.heap.size + 1) (.slice (some ⟨g, 0, none⟩) m c) ((spAll t f u).set i (x1, x2, x3, p4))) := hst.2.2
  have HB3 : Hid (Below V.heap.size V (w2'.setCell ⟨g, i * 4 + 3, none⟩ (.int .i64 p4))) := HB2.out.setCell (p := ⟨g, i * 4 + 3, none⟩) (by show V.heap.size ≤ g; have := HGB.out.2; omega) _
  clear hst HO2
  have himI : (i : Int) < (m : Int) := by omega
  have HLS : Hid (((spAll t f u).set i (x1, x2, x3, p4)).length = m) := by show _ = _; rw [List.length_set]; exact HM.out
  have HC : Hid (Calls Tryz.prog 24 #[tbV t ad, .slice (some ⟨g, 0, none⟩) m c] (w2'.setCell ⟨g, i * 4 + 3, none⟩ (.int .i64 p4)) fun e w' => e = .returned (.int .i64 (i : Int)) ∧ Below (w2'.setCell ⟨g, i * 4 + 3, none⟩ (.int .i64 p4)).heap.size (w2'.setCell ⟨g, i * 4 + 3, none⟩ (.int .i64 p4)) w') := by
    obtain ⟨A, c', e, _, hsg⟩ := HO3.out.seg
    cases e
    have := HIB.out (some ⟨g, 0, none⟩) c ((spAll t f u).set i (x1, x2, x3, p4)) _ HB3.out hsg (by have := HLS.out; omega)
    rw [HT4.out.1, HLS.out] at this
    exact this
  have HO3b : Hid (∀ X, Below (w2'.setCell ⟨g, i * 4 + 3, none⟩ (.int .i64 p4)).heap.size (w2'.setCell ⟨g, i * 4 + 3, none⟩ (.int .i64 p4)) X → Calls Tryz.prog 23 #[tbV t ad, .int .i64 f, .int .i64 u, .slice (some ⟨g, 0, none⟩) m c] X fun e w' => e = .returned (.bool false) ∧ Below X.heap.size X w') := fun X hX => by
    obtain ⟨A, c', e, _, hsg⟩ := (HO3.out.below hX).seg
    cases e
    have := HIS.out (some ⟨g, 0, none⟩) c ((spAll t f u).set i (x1, x2, x3, p4)) X (HB3.out.trans (hX.mono HB3.out.size)) hsg (by have := HLS.out; omega)
    rw [HT4.out.2, HLS.out] at this
    exact this
  clear HO3 HIS HA
  have hii : ((i : Int) != (i : Int)) = false := by simp
  go_wp2_with (first | (refine wpList_load_row rfl 33 (.tmp 3) rfl N rfl 33 (tbA t ad) (0, 0) _ (HX.out _ HB3.out) Tryz.underlying33 rfl (by kernel_rfl) ?_) | fail)
  revert HB3 HC HO3b
  generalize w2'.setCell ⟨g, i * 4 + 3, none⟩ (.int .i64 p4) = W3
  intro HB3 HC HO3b
  refine Calls.mono HC.out ?_
  rintro e w4 ⟨rfl, hb4⟩
  have HB4 : Hid (Below V.heap.size V w4) := HB3.out.trans (hb4.mono HB3.out.size)
  have HC4 : Hid _ := HO3b.out w4 hb4
  clear hb4 HC HO3b HB3 f3 c3
  go_wp2_with (first | (refine wpList_load_rowG rfl 33 (.tmp 3) rfl N rfl 33 (tbA t ad) (0, 0) _ (HX.out _ HB4.out) Tryz.underlying33 rfl (by kernel_rfl) ?_) | (refine wpList_load_row rfl 33 (.tmp 3) rfl N rfl 33 (tbA t ad) (0, 0) _ (HX.out _ HB4.out) Tryz.underlying33 rfl (by kernel_rfl) ?_) | fail)
  refine Calls.mono HC4.out ?_
  rintro e w5 ⟨rfl, hb5⟩
  have HB5 : Hid (Below V.heap.size V w5) := HB4.out.trans (hb5.mono HB4.out.size)
  clear hb5 HB4 HC4 HB2 HGB
  go_wp2_with (first | (refine wpList_load_row rfl 33 (.tmp 3) rfl N rfl 33 (tbA t ad) (0, 0) _ (HX.out _ HB5.out) Tryz.underlying33 rfl (by kernel_rfl) ?_) | fail)
  refine Calls.mono (HSS.out _ HB5.out) ?_
  rintro e w6 ⟨v6, rfl, ho6, hb6⟩
  have HB6 : Hid (Below V.heap.size V w6) := HB5.out.trans (hb6.mono HB5.out.size)
  have HO6 : Hid (OwnS w6 (w5.heap.size + 1) v6 (spAll t f u)) := ho6
  have HV5 : Hid (V.heap.size ≤ w5.heap.size) := HB5.out.size
  clear ho6 hb6 HB5
  have HF : Hid (∃ g c, v6 = .slice (some ⟨g, 0, none⟩) (spAll t f u).length c) := by
    rcases HO6.out.2 with ⟨_, q⟩ | ⟨g, c, cur, q, _⟩
    · exact absurd q (by rw [HM.out]; exact h0)
    · exact ⟨g, c, q⟩
  obtain ⟨g6, c6, rfl⟩ := HF.out
  clear HF
  have hgl6 := HO6.out.gl
  have hst := HO6.out.setj i HX1.out 2 (by omega) (.int .i64 (x3 + 1)) (x1, x2, x3 + 1, x4) (by rw [HXE.out]; rfl)
  rw [HM.out] at HO6 hst ⊢
  have f2 := hst.1
  have c2 : w6.cell? ⟨g6, i * 4 + 2, none⟩ = some (.int .i64 x3) := hst.2.1 2 _ (by rw [HXE.out]; rfl)
  have HO7 : Hid (OwnS (w6.setCell ⟨g6, i * 4 + 2, none⟩ (.int .i64 (x3 + 1))) (w5.heap.size + 1) (.slice (some ⟨g6, 0, none⟩) m c6) ((spAll t f u).set i (x1, x2, x3 + 1, x4))) := hst.2.2
  have HB7 : Hid (Below V.heap.size V (w6.setCell ⟨g6, i * 4 + 2, none⟩ (.int .i64 (x3 + 1)))) := HB6.out.setCell (p := ⟨g6, i * 4 + 2, none⟩) (by show V.heap.size ≤ g6; have := HV5.out; omega) _
  have HC : Hid (Calls Tryz.prog 24 #[tbV t ad, .slice (some ⟨g6, 0, none⟩) m c6] (w6.setCell ⟨g6, i * 4 + 2, none⟩ (.int .i64 (x3 + 1))) fun e w' => e = .returned (.int .i64 (i : Int)) ∧ Below (w6.setCell ⟨g6, i * 4 + 2, none⟩ (.int .i64 (x3 + 1))).heap.size (w6.setCell ⟨g6, i * 4 + 2, none⟩ (.int .i64 (x3 + 1))) w') := by
    have hls : ((spAll t f u).set i (x1, x2, x3 + 1, x4)).length = m := by rw [List.length_set]; exact HM.out
    obtain ⟨A, c', e, _, hsg⟩ := HO7.out.seg
    cases e
    have := HIB.out (some ⟨g6, 0, none⟩) c6 ((spAll t f u).set i (x1, x2, x3 + 1, x4)) _ HB7.out hsg (by omega)
    rw [HT3.out.1, hls] at this
    exact this
  clear hst HO6 HO7 HIB HSS hgl6
  have hie : ((i : Int) == (i : Int)) = true := by simp
  go_wp2_with (first | (refine wpList_load_row rfl 33 (.tmp 3) rfl N rfl 33 (tbA t ad) (0, 0) _ (HX.out _ HB7.out) Tryz.underlying33 rfl (by kernel_rfl) ?_) | fail)
  refine Calls.mono HC.out ?_
  rintro e w8 ⟨rfl, hb8⟩
  have HB8 : Hid (Below w.heap.size w w8) := HB1.out.trans ((HB7.out.trans (hb8.mono HB7.out.size)).mono HB1.out.size)
  clear hb8 HC
  go_wp2
  go_ret
  exact ⟨rfl, HB8.out⟩
end Go.Proofs.YtlomcdgfcocmmaaGreatDoor
