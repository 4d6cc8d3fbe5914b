
/-
  The spans of the cycles between two by the specification, cycle by cycle. Conditions: the lists lie in memory.
-/
import Derived.Test.YtphdijkpjjokaaaGreatDoorBas
import Derived.Test.YtphdijkpjjokaaaGreatDoorSpw
namespace Go.Proofs.YtphdijkpjjokaaaGreatDoor
open Go.ChangeShapes Go.WideShapes Go.ChangeAt Go.RowKit Go.Deep Go.Joins
set_option linter.unusedVariables false

theorem spL_pre {t : Tb} {f : Int} {k : Nat} : spL t f k = [] ↔ k = 0 := by
  constructor
  · intro h
    rcases Nat.eq_zero_or_pos k with g | g
    · exact g
    · rw [spL_some (by omega)] at h
      simp at h
  · rintro rfl; rfl
set_option maxRecDepth 40000 in
set_option maxHeartbeats 16000000 in
theorem spec_spans (t : Tb) (a : Ad) (f u : Int) (w : World) (hm : TM 0 w t a) (hw : TW t a) (hs : TS a) :
    Calls Tryz.prog 7 #[tbV t a, .int .i64 f, .int .i64 u] w fun e w' => ∃ v, e = .returned v ∧ OwnS w' (w.heap.size + 1) v (spAll t f u) ∧ Below w.heap.size w w' := by
  obtain ⟨q, hq⟩ := told (Sd t ∧ IsC f)
  have HB0 : Hid (Below w.heap.size w (w.alloc (.cells (tbA t a) 41))) := (Below.refl _ _).alloc (Nat.le_refl _) _
  have HX0 : Hid (TBx (w.alloc (.cells (tbA t a) 41)) w.heap.size t a) := TBx.new w t a _ rfl
  have hbE : Below (w.alloc (.cells (tbA t a) 41)).heap.size (w.alloc (.cells (tbA t a) 41)) ((w.alloc (.cells (tbA t a) 41)).alloc (.cells #[] 64)) := (Below.refl _ _).alloc (Nat.le_refl _) _
  have HBE : Hid (Below w.heap.size w ((w.alloc (.cells (tbA t a) 41)).alloc (.cells #[] 64))) := HB0.out.trans (hbE.mono HB0.out.size)
  have HXE : Hid (TBx ((w.alloc (.cells (tbA t a) 41)).alloc (.cells #[] 64)) w.heap.size t a) := HX0.out.below hbE
  have HOE : Hid (OwnS ((w.alloc (.cells (tbA t a) 41)).alloc (.cells #[] 64)) (w.heap.size + 1) (.slice (some ⟨w.heap.size + 1, 0, none⟩) 0 0) []) := OwnS.new (w.alloc (.cells (tbA t a) 41)) _ (by simp)
  have HK : Hid (Calls Tryz.prog 25 #[tbV t a, .int .i64 f] ((w.alloc (.cells (tbA t a) 41)).alloc (.cells #[] 64)) fun e w' => e = .returned (.bool q) ∧ Below ((w.alloc (.cells (tbA t a) 41)).alloc (.cells #[] 64)).heap.size ((w.alloc (.cells (tbA t a) 41)).alloc (.cells #[] 64)) w') := spec_tok t a f q ((w.alloc (.cells (tbA t a) 41)).alloc (.cells #[] 64)) (hm.below HBE.out) hw hs hq
  have HIN : Hid (∀ (x a b : Int) (X : World), Calls Tryz.prog 26 #[.int .i64 x, .int .i64 a, .int .i64 b] X fun e w' => e = .returned (.bool (inr x a b)) ∧ w' = X) := in_any
  have HWH : Hid (Sd t → ∀ c : Int, 0 ≤ c → c ≤ 50000 → ∀ X, Below w.heap.size w X → Calls Tryz.prog 27 #[tbV t a, .int .i64 c] X fun e w' => e = .returned (.tuple #[.int .i64 (phaseV t (c % t.maj)), .int .i64 (whoV t (c % t.maj))]) ∧ Below X.heap.size X w') := fun h c h1 h2 X hX => spec_who t a c X (hm.below hX) hw hs (sd_tm h) h1 (by omega)
  have HSL : Hid (Sd t → ∀ c : Int, 0 ≤ c → c ≤ 50000 → ∀ X, Below w.heap.size w X → Calls Tryz.prog 28 #[tbV t a, .int .i64 c] X fun e w' => e = .returned (.int .i64 (slotV t (c % t.maj))) ∧ Below X.heap.size X w') := fun h c h1 h2 X hX => spec_slot t a c X (hm.below hX) hw hs (sd_tm h) h1 (by omega)
  have HQ : Hid (q = true ↔ (Sd t ∧ IsC f)) := hq
  clear hm hw hs hq hbE HB0 HX0
  go_enter Tryz.func7, Tryz.ntmps7
  go_wp2_with (first | (refine wpList_load_row rfl 41 (.tmp 3) rfl w.heap.size rfl 41 (tbA t a) (0, 0) _ HXE.out Tryz.underlying41 rfl (by kernel_rfl) ?_) | fail)
  refine Calls.mono HK.out ?_
  rintro e w1 ⟨rfl, hb1⟩
  have HB1 : Hid (Below w.heap.size w w1) := HBE.out.trans (hb1.mono HBE.out.size)
  have HX1 : Hid (TBx w1 w.heap.size t a) := HXE.out.below hb1
  have HO1 : Hid (OwnS w1 (w.heap.size + 1) (.slice (some ⟨w.heap.size + 1, 0, none⟩) 0 0) []) := HOE.out.below hb1
  clear hb1 HBE HXE HK HOE
  cases q
  · have HT : Hid (spAll t f u = []) := by
      show _ = _
      unfold spAll
      rw [if_neg (fun h => by have := HQ.out.2 ⟨h.1, h.2.1⟩; cases this)]
    clear HQ HWH HSL HX1
    go_wp2_with fail
    go_ret
    rw [HT.out]
    exact ⟨_, rfl, HO1.out, HB1.out⟩
  have HT : Hid (Sd t ∧ IsC f) := HQ.out.1 rfl
  clear HQ
  have hy := HT.out.2
  unfold IsC at hy
  by_cases hz : 0 ≤ u ∧ u ≤ 50000
  rotate_left
  · have HN : Hid (spAll t f u = []) := by
      show _ = _
      unfold spAll
      rw [if_neg (fun h => hz h.2.2.1)]
    have k1 := inr_no hz
    clear HWH HSL HX1 hz hy
    go_wp2_with (first | (go_at_call 26; refine (HIN.out _ _ _ _).mono ?_; rintro u' w2 ⟨rfl, hww⟩; rw [hww, k1]; clear hww) | fail)
    go_ret
    rw [HN.out]
    exact ⟨_, rfl, HO1.out, HB1.out⟩
  have k1 := inr_yes hz
  have hwd : IntKind.i64.wrap (u - f) = u - f := by rw [IntKind.wrap_i64]; omega
  by_cases hcnt : 1 ≤ u - f ∧ u - f ≤ 5000
  rotate_left
  · have HN : Hid (spAll t f u = []) := by
      show _ = _
      unfold spAll
      rw [if_neg (fun h => hcnt h.2.2.2)]
    have k2 := inr_no hcnt
    clear HWH HSL HX1 hcnt hy hz
    go_wp2_with (first | (go_at_call 26; refine (HIN.out _ _ _ _).mono ?_; rintro u' w2 ⟨rfl, hww⟩; first | rw [hww, k1] | rw [hww, k2]; clear hww) | fail)
    go_ret
    rw [HN.out]
    exact ⟨_, rfl, HO1.out, HB1.out⟩
  have k2 := inr_yes hcnt
  have HAL : Hid (spAll t f u = spL t f (u - f).toNat) := by
    show _ = _
    unfold spAll
    rw [if_pos ⟨HT.out.1, HT.out.2, hz, hcnt.1, hcnt.2⟩]
  have HWH' : Hid _ := HWH.out HT.out.1
  have HSL' : Hid _ := HSL.out HT.out.1
  have HTM : Hid (Tm t) := sd_tm HT.out.1
  obtain ⟨ii, hii, hz0', hs0, hb0⟩ := sa_info'
  have HII : Hid (Tryz.prog.info? 64 = some ii ∧ ii.zero = some (.agg #[.int .i64 0, .int .i64 0, .int .i64 0, .int .i64 0]) ∧ ii.size = 4 ∧ ii.bytes = 32) := ⟨hii, hz0', hs0, hb0⟩
  clear HWH HSL hii hz0' hs0 hb0
  go_wp2_with (first | (go_at_call 26; refine (HIN.out _ _ _ _).mono ?_; rintro u' w2 ⟨rfl, hww⟩; first | rw [hww, k1] | rw [hww, k2]; clear hww) | fail)
  go_loopw [7, 8] (fun v i wr => ∃ (k m g cap : Nat), v = .slice (some ⟨g, 0, none⟩) m cap ∧ i = .int .i64 (f + (k : Int)) ∧ f + (k : Int) ≤ u ∧ m ≤ k ∧ Hid (OwnS wr (w.heap.size + 1) (.slice (some ⟨g, 0, none⟩) m cap) (spL t f k)) ∧ Hid (m = (spL t f k).length) ∧ Hid (Below w.heap.size w wr) ∧ Hid (TBx wr w.heap.size t a)) (fun _ i _ => (u - intOf i).toNat)
  case atStart => exact ⟨0, 0, w.heap.size + 1, 0, rfl, by simp, by omega, by omega, HO1.out, rfl, HB1.out, HX1.out⟩
  case round =>
    clear HO1 HB1 HX1 k1 k2 HIN
    obtain ⟨k, m, g, cap, rfl, rfl, hku, hmk, HOW, HML, HBW, HXW⟩ := hrel
    by_cases hlt : f + (k : Int) < u
    rotate_left
    · have HE : Hid (spAll t f u = spL t f k) := by
        have : (u - f).toNat = k := by omega
        show _ = _
        rw [HAL.out, this]
      go_wp2
      go_ret
      rw [HE.out]
      exact ⟨_, rfl, HOW.out, HBW.out⟩
    have hgl := HOW.out.gl
    have hmj := HTM.out.maj1
    have hm0 : ¬ (t.maj = 0) := by omega
    have hwc : IntKind.i64.wrap (f + (k : Int) + 1) = f + (k : Int) + 1 := by rw [IntKind.wrap_i64]; omega
    have hwc2 : IntKind.i64.wrap (f + (k : Int) - 1) = f + (k : Int) - 1 := by rw [IntKind.wrap_i64]; omega
    have hwm : IntKind.i64.wrap ((m : Int) - 1) = (m : Int) - 1 := by rw [IntKind.wrap_i64]; omega
    have hc0 : 0 ≤ f + (k : Int) := by omega
    go_wp2_with (first | (refine wpList_load_row rfl 41 (.tmp 3) rfl w.heap.size rfl 41 (tbA t a) (0, 0) _ HXW.out Tryz.underlying41 rfl (by kernel_rfl) ?_) | fail)
    refine Calls.mono (HWH'.out _ hc0 (by omega) _ HBW.out) ?_
    rintro e w2 ⟨rfl, hb2⟩
    have HB2 : Hid (Below w.heap.size w w2) := HBW.out.trans (hb2.mono HBW.out.size)
    have HX2 : Hid (TBx w2 w.heap.size t a) := HXW.out.below hb2
    have HO2 : Hid (OwnS w2 (w.heap.size + 1) (.slice (some ⟨g, 0, none⟩) m cap) (spL t f k)) := HOW.out.below hb2
    have k14 : w2.cell? ⟨w.heap.size, 14, none⟩ = some (.int .i64 t.maj) := HX2.out.cell 14 rfl
    clear hb2 HBW HXW HOW
    have HCS : Hid (∀ c : Int, 0 ≤ c → c ≤ 50000 → ∀ X : Gr w2, Calls Tryz.prog 28 #[tbV t a, .int .i64 c] X.w fun e w' => e = .returned (.int .i64 (slotV t (c % t.maj))) ∧ Below X.w.heap.size X.w w') := fun c h1 h2 X => HSL'.out c h1 h2 _ (HB2.out.trans (X.h.mono HB2.out.size))
    have HXX : Hid (∀ w', (∃ X : Gr w2, w' = X.w) → w'.heap[w.heap.size]? = some (.cells (tbA t a) 41 (0, 0))) := fun w' hX => by
      obtain ⟨X, rfl⟩ := hX
      exact HX2.out.below X.h
    obtain ⟨x4, HX4⟩ : ∃ x, Hid (phaseV t ((f + (k : Int)) % t.maj) = x) := ⟨_, rfl⟩
    obtain ⟨x3, HX3⟩ : ∃ x, Hid (whoV t ((f + (k : Int)) % t.maj) = x) := ⟨_, rfl⟩
    rw [HX4.out, HX3.out]
    by_cases hsame : k ≠ 0 ∧ Same t (f + (k : Int))
    · have HK0 := hsame.1
      have hk0 : k ≠ 0 := HK0
      have HDX : Hid (spL t f k = (spDC t f k).1 ++ [(spDC t f k).2]) := spL_some hk0
      have HPX : Hid ((spDC t f k).2.2.2.2 = phaseV t ((f + (k : Int) - 1) % t.maj)) := spDC_phase t f k hk0
      have hml : m = (spDC t f k).1.length + 1 := by have := HML.out; rw [HDX.out] at this; simpa using this
      obtain ⟨D, hD⟩ : ∃ D, (spDC t f k).1 = D := ⟨_, rfl⟩
      obtain ⟨y, hy2⟩ : ∃ y, (spDC t f k).2 = y := ⟨_, rfl⟩
      rw [hD] at hml HDX
      rw [hy2] at HDX HPX
      have HO2c : Hid (OwnS w2 (w.heap.size + 1) (.slice (some ⟨g, 0, none⟩) m cap) (spL t f k)) := HO2.out
      rw [HDX.out] at HO2c
      obtain ⟨n, hn⟩ : ∃ n, D.length = n := ⟨_, rfl⟩
      rw [hn] at hml
      subst hml
      have hs1 := HO2c.out.set1 (f + (k : Int) + 1)
      rw [hn] at hs1
      have c3 := hs1.2.2.1
      rw [HPX.out] at c3
      have hm1 : (0 : Int) < ((n + 1 : Nat) : Int) := by omega
      have hi1 : ((n + 1 : Nat) : Int) - 1 = (n : Int) := by omega
      have hi2 : (n : Int) < ((n + 1 : Nat) : Int) := by omega
      have HSM := hsame.2
      have hr0 : ¬ ((f + (k : Int)) % t.maj = 0) := HSM.1
      have hr1 : (((f + (k : Int)) % t.maj) != 0) = true := by simpa using HSM.1
      have hp1 := HSM.2.1
      rw [HX4.out] at hp1
      rw [← hp1] at c3
      have hs2 := HSM.2.2
      have HSLT : Hid (slotV t ((f + (k : Int)) % t.maj) = slotV t ((f + (k : Int) - 1) % t.maj)) := hs2
      have HNW : Hid (spL t f (k + 1) = D ++ [(y.1, f + (k : Int) + 1, y.2.2.1, y.2.2.2)]) := by
        show _ = _
        rw [spL_some (by omega), spDC_on hsame, hD, hy2]
      clear hs1 HSM hp1 hsame
      have G14 := fun X => gr_cell (W0 := w2) k14 X
      have G3 := fun X => gr_cell (W0 := w2) c3 X
      go_wp2
      have hgr := gr_some w2
      refine region_alike (by kernel_rfl) (by kernel_rfl) ?_
      repeat (first | go_big_quiet_skip | (refine wpQuiet_load_row rfl 41 (.tmp 3) rfl w.heap.size rfl 41 (tbA t a) (0, 0) _ HXX.out Tryz.underlying41 rfl (by kernel_rfl) ?_; simp only [Act.put, List.setIfInBounds_toArray, List.set_cons_zero, List.set_cons_succ]) | go_big_quiet_step (first | (go_at_call 28; exact gr_call (HCS.out _ (by omega) (by omega) _))))
      refine wpQuiet_nil ?_
      intro _ hw'
      obtain ⟨X1, rfl⟩ := hw'
      have hb3 := X1.h
      generalize X1.w = W1 at hb3 ⊢
      have HB3 : Hid (Below w.heap.size w W1) := HB2.out.trans (hb3.mono HB2.out.size)
      have HX5 : Hid (TBx W1 w.heap.size t a) := HX2.out.below hb3
      have HO3 : Hid (OwnS W1 (w.heap.size + 1) (.slice (some ⟨g, 0, none⟩) (n + 1) cap) (D ++ [y])) := HO2c.out.below hb3
      have hs3 := HO3.out.set1 (f + (k : Int) + 1)
      rw [hn] at hs3
      have f1 := hs3.1
      have c1 := hs3.2.1
      have HO4 : Hid _ := hs3.2.2.2
      have hBG : w.heap.size ≤ g := by omega
      clear hs3 hb3 G14 G3 HXX HCS k14 c3 hgr
      have HX6 : Hid (TBx (W1.setCell ⟨g, n * 4 + 1, none⟩ (.int .i64 (f + (k : Int) + 1))) w.heap.size t a) := row_other HX5.out (by omega)
      have HB6 : Hid (Below w.heap.size w (W1.setCell ⟨g, n * 4 + 1, none⟩ (.int .i64 (f + (k : Int) + 1)))) := HB3.out.setCell (p := ⟨g, n * 4 + 1, none⟩) hBG _
      clear HX5 HB3 HO3 HO2 HO2c
      go_wp2
      go_roundw
      case rel => exact ⟨k + 1, n + 1, g, cap, rfl, (by congr 1; omega), by omega, by omega, (by show OwnS _ _ _ _; rw [HNW.out]; exact HO4.out), (by show _ = _; rw [HNW.out, List.length_append, hn]; rfl), HB6.out, HX6.out⟩
      case measure => simp [intOf]; omega
    by_cases hk : k = 0
    · have hm00 : m = 0 := by have := HML.out; rw [hk] at this; exact this
      subst hm00
      have hgx : decide ((0 : Int) < ((0 : Nat) : Int)) = false := by decide
      have hgy : decide ((0 : Int) < 0) = false := by decide
      clear hk
      go_wp2
      have hgr := gr_some w2
      refine region_alike (by kernel_rfl) (by kernel_rfl) ?_
      repeat (first | go_big_quiet_skip | (refine wpQuiet_load_row rfl 41 (.tmp 3) rfl w.heap.size rfl 41 (tbA t a) (0, 0) _ HXX.out Tryz.underlying41 rfl (by kernel_rfl) ?_; simp only [Act.put, List.setIfInBounds_toArray, List.set_cons_zero, List.set_cons_succ]) | go_big_quiet_step (first | (go_at_call 28; exact gr_call (HCS.out _ (by omega) (by omega) _))))
      refine wpQuiet_nil ?_
      intro _ hw'
      obtain ⟨X1, rfl⟩ := hw'
      have hb3 := X1.h
      generalize X1.w = W1 at hb3 ⊢
      have HB3 : Hid (Below w.heap.size w W1) := HB2.out.trans (hb3.mono HB2.out.size)
      have HX5 : Hid (TBx W1 w.heap.size t a) := HX2.out.below hb3
      have HO3 : Hid (OwnS W1 (w.heap.size + 1) (.slice (some ⟨g, 0, none⟩) 0 cap) (spL t f k)) := HO2.out.below hb3
      have HNW : Hid (spL t f (k + 1) = spL t f k ++ [(f + (k : Int), f + (k : Int) + 1, x3, x4)]) := by
        show _ = _
        rw [spL_new hsame, HX3.out, HX4.out]
      have HLN : Hid (0 = (spL t f k).length) := HML.out
      have hown : (W1.alloc (.cells #[.int .i64 (f + (k : Int)), .int .i64 (f + (k : Int) + 1), .int .i64 x3, .int .i64 x4] 64)).ownsRow (w.heap.size + 1) 64 4 (.slice (some ⟨g, 0, none⟩) 0 cap) 0 (scells (spL t f k)) := by
        have := HO3.out.below ((Below.refl W1.heap.size W1).alloc (Nat.le_refl _) (.cells #[.int .i64 (f + (k : Int)), .int .i64 (f + (k : Int) + 1), .int .i64 x3, .int .i64 x4] 64))
        unfold OwnS at this
        rw [← HLN.out] at this
        exact this
      have HZk : Hid (∀ (gg cap1 : Nat) (w9 : World), w9.ownsRow (w.heap.size + 1) 64 4 (.slice (some ⟨gg, 0, none⟩) (0 + 1) cap1) (0 + 1) (scells (spL t f k) ++ [.int .i64 (f + (k : Int)), .int .i64 (f + (k : Int) + 1), .int .i64 x3, .int .i64 x4]) → (W1.alloc (.cells #[.int .i64 (f + (k : Int)), .int .i64 (f + (k : Int) + 1), .int .i64 x3, .int .i64 x4] 64)).grownBy w9 (Value.slice (some ⟨g, 0, none⟩) 0 cap).ownBlock → OwnS w9 (w.heap.size + 1) (.slice (some ⟨gg, 0, none⟩) (0 + 1) cap1) (spL t f (k + 1)) ∧ 0 + 1 = (spL t f (k + 1)).length ∧ Below w.heap.size w w9 ∧ TBx w9 w.heap.size t a) := fun gg cap1 w9 h1 h2 => by
        have hal : Below W1.heap.size W1 (W1.alloc (.cells #[.int .i64 (f + (k : Int)), .int .i64 (f + (k : Int) + 1), .int .i64 x3, .int .i64 x4] 64)) := (Below.refl _ _).alloc (Nat.le_refl _) _
        have hlen : (spL t f (k + 1)).length = 0 + 1 := by rw [HNW.out, List.length_append, ← HLN.out]; rfl
        refine ⟨?_, hlen.symm, ?_, ?_⟩
        · unfold OwnS
          rw [hlen, HNW.out, scells_app, scells_sing]
          exact h1
        · have hb9 := HB3.out.trans (hal.mono HB3.out.size)
          exact Below.grown hb9 h2 hb9.size (fun q e => by simp [Value.ownBlock] at e; omega)
        · exact (h2.block _ (Nat.lt_of_lt_of_le HX5.out.lt hal.size) (by simp [Value.ownBlock]; omega)).trans (HX5.out.below hal)
      have hlow : w.heap.size + 1 ≤ W1.heap.size := by have := HO3.out.gl; omega
      clear hb3 HXX HCS HB3 HX5 HO2 HB2 HX2 HLN HNW hsame
      go_wp2_with (first | (at_builtin; (refine wpList_append_lies _ rfl (.tmp 82) (.tmp 89) 33 rfl (w.heap.size + 1) 64 ii (.agg #[.int .i64 0, .int .i64 0, .int .i64 0, .int .i64 0]) 4 32 Tryz.underlying33 HII.out.1 HII.out.2.1 HII.out.2.2.1 HII.out.2.2.2 rfl (by omega) _ _ _ rfl hown _ 1 1 [.int .i64 (f + (k : Int)), .int .i64 (f + (k : Int) + 1), .int .i64 x3, .int .i64 x4] rfl rfl (sa_new _ (f + (k : Int), f + (k : Int) + 1, x3, x4) _ (by simp)) (sa_one _ _ _ _) (by omega) (by unfold maxLen; omega) (by omega) (by simp; omega) _ rfl ?_; intro gg cap1 w9 hown1 hgrow hat hlt1; have HY : Hid _ := HZk.out gg cap1 w9 hown1 hgrow; clear hown1 hgrow hat hlt1)) | fail)
      go_roundw
      case rel => exact ⟨k + 1, 0 + 1, gg, cap1, rfl, (by congr 1; omega), by omega, by omega, HY.out.1, HY.out.2.1, HY.out.2.2.1, HY.out.2.2.2⟩
      case measure => simp [intOf]; omega
    by_cases hr : (f + (k : Int)) % t.maj = 0
    · have HK0 := hk
      have hk0 : k ≠ 0 := HK0
      have HDX : Hid (spL t f k = (spDC t f k).1 ++ [(spDC t f k).2]) := spL_some hk0
      have HPX : Hid ((spDC t f k).2.2.2.2 = phaseV t ((f + (k : Int) - 1) % t.maj)) := spDC_phase t f k hk0
      have hml : m = (spDC t f k).1.length + 1 := by have := HML.out; rw [HDX.out] at this; simpa using this
      obtain ⟨D, hD⟩ : ∃ D, (spDC t f k).1 = D := ⟨_, rfl⟩
      obtain ⟨y, hy2⟩ : ∃ y, (spDC t f k).2 = y := ⟨_, rfl⟩
      rw [hD] at hml HDX
      rw [hy2] at HDX HPX
      have HO2c : Hid (OwnS w2 (w.heap.size + 1) (.slice (some ⟨g, 0, none⟩) m cap) (spL t f k)) := HO2.out
      rw [HDX.out] at HO2c
      obtain ⟨n, hn⟩ : ∃ n, D.length = n := ⟨_, rfl⟩
      rw [hn] at hml
      subst hml
      have hs1 := HO2c.out.set1 (f + (k : Int) + 1)
      rw [hn] at hs1
      have c3 := hs1.2.2.1
      rw [HPX.out] at c3
      have hm1 : (0 : Int) < ((n + 1 : Nat) : Int) := by omega
      have hi1 : ((n + 1 : Nat) : Int) - 1 = (n : Int) := by omega
      have hi2 : (n : Int) < ((n + 1 : Nat) : Int) := by omega
      have hr1 : (((f + (k : Int)) % t.maj) != 0) = false := by rw [hr]; rfl
      clear hs1 c3
      have G14 := fun X => gr_cell (W0 := w2) k14 X
      go_wp2
      have hgr := gr_some w2
      refine region_alike (by kernel_rfl) (by kernel_rfl) ?_
      repeat (first | go_big_quiet_skip | (refine wpQuiet_load_row rfl 41 (.tmp 3) rfl w.heap.size rfl 41 (tbA t a) (0, 0) _ HXX.out Tryz.underlying41 rfl (by kernel_rfl) ?_; simp only [Act.put, List.setIfInBounds_toArray, List.set_cons_zero, List.set_cons_succ]) | go_big_quiet_step (first | (go_at_call 28; exact gr_call (HCS.out _ (by omega) (by omega) _))))
      refine wpQuiet_nil ?_
      intro _ hw'
      obtain ⟨X1, rfl⟩ := hw'
      have hb3 := X1.h
      generalize X1.w = W1 at hb3 ⊢
      have HB3 : Hid (Below w.heap.size w W1) := HB2.out.trans (hb3.mono HB2.out.size)
      have HX5 : Hid (TBx W1 w.heap.size t a) := HX2.out.below hb3
      have HO3 : Hid (OwnS W1 (w.heap.size + 1) (.slice (some ⟨g, 0, none⟩) (n + 1) cap) (spL t f k)) := HO2.out.below hb3
      have HNW : Hid (spL t f (k + 1) = spL t f k ++ [(f + (k : Int), f + (k : Int) + 1, x3, x4)]) := by
        show _ = _
        rw [spL_new hsame, HX3.out, HX4.out]
      have HLN : Hid ((n + 1) = (spL t f k).length) := HML.out
      have hown : (W1.alloc (.cells #[.int .i64 (f + (k : Int)), .int .i64 (f + (k : Int) + 1), .int .i64 x3, .int .i64 x4] 64)).ownsRow (w.heap.size + 1) 64 4 (.slice (some ⟨g, 0, none⟩) (n + 1) cap) (n + 1) (scells (spL t f k)) := by
        have := HO3.out.below ((Below.refl W1.heap.size W1).alloc (Nat.le_refl _) (.cells #[.int .i64 (f + (k : Int)), .int .i64 (f + (k : Int) + 1), .int .i64 x3, .int .i64 x4] 64))
        unfold OwnS at this
        rw [← HLN.out] at this
        exact this
      have HZk : Hid (∀ (gg cap1 : Nat) (w9 : World), w9.ownsRow (w.heap.size + 1) 64 4 (.slice (some ⟨gg, 0, none⟩) ((n + 1) + 1) cap1) ((n + 1) + 1) (scells (spL t f k) ++ [.int .i64 (f + (k : Int)), .int .i64 (f + (k : Int) + 1), .int .i64 x3, .int .i64 x4]) → (W1.alloc (.cells #[.int .i64 (f + (k : Int)), .int .i64 (f + (k : Int) + 1), .int .i64 x3, .int .i64 x4] 64)).grownBy w9 (Value.slice (some ⟨g, 0, none⟩) (n + 1) cap).ownBlock → OwnS w9 (w.heap.size + 1) (.slice (some ⟨gg, 0, none⟩) ((n + 1) + 1) cap1) (spL t f (k + 1)) ∧ (n + 1) + 1 = (spL t f (k + 1)).length ∧ Below w.heap.size w w9 ∧ TBx w9 w.heap.size t a) := fun gg cap1 w9 h1 h2 => by
        have hal : Below W1.heap.size W1 (W1.alloc (.cells #[.int .i64 (f + (k : Int)), .int .i64 (f + (k : Int) + 1), .int .i64 x3, .int .i64 x4] 64)) := (Below.refl _ _).alloc (Nat.le_refl _) _
        have hlen : (spL t f (k + 1)).length = (n + 1) + 1 := by rw [HNW.out, List.length_append, ← HLN.out]; rfl
        refine ⟨?_, hlen.symm, ?_, ?_⟩
        · unfold OwnS
          rw [hlen, HNW.out, scells_app, scells_sing]
          exact h1
        · have hb9 := HB3.out.trans (hal.mono HB3.out.size)
          exact Below.grown hb9 h2 hb9.size (fun q e => by simp [Value.ownBlock] at e; omega)
        · exact (h2.block _ (Nat.lt_of_lt_of_le HX5.out.lt hal.size) (by simp [Value.ownBlock]; omega)).trans (HX5.out.below hal)
      have hlow : w.heap.size + 1 ≤ W1.heap.size := by have := HO3.out.gl; omega
      clear hb3 HXX HCS HB3 HX5 HO2 HB2 HX2 HLN HNW hsame
      go_wp2_with (first | (at_builtin; (refine wpList_append_lies _ rfl (.tmp 82) (.tmp 89) 33 rfl (w.heap.size + 1) 64 ii (.agg #[.int .i64 0, .int .i64 0, .int .i64 0, .int .i64 0]) 4 32 Tryz.underlying33 HII.out.1 HII.out.2.1 HII.out.2.2.1 HII.out.2.2.2 rfl (by omega) _ _ _ rfl hown _ 1 1 [.int .i64 (f + (k : Int)), .int .i64 (f + (k : Int) + 1), .int .i64 x3, .int .i64 x4] rfl rfl (sa_new _ (f + (k : Int), f + (k : Int) + 1, x3, x4) _ (by simp)) (sa_one _ _ _ _) (by omega) (by unfold maxLen; omega) (by omega) (by simp; omega) _ rfl ?_; intro gg cap1 w9 hown1 hgrow hat hlt1; have HY : Hid _ := HZk.out gg cap1 w9 hown1 hgrow; clear hown1 hgrow hat hlt1)) | fail)
      go_roundw
      case rel => exact ⟨k + 1, (n + 1) + 1, gg, cap1, rfl, (by congr 1; omega), by omega, by omega, HY.out.1, HY.out.2.1, HY.out.2.2.1, HY.out.2.2.2⟩
      case measure => simp [intOf]; omega
    by_cases hp : phaseV t ((f + (k : Int)) % t.maj) = phaseV t ((f + (k : Int) - 1) % t.maj)
    rotate_left
    · have HK0 := hk
      have hk0 : k ≠ 0 := HK0
      have HDX : Hid (spL t f k = (spDC t f k).1 ++ [(spDC t f k).2]) := spL_some hk0
      have HPX : Hid ((spDC t f k).2.2.2.2 = phaseV t ((f + (k : Int) - 1) % t.maj)) := spDC_phase t f k hk0
      have hml : m = (spDC t f k).1.length + 1 := by have := HML.out; rw [HDX.out] at this; simpa using this
      obtain ⟨D, hD⟩ : ∃ D, (spDC t f k).1 = D := ⟨_, rfl⟩
      obtain ⟨y, hy2⟩ : ∃ y, (spDC t f k).2 = y := ⟨_, rfl⟩
      rw [hD] at hml HDX
      rw [hy2] at HDX HPX
      have HO2c : Hid (OwnS w2 (w.heap.size + 1) (.slice (some ⟨g, 0, none⟩) m cap) (spL t f k)) := HO2.out
      rw [HDX.out] at HO2c
      obtain ⟨n, hn⟩ : ∃ n, D.length = n := ⟨_, rfl⟩
      rw [hn] at hml
      subst hml
      have hs1 := HO2c.out.set1 (f + (k : Int) + 1)
      rw [hn] at hs1
      have c3 := hs1.2.2.1
      rw [HPX.out] at c3
      have hm1 : (0 : Int) < ((n + 1 : Nat) : Int) := by omega
      have hi1 : ((n + 1 : Nat) : Int) - 1 = (n : Int) := by omega
      have hi2 : (n : Int) < ((n + 1 : Nat) : Int) := by omega
      have hr0 : ¬ ((f + (k : Int)) % t.maj = 0) := hr
      have hr1 : (((f + (k : Int)) % t.maj) != 0) = true := by simpa using hr
      obtain ⟨z4, hz4⟩ : ∃ z, phaseV t ((f + (k : Int) - 1) % t.maj) = z := ⟨_, rfl⟩
      rw [hz4] at c3 hp
      have hp2 : (z4 == x4) = false := by simpa using fun e => hp (by rw [HX4.out]; exact e.symm)
      clear hs1
      have G14 := fun X => gr_cell (W0 := w2) k14 X
      have G3 := fun X => gr_cell (W0 := w2) c3 X
      go_wp2
      have hgr := gr_some w2
      refine region_alike (by kernel_rfl) (by kernel_rfl) ?_
      repeat (first | go_big_quiet_skip | (refine wpQuiet_load_row rfl 41 (.tmp 3) rfl w.heap.size rfl 41 (tbA t a) (0, 0) _ HXX.out Tryz.underlying41 rfl (by kernel_rfl) ?_; simp only [Act.put, List.setIfInBounds_toArray, List.set_cons_zero, List.set_cons_succ]) | go_big_quiet_step (first | (go_at_call 28; exact gr_call (HCS.out _ (by omega) (by omega) _))))
      refine wpQuiet_nil ?_
      intro _ hw'
      obtain ⟨X1, rfl⟩ := hw'
      have hb3 := X1.h
      generalize X1.w = W1 at hb3 ⊢
      have HB3 : Hid (Below w.heap.size w W1) := HB2.out.trans (hb3.mono HB2.out.size)
      have HX5 : Hid (TBx W1 w.heap.size t a) := HX2.out.below hb3
      have HO3 : Hid (OwnS W1 (w.heap.size + 1) (.slice (some ⟨g, 0, none⟩) (n + 1) cap) (spL t f k)) := HO2.out.below hb3
      have HNW : Hid (spL t f (k + 1) = spL t f k ++ [(f + (k : Int), f + (k : Int) + 1, x3, x4)]) := by
        show _ = _
        rw [spL_new hsame, HX3.out, HX4.out]
      have HLN : Hid ((n + 1) = (spL t f k).length) := HML.out
      have hown : (W1.alloc (.cells #[.int .i64 (f + (k : Int)), .int .i64 (f + (k : Int) + 1), .int .i64 x3, .int .i64 x4] 64)).ownsRow (w.heap.size + 1) 64 4 (.slice (some ⟨g, 0, none⟩) (n + 1) cap) (n + 1) (scells (spL t f k)) := by
        have := HO3.out.below ((Below.refl W1.heap.size W1).alloc (Nat.le_refl _) (.cells #[.int .i64 (f + (k : Int)), .int .i64 (f + (k : Int) + 1), .int .i64 x3, .int .i64 x4] 64))
        unfold OwnS at this
        rw [← HLN.out] at this
        exact this
      have HZk : Hid (∀ (gg cap1 : Nat) (w9 : World), w9.ownsRow (w.heap.size + 1) 64 4 (.slice (some ⟨gg, 0, none⟩) ((n + 1) + 1) cap1) ((n + 1) + 1) (scells (spL t f k) ++ [.int .i64 (f + (k : Int)), .int .i64 (f + (k : Int) + 1), .int .i64 x3, .int .i64 x4]) → (W1.alloc (.cells #[.int .i64 (f + (k : Int)), .int .i64 (f + (k : Int) + 1), .int .i64 x3, .int .i64 x4] 64)).grownBy w9 (Value.slice (some ⟨g, 0, none⟩) (n + 1) cap).ownBlock → OwnS w9 (w.heap.size + 1) (.slice (some ⟨gg, 0, none⟩) ((n + 1) + 1) cap1) (spL t f (k + 1)) ∧ (n + 1) + 1 = (spL t f (k + 1)).length ∧ Below w.heap.size w w9 ∧ TBx w9 w.heap.size t a) := fun gg cap1 w9 h1 h2 => by
        have hal : Below W1.heap.size W1 (W1.alloc (.cells #[.int .i64 (f + (k : Int)), .int .i64 (f + (k : Int) + 1), .int .i64 x3, .int .i64 x4] 64)) := (Below.refl _ _).alloc (Nat.le_refl _) _
        have hlen : (spL t f (k + 1)).length = (n + 1) + 1 := by rw [HNW.out, List.length_append, ← HLN.out]; rfl
        refine ⟨?_, hlen.symm, ?_, ?_⟩
        · unfold OwnS
          rw [hlen, HNW.out, scells_app, scells_sing]
          exact h1
        · have hb9 := HB3.out.trans (hal.mono HB3.out.size)
          exact Below.grown hb9 h2 hb9.size (fun q e => by simp [Value.ownBlock] at e; omega)
        · exact (h2.block _ (Nat.lt_of_lt_of_le HX5.out.lt hal.size) (by simp [Value.ownBlock]; omega)).trans (HX5.out.below hal)
      have hlow : w.heap.size + 1 ≤ W1.heap.size := by have := HO3.out.gl; omega
      clear hb3 HXX HCS HB3 HX5 HO2 HB2 HX2 HLN HNW hsame
      go_wp2_with (first | (at_builtin; (refine wpList_append_lies _ rfl (.tmp 82) (.tmp 89) 33 rfl (w.heap.size + 1) 64 ii (.agg #[.int .i64 0, .int .i64 0, .int .i64 0, .int .i64 0]) 4 32 Tryz.underlying33 HII.out.1 HII.out.2.1 HII.out.2.2.1 HII.out.2.2.2 rfl (by omega) _ _ _ rfl hown _ 1 1 [.int .i64 (f + (k : Int)), .int .i64 (f + (k : Int) + 1), .int .i64 x3, .int .i64 x4] rfl rfl (sa_new _ (f + (k : Int), f + (k : Int) + 1, x3, x4) _ (by simp)) (sa_one _ _ _ _) (by omega) (by unfold maxLen; omega) (by omega) (by simp; omega) _ rfl ?_; intro gg cap1 w9 hown1 hgrow hat hlt1; have HY : Hid _ := HZk.out gg cap1 w9 hown1 hgrow; clear hown1 hgrow hat hlt1)) | fail)
      go_roundw
      case rel => exact ⟨k + 1, (n + 1) + 1, gg, cap1, rfl, (by congr 1; omega), by omega, by omega, HY.out.1, HY.out.2.1, HY.out.2.2.1, HY.out.2.2.2⟩
      case measure => simp [intOf]; omega
    have hq : ¬ (slotV t ((f + (k : Int)) % t.maj) = slotV t ((f + (k : Int) - 1) % t.maj)) := fun e => hsame ⟨hk, hr, hp, e⟩
    have HK0 := hk
    have hk0 : k ≠ 0 := HK0
    have HDX : Hid (spL t f k = (spDC t f k).1 ++ [(spDC t f k).2]) := spL_some hk0
    have HPX : Hid ((spDC t f k).2.2.2.2 = phaseV t ((f + (k : Int) - 1) % t.maj)) := spDC_phase t f k hk0
    have hml : m = (spDC t f k).1.length + 1 := by have := HML.out; rw [HDX.out] at this; simpa using this
    obtain ⟨D, hD⟩ : ∃ D, (spDC t f k).1 = D := ⟨_, rfl⟩
    obtain ⟨y, hy2⟩ : ∃ y, (spDC t f k).2 = y := ⟨_, rfl⟩
    rw [hD] at hml HDX
    rw [hy2] at HDX HPX
    have HO2c : Hid (OwnS w2 (w.heap.size + 1) (.slice (some ⟨g, 0, none⟩) m cap) (spL t f k)) := HO2.out
    rw [HDX.out] at HO2c
    obtain ⟨n, hn⟩ : ∃ n, D.length = n := ⟨_, rfl⟩
    rw [hn] at hml
    subst hml
    have hs1 := HO2c.out.set1 (f + (k : Int) + 1)
    rw [hn] at hs1
    have c3 := hs1.2.2.1
    rw [HPX.out] at c3
    have hm1 : (0 : Int) < ((n + 1 : Nat) : Int) := by omega
    have hi1 : ((n + 1 : Nat) : Int) - 1 = (n : Int) := by omega
    have hi2 : (n : Int) < ((n + 1 : Nat) : Int) := by omega
    have hr0 : ¬ ((f + (k : Int)) % t.maj = 0) := hr
    have hr1 : (((f + (k : Int)) % t.maj) != 0) = true := by simpa using hr
    have hp2 := hp
    rw [HX4.out] at hp2
    rw [← hp2] at c3
    clear hp hp2
    have hq2 : (slotV t ((f + (k : Int)) % t.maj) == slotV t ((f + (k : Int) - 1) % t.maj)) = false := by simpa using hq
    clear hs1
    have G14 := fun X => gr_cell (W0 := w2) k14 X
    have G3 := fun X => gr_cell (W0 := w2) c3 X
    go_wp2
    have hgr := gr_some w2
    refine region_alike (by kernel_rfl) (by kernel_rfl) ?_
    repeat (first | go_big_quiet_skip | (refine wpQuiet_load_row rfl 41 (.tmp 3) rfl w.heap.size rfl 41 (tbA t a) (0, 0) _ HXX.out Tryz.underlying41 rfl (by kernel_rfl) ?_; simp only [Act.put, List.setIfInBounds_toArray, List.set_cons_zero, List.set_cons_succ]) | go_big_quiet_step (first | (go_at_call 28; exact gr_call (HCS.out _ (by omega) (by omega) _))))
    refine wpQuiet_nil ?_
    intro _ hw'
    obtain ⟨X1, rfl⟩ := hw'
    have hb3 := X1.h
    generalize X1.w = W1 at hb3 ⊢
    have HB3 : Hid (Below w.heap.size w W1) := HB2.out.trans (hb3.mono HB2.out.size)
    have HX5 : Hid (TBx W1 w.heap.size t a) := HX2.out.below hb3
    have HO3 : Hid (OwnS W1 (w.heap.size + 1) (.slice (some ⟨g, 0, none⟩) (n + 1) cap) (spL t f k)) := HO2.out.below hb3
    have HNW : Hid (spL t f (k + 1) = spL t f k ++ [(f + (k : Int), f + (k : Int) + 1, x3, x4)]) := by
      show _ = _
      rw [spL_new hsame, HX3.out, HX4.out]
    have HLN : Hid ((n + 1) = (spL t f k).length) := HML.out
    have hown : (W1.alloc (.cells #[.int .i64 (f + (k : Int)), .int .i64 (f + (k : Int) + 1), .int .i64 x3, .int .i64 x4] 64)).ownsRow (w.heap.size + 1) 64 4 (.slice (some ⟨g, 0, none⟩) (n + 1) cap) (n + 1) (scells (spL t f k)) := by
      have := HO3.out.below ((Below.refl W1.heap.size W1).alloc (Nat.le_refl _) (.cells #[.int .i64 (f + (k : Int)), .int .i64 (f + (k : Int) + 1), .int .i64 x3, .int .i64 x4] 64))
      unfold OwnS at this
      rw [← HLN.out] at this
      exact this
    have HZk : Hid (∀ (gg cap1 : Nat) (w9 : World), w9.ownsRow (w.heap.size + 1) 64 4 (.slice (some ⟨gg, 0, none⟩) ((n + 1) + 1) cap1) ((n + 1) + 1) (scells (spL t f k) ++ [.int .i64 (f + (k : Int)), .int .i64 (f + (k : Int) + 1), .int .i64 x3, .int .i64 x4]) → (W1.alloc (.cells #[.int .i64 (f + (k : Int)), .int .i64 (f + (k : Int) + 1), .int .i64 x3, .int .i64 x4] 64)).grownBy w9 (Value.slice (some ⟨g, 0, none⟩) (n + 1) cap).ownBlock → OwnS w9 (w.heap.size + 1) (.slice (some ⟨gg, 0, none⟩) ((n + 1) + 1) cap1) (spL t f (k + 1)) ∧ (n + 1) + 1 = (spL t f (k + 1)).length ∧ Below w.heap.size w w9 ∧ TBx w9 w.heap.size t a) := fun gg cap1 w9 h1 h2 => by
      have hal : Below W1.heap.size W1 (W1.alloc (.cells #[.int .i64 (f + (k : Int)), .int .i64 (f + (k : Int) + 1), .int .i64 x3, .int .i64 x4] 64)) := (Below.refl _ _).alloc (Nat.le_refl _) _
      have hlen : (spL t f (k + 1)).length = (n + 1) + 1 := by rw [HNW.out, List.length_append, ← HLN.out]; rfl
      refine ⟨?_, hlen.symm, ?_, ?_⟩
      · unfold OwnS
        rw [hlen, HNW.out, scells_app, scells_sing]
        exact h1
      · have hb9 := HB3.out.trans (hal.mono HB3.out.size)
        exact Below.grown hb9 h2 hb9.size (fun q e => by simp [Value.ownBlock] at e; omega)
      · exact (h2.block _ (Nat.lt_of_lt_of_le HX5.out.lt hal.size) (by simp [Value.ownBlock]; omega)).trans (HX5.out.below hal)
    have hlow : w.heap.size + 1 ≤ W1.heap.size := by have := HO3.out.gl; omega
    clear hb3 HXX HCS HB3 HX5 HO2 HB2 HX2 HLN HNW hsame
    go_wp2_with (first | (at_builtin; (refine wpList_append_lies _ rfl (.tmp 82) (.tmp 89) 33 rfl (w.heap.size + 1) 64 ii (.agg #[.int .i64 0, .int .i64 0, .int .i64 0, .int .i64 0]) 4 32 Tryz.underlying33 HII.out.1 HII.out.2.1 HII.out.2.2.1 HII.out.2.2.2 rfl (by omega) _ _ _ rfl hown _ 1 1 [.int .i64 (f + (k : Int)), .int .i64 (f + (k : Int) + 1), .int .i64 x3, .int .i64 x4] rfl rfl (sa_new _ (f + (k : Int), f + (k : Int) + 1, x3, x4) _ (by simp)) (sa_one _ _ _ _) (by omega) (by unfold maxLen; omega) (by omega) (by simp; omega) _ rfl ?_; intro gg cap1 w9 hown1 hgrow hat hlt1; have HY : Hid _ := HZk.out gg cap1 w9 hown1 hgrow; clear hown1 hgrow hat hlt1)) | fail)
    go_roundw
    case rel => exact ⟨k + 1, (n + 1) + 1, gg, cap1, rfl, (by congr 1; omega), by omega, by omega, HY.out.1, HY.out.2.1, HY.out.2.2.1, HY.out.2.2.2⟩
    case measure => simp [intOf]; omega

end Go.Proofs.YtphdijkpjjokaaaGreatDoor
