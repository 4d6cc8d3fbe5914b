
/-
  The first cycles of a partition's slots: both sides. Conditions: the lists lie in memory; the program's table of extras holds what the program's text lays.
-/
import Derived.Test.YtoalamgongaaeaaGreatDoorBas
import Derived.Test.YtoalamgongaaeaaGreatDoorTiv
import Derived.Test.YtoalamgongaaeaaGreatDoorTit
namespace Go.Proofs.YtoalamgongaaeaaGreatDoor
open Go.ChangeShapes Go.WideShapes Go.ChangeAt Go.RowKit Go.Deep Go.Joins
set_option linter.unusedVariables false

set_option maxRecDepth 40000 in
set_option maxHeartbeats 4000000 in
theorem spec_starts (t : Tb) (a : Ad) (x y z : Int) (zs : List Int) (w : World) (hm : TM 0 w t a) (hw : TW t a) (hs : TS a) (hzs : startsV t x y z zs) :
    Calls Tryz.prog 39 #[tbV t a, .int .i64 x, .int .i64 y, .int .i64 z] w (LPostI w zs) := by
  obtain ⟨q1, hq1⟩ := told (Sd t ∧ IsC y)
  obtain ⟨q2, hq2⟩ := told (Sd t ∧ IsC z)
  have hpl : t.ps.length = a.pn := hw.pl
  have hpn : a.pn ≤ 1048576 := hs.p
  have HB0 : Hid (Below w.heap.size w (w.alloc (.cells (tbA t a) 40))) := (Below.refl _ _).alloc (Nat.le_refl _) _
  have HX0 : Hid (TBx (w.alloc (.cells (tbA t a) 40)) w.heap.size t a) := TBx.new w t a _ rfl
  have hbE : Below (w.alloc (.cells (tbA t a) 40)).heap.size (w.alloc (.cells (tbA t a) 40)) ((w.alloc (.cells (tbA t a) 40)).alloc (.cells #[] 3)) := (Below.refl _ _).alloc (Nat.le_refl _) _
  have HBE : Hid (Below w.heap.size w ((w.alloc (.cells (tbA t a) 40)).alloc (.cells #[] 3))) := HB0.out.trans (hbE.mono HB0.out.size)
  have HXE : Hid (TBx ((w.alloc (.cells (tbA t a) 40)).alloc (.cells #[] 3)) w.heap.size t a) := HX0.out.below hbE
  have HOE : Hid (OwnI ((w.alloc (.cells (tbA t a) 40)).alloc (.cells #[] 3)) (w.heap.size + 1) (.slice (some ⟨w.heap.size + 1, 0, none⟩) 0 0) []) := OwnI.new (w.alloc (.cells (tbA t a) 40)) _ (by simp)
  have HZS : Hid (startsV t x y z zs) := hzs
  have HK1 : Hid (∀ X, Below w.heap.size w X → Calls Tryz.prog 73 #[tbV t a, .int .i64 y] X fun e w' => e = .returned (.bool q1) ∧ Below X.heap.size X w') := fun X hX => spec_tok t a y q1 X (hm.below hX) hw hs hq1
  have HK2 : Hid (∀ X, Below w.heap.size w X → Calls Tryz.prog 73 #[tbV t a, .int .i64 z] X fun e w' => e = .returned (.bool q2) ∧ Below X.heap.size X w') := fun X hX => spec_tok t a z q2 X (hm.below hX) hw hs hq2
  obtain ⟨q3, HQ3⟩ : ∃ b, Hid (inr x 0 ((a.pn : Int) - 1) = b) := ⟨_, rfl⟩
  have HK3 : Hid (∀ X, Calls Tryz.prog 84 #[.int .i64 x, .int .i64 0, .int .i64 ((a.pn : Int) - 1)] X fun e w' => e = .returned (.bool q3) ∧ w' = X) := fun X => by rw [← HQ3.out]; exact in_any _ _ _ X
  have HBG : Hid (Sd t → ∀ d : Int, 0 ≤ d → d ≤ 1000000 → ∀ X, Below w.heap.size w X → Calls Tryz.prog 82 #[tbV t a, .int .i64 d] X fun e w' => e = .returned (.int .i64 (firV t (d % t.maj))) ∧ Below X.heap.size X w') := fun h d h1 h2 X hX => spec_first t a d X (hm.below hX) hw hs (sd_tm h) h1 h2
  have HN : Hid (q1 = false ∨ q2 = false ∨ q3 = false → zs = []) := fun h => by
    rcases hzs with ⟨_, g⟩ | ⟨g, _⟩
    · exact g
    · exfalso
      rcases h with h | h | h
      · rw [hq1.2 g.1] at h; cases h
      · rw [hq2.2 ⟨g.1.1, g.2.1⟩] at h; cases h
      · rw [← HQ3.out, inr_yes ⟨g.2.2.1, by have := g.2.2.2; omega⟩] at h; cases h
  have HY : Hid (q1 = true → q2 = true → q3 = true → (Sd t ∧ IsC y) ∧ IsC z ∧ 0 ≤ x ∧ x < (t.ps.length : Int)) := fun h1 h2 h3 => ⟨hq1.1 h1, (hq2.1 h2).2, by
    have := of_inr (HQ3.out.trans h3)
    omega⟩
  have hw0 : IntKind.i64.wrap ((a.pn : Int) - 1) = (a.pn : Int) - 1 := by rw [IntKind.wrap_i64]; omega
  clear hm hw hs hq1 hq2 HQ3 hbE hzs
  go_enter Tryz.func39, Tryz.ntmps39
  go_wp2_with (first | (refine wpList_load_row rfl 40 (.tmp 4) rfl w.heap.size rfl 40 (tbA t a) (0, 0) _ HXE.out Tryz.underlying40 rfl (by kernel_rfl) ?_) | fail)
  refine Calls.mono (HK1.out _ HBE.out) ?_
  rintro e w1 ⟨rfl, hb1⟩
  have HB1 : Hid (Below w.heap.size w w1) := HBE.out.trans (hb1.mono HBE.out.size)
  have HX1 : Hid (TBx w1 w.heap.size t a) := HXE.out.below hb1
  have HO1 : Hid (OwnI w1 (w.heap.size + 1) (.slice (some ⟨w.heap.size + 1, 0, none⟩) 0 0) []) := HOE.out.below hb1
  clear hb1 HB0 HX0 HK1 HBE HXE HOE
  cases q1
  · have HT : Hid (zs = []) := HN.out (.inl (by first | rfl | trivial))
    clear HN HY HK2 HK3 HBG HX1
    go_wp2
    go_ret
    obtain ⟨a', cap', e1, h4⟩ := HO1.out.oi
    cases e1
    rw [HT.out]
    exact ⟨_, _, rfl, HB1.out, h4.wide (by omega) (Nat.le_refl _)⟩
  go_wp2_with (first | (refine wpList_load_rowG rfl 40 (.tmp 4) rfl w.heap.size rfl 40 (tbA t a) (0, 0) _ HX1.out Tryz.underlying40 rfl (by kernel_rfl) ?_) | fail)
  refine Calls.mono (HK2.out _ HB1.out) ?_
  rintro e w2 ⟨rfl, hb2⟩
  have HB2 : Hid (Below w.heap.size w w2) := HB1.out.trans (hb2.mono HB1.out.size)
  have HX2 : Hid (TBx w2 w.heap.size t a) := HX1.out.below hb2
  have HO2 : Hid (OwnI w2 (w.heap.size + 1) (.slice (some ⟨w.heap.size + 1, 0, none⟩) 0 0) []) := HO1.out.below hb2
  clear hb2 HB1 HX1 HK2 HO1
  cases q2
  · have HT : Hid (zs = []) := HN.out (.inr (.inl (by first | rfl | trivial)))
    clear HN HY HK3 HBG HX2
    go_wp2
    go_ret
    obtain ⟨a', cap', e1, h4⟩ := HO2.out.oi
    cases e1
    rw [HT.out]
    exact ⟨_, _, rfl, HB2.out, h4.wide (by omega) (Nat.le_refl _)⟩
  have k15 : w2.cell? ⟨w.heap.size, 15, none⟩ = some (.slice a.pa a.pn a.pc) := HX2.out.cell 15 rfl
  go_wp2_with fail
  refine Calls.mono (HK3.out _) ?_
  rintro e w3 ⟨rfl, hw3⟩
  subst hw3
  clear HK3 k15
  cases q3
  · have HT : Hid (zs = []) := HN.out (.inr (.inr (by first | rfl | trivial)))
    clear HN HY HBG HX2
    go_wp2
    go_ret
    obtain ⟨a', cap', e1, h4⟩ := HO2.out.oi
    cases e1
    rw [HT.out]
    exact ⟨_, _, rfl, HB2.out, h4.wide (by omega) (Nat.le_refl _)⟩
  have HT : Hid ((Sd t ∧ IsC y) ∧ IsC z ∧ 0 ≤ x ∧ x < (t.ps.length : Int)) := HY.out (by first | rfl | trivial) (by first | rfl | trivial) (by first | rfl | trivial)
  clear HN HY hw0
  have hy := HT.out.1.2
  have hz := HT.out.2.1
  unfold IsC at hy hz
  have HZM : Hid (zs = stL t x y (z - y).toNat) := by
    rcases HZS.out with ⟨h, _⟩ | ⟨_, h⟩
    · exact absurd ⟨HT.out.1, HT.out.2.1, HT.out.2.2⟩ h
    · exact h
  clear HZS
  obtain ⟨ii, hii, hz0, hs0, hb0⟩ := infoI3'
  have HII : Hid (Tryz.prog.info? 3 = some ii ∧ ii.zero = some (.int .i64 0) ∧ ii.size = 1 ∧ ii.bytes = 8) := ⟨hii, hz0, hs0, hb0⟩
  clear hii hz0 hs0 hb0
  by_cases hyz : z < y
  · have HE : Hid (zs = []) := by show _ = _; rw [HZM.out, show (z - y).toNat = 0 by omega]; rfl
    go_wp2
    go_loopw [9, 10] (fun v i wr => v = .slice (some ⟨w.heap.size + 1, 0, none⟩) 0 0 ∧ i = .int .i64 y ∧ wr = w3) (fun _ _ _ => 0)
    case atStart => exact ⟨rfl, rfl, rfl⟩
    case round =>
      obtain ⟨rfl, rfl, rfl⟩ := hrel
      go_wp2
      go_ret
      obtain ⟨a', cap', e1, h4⟩ := HO2.out.oi
      cases e1
      rw [HE.out]
      exact ⟨_, _, rfl, HB2.out, h4.wide (by omega) (Nat.le_refl _)⟩
  have HF : Hid (∀ d : Nat, y + (d : Int) ≤ z → ∀ X, Below w.heap.size w X → Calls Tryz.prog 82 #[tbV t a, .int .i64 (y + (d : Int))] X fun e w' => e = .returned (.int .i64 (firV t ((y + (d : Int)) % t.maj))) ∧ Below X.heap.size X w') := fun d h2 => HBG.out HT.out.1.1 _ (by omega) (by omega)
  obtain ⟨n, hn⟩ : ∃ n : Nat, z = y + (n : Int) := ⟨(z - y).toNat, by omega⟩
  have HZN : Hid (zs = stL t x y n) := by show _ = _; rw [HZM.out, hn, show (y + (n : Int) - y).toNat = n by omega]
  subst hn
  clear HBG HZM
  go_wp2
  go_loopw [9, 10] (fun v i wr => ∃ (d k g cap : Nat), d ≤ n ∧ i = .int .i64 (y + (d : Int)) ∧ v = .slice (some ⟨g, 0, none⟩) k cap ∧ Hid (k = (stL t x y d).length) ∧ Hid (Below w.heap.size w wr) ∧ Hid (TBx wr w.heap.size t a) ∧ Hid (OwnI wr (w.heap.size + 1) (.slice (some ⟨g, 0, none⟩) k cap) (stL t x y d)) ∧ Hid (w.heap.size + 1 ≤ wr.heap.size)) (fun _ i _ => (y + (n : Int) - intOf i).toNat)
  case atStart => exact ⟨0, 0, w.heap.size + 1, 0, by omega, by simp, rfl, rfl, HB2.out, HX2.out, HO2.out, by
    have := HX2.out.lt
    show _ ≤ _
    omega⟩
  case round =>
    clear HB2 HX2 HO2
    obtain ⟨d, k, g, cap, hd, rfl, rfl, HKL, HBW, HXW, HOW, HNW⟩ := hrel
    by_cases hlt : d < n
    rotate_left
    · obtain rfl : d = n := by omega
      have HE : Hid (zs = stL t x y d) := HZN.out
      clear HKL HXW HNW HF
      go_wp2
      go_ret
      obtain ⟨a', cap', e1, h4⟩ := HOW.out.oi
      cases e1
      rw [HE.out]
      exact ⟨_, _, rfl, HBW.out, h4.wide (by omega) (Nat.le_refl _)⟩
    have hlt' : y + (d : Int) < y + (n : Int) := by omega
    have HFd : Hid _ := HF.out d (by omega) wr HBW.out
    have HLH0 : Hid (firV t ((y + (d : Int)) % t.maj) = x → stL t x y (d + 1) = stL t x y d ++ [y + (d : Int)]) := fun h => by show stL t x y d ++ (if _ then _ else _) = _; rw [if_pos h]
    have HLM0 : Hid (¬ firV t ((y + (d : Int)) % t.maj) = x → stL t x y (d + 1) = stL t x y d) := fun h => by show stL t x y d ++ (if _ then _ else _) = _; rw [if_neg h, List.append_nil]
    have hyl : (stL t x y d).length ≤ 100000 := by have := stL_len t x y d; omega
    generalize firV t ((y + (d : Int)) % t.maj) = b at HFd HLH0 HLM0
    generalize stL t x y d = ys at HKL HOW HLM0 HLH0 hyl
    have hkl := HKL.out
    subst hkl
    clear HKL
    go_wp2_with (first | (refine wpList_load_row rfl 40 (.tmp 4) rfl w.heap.size rfl 40 (tbA t a) (0, 0) _ HXW.out Tryz.underlying40 rfl (by kernel_rfl) ?_) | fail)
    refine Calls.mono HFd.out ?_
    rintro e w4 ⟨rfl, hb4⟩
    have HB4 : Hid (Below w.heap.size w w4) := HBW.out.trans (hb4.mono HBW.out.size)
    have HX4 : Hid (TBx w4 w.heap.size t a) := HXW.out.below hb4
    have HO4 : Hid (OwnI w4 (w.heap.size + 1) (.slice (some ⟨g, 0, none⟩) ys.length cap) ys) := HOW.out.below hb4
    have HN4 : Hid (w.heap.size + 1 ≤ w4.heap.size) := Nat.le_trans HNW.out hb4.size
    clear hb4 HBW HXW HOW HNW HFd
    have hw1 : IntKind.i64.wrap (y + (d : Int) + 1) = y + (d : Int) + 1 := by rw [IntKind.wrap_i64]; omega
    by_cases hb : b = x
    rotate_left
    · have HLM : Hid (stL t x y (d + 1) = ys) := HLM0.out hb
      have hbb : (b == x) = false := by simpa using hb
      clear HLM0 HLH0
      go_wp2
      go_roundw
      case rel => exact ⟨d + 1, ys.length, g, cap, by omega, (by rw [show ((d + 1 : Nat) : Int) = (d : Int) + 1 by omega, ← Int.add_assoc]), rfl, (by show _ = _; rw [HLM.out]), HB4.out, HX4.out, (by show OwnI _ _ _ _; rw [HLM.out]; exact HO4.out), HN4.out⟩
      case measure => simp [intOf]; omega
    · subst hb
      have HLH : Hid (stL t b y (d + 1) = ys ++ [y + (d : Int)]) := HLH0.out rfl
      obtain ⟨r, HRR⟩ : ∃ r, Hid (y + (d : Int) = r) := ⟨_, rfl⟩
      have hal : Below w4.heap.size w4 (w4.alloc (.cells #[.int .i64 (y + (d : Int))] 3)) := (Below.refl _ _).alloc (Nat.le_refl _) _
      have hown2 : (w4.alloc (.cells #[.int .i64 (y + (d : Int))] 3)).ownsRow (w.heap.size + 1) 3 1 (.slice (some ⟨g, 0, none⟩) ys.length cap) ys.length (ys.map (Value.int .i64)) := OwnI.below HO4.out hal
      have hlow := ownI_low HO4.out
      have HZ : Hid (∀ (gg cap1 : Nat) (w9 : World), w9.ownsRow (w.heap.size + 1) 3 1 (.slice (some ⟨gg, 0, none⟩) (ys.length + 1) cap1) (ys.length + 1) (ys.map (Value.int .i64) ++ [.int .i64 (y + (d : Int))]) → (w4.alloc (.cells #[.int .i64 (y + (d : Int))] 3)).grownBy w9 (Value.slice (some ⟨g, 0, none⟩) ys.length cap).ownBlock → OwnI w9 (w.heap.size + 1) (.slice (some ⟨gg, 0, none⟩) (ys.length + 1) cap1) (ys ++ [y + (d : Int)]) ∧ Below w.heap.size w w9 ∧ TBx w9 w.heap.size t a ∧ w.heap.size + 1 ≤ w9.heap.size) := fun gg cap1 w9 h1 h2 => by
        have hbz := HB4.out.trans (hal.mono HB4.out.size)
        have hB : w9.heap[w.heap.size]? = (w4.alloc (.cells #[.int .i64 (y + (d : Int))] 3)).heap[w.heap.size]? := h2.block w.heap.size (Nat.lt_of_lt_of_le (by have := HN4.out; omega) hal.size) (fun e => by have := hlow _ e.symm; omega)
        exact ⟨OwnI.snoc h1, Below.grown hbz h2 hbz.size (fun g' e => by have := hlow g' e; omega), hB.trans (HX4.out.below hal), Nat.le_trans HN4.out (Nat.le_trans hal.size h2.size)⟩
      have hbs : w.heap.size + 1 ≤ w4.heap.size := HN4.out
      clear hal hlow HX4 HB4 HO4 HN4 HLM0 HLH0 HRR
      go_wp2_with (at_builtin; (refine wpList_append_lies _ rfl (.tmp 43) (.tmp 45) 27 rfl (w.heap.size + 1) 3 ii (.int .i64 0) 1 8 Tryz.underlying27 HII.out.1 HII.out.2.1 HII.out.2.2.1 HII.out.2.2.2 rfl (by omega) _ _ _ rfl hown2 _ 1 1 [.int .i64 (y + (d : Int))] rfl rfl (newsI_int _ _ _ (by simp)) (oneI_int _) (by omega) (by unfold maxLen; omega) (by omega) (by simp; omega) _ rfl ?_; intro gg cap1 w9 hown1 hgrow hat hlt1; have HY : Hid _ := HZ.out gg cap1 w9 hown1 hgrow; clear hown1 hgrow hat hlt1))
      go_roundw
      case rel => exact ⟨d + 1, ys.length + 1, gg, cap1, by omega, (by rw [show ((d + 1 : Nat) : Int) = (d : Int) + 1 by omega, ← Int.add_assoc]), rfl, (by show _ = _; rw [HLH.out]; simp), HY.out.2.1, HY.out.2.2.1, (by show OwnI _ _ _ _; rw [HLH.out]; exact HY.out.1), HY.out.2.2.2⟩
      case measure => simp [intOf]; omega
end Go.Proofs.YtoalamgongaaeaaGreatDoor
