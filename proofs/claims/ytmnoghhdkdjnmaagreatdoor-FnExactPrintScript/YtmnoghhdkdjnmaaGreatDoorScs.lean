
/-
  What the specification's PrintScript returns: the lines of the commands, one behind the other, where each has one. Conditions: the lists lie in memory.
-/
import Derived.Test.YtmnoghhdkdjnmaaGreatDoorBas
import Derived.Test.YtmnoghhdkdjnmaaGreatDoorScr
import Derived.Test.YtmnoghhdkdjnmaaGreatDoorFlk2
import Derived.Test.YtmnoghhdkdjnmaaGreatDoorSp6
namespace Go.Proofs.YtmnoghhdkdjnmaaGreatDoor
open Go.ChangeShapes Go.WideShapes Go.ChangeAt Go.RowKit Go.Deep Go.Joins
set_option linter.unusedVariables false

namespace Sr
/-- The text of the first commands, if each of them has a line. -/
def psL (t : Tb) (xs : List cmT) : Nat → Option ByteArray
  | 0 => some ⟨#[]⟩
  | n + 1 => (psL t xs n).bind fun T => (lineV t (xs.getD n cm0)).map fun l => T ++ (l ++ Pn.nl)
theorem psL_yes {t : Tb} {xs : List cmT} {j : Nat} {T l : ByteArray} {x : cmT} (h : psL t xs j = some T) (hx : xs.getD j cm0 = x) (hl : lineV t x = some l) : psL t xs (j + 1) = some (T ++ (l ++ Pn.nl)) := by
  rw [psL, h, hx, Option.bind_some, hl]
  rfl
theorem psL_no {t : Tb} {xs : List cmT} {j : Nat} {x : cmT} (hx : xs.getD j cm0 = x) (hl : lineV t x = none) : ∀ n, j < n → psL t xs n = none
  | 0, h => absurd h (by omega)
  | n + 1, h => by
    rw [psL]
    by_cases e : j = n
    · subst e
      rw [hx, hl]
      cases psL t xs j <;> rfl
    · rw [psL_no hx hl n (by omega)]
      rfl
/-- What PrintScript tells. -/
def PS (t : Tb) (n : Nat) (xs : List cmT) (s : ByteArray) (q : Bool) : Prop := (¬ (Sd t ∧ n ≤ 300) ∧ s = ⟨#[]⟩ ∧ q = false) ∨ ((Sd t ∧ n ≤ 300) ∧ s = (psL t xs n).getD ⟨#[]⟩ ∧ q = (psL t xs n).isSome)
theorem PS.ex (t : Tb) (n : Nat) (xs : List cmT) : ∃ s q, PS t n xs s q := by
  by_cases h : Sd t ∧ n ≤ 300
  · exact ⟨_, _, .inr ⟨h, rfl, rfl⟩⟩
  · exact ⟨_, _, .inl ⟨h, rfl, rfl⟩⟩
theorem line_run {t : Tb} {x2 : Int} (h : 0 ≤ x2 ∧ x2 ≤ 50000) : lineV t (0, x2, 0) = some (krunS ++ Pn.dt x2) := by
  unfold lineV
  rw [if_pos ⟨rfl, h, rfl⟩]
theorem line_inp {t : Tb} {x2 x3 : Int} (h : 0 ≤ x2 ∧ x2 ≤ 7) : lineV t (1, x2, x3) = some (kinpS ++ Pn.dt x2 ++ Pn.sp ++ Pn.dt (IntKind.i64.wrap x3)) := by
  unfold lineV
  rw [if_neg (by rintro ⟨h, _⟩; cases h), if_pos ⟨rfl, h⟩]
theorem line_res {t : Tb} {i : Nat} (h : i < t.ps.length) : lineV t (2, (i : Int), 0) = some (kresS ++ (t.ps.getD i pt0).nm) := by
  unfold lineV
  rw [if_neg (by rintro ⟨h, _⟩; cases h), if_neg (by rintro ⟨h, _⟩; cases h), if_pos ⟨rfl, ⟨by simp, by simp; omega⟩, rfl⟩]
  simp
theorem line_none {t : Tb} {x1 x2 x3 : Int} (h0 : x1 = 0 → ¬ ((0 ≤ x2 ∧ x2 ≤ 50000) ∧ x3 = 0)) (h1 : x1 = 1 → ¬ (0 ≤ x2 ∧ x2 ≤ 7)) (h2 : x1 = 2 → ¬ ((0 ≤ x2 ∧ x2 < (t.ps.length : Int)) ∧ x3 = 0)) : lineV t (x1, x2, x3) = none := by
  unfold lineV
  rw [if_neg (fun h => h0 h.1 h.2), if_neg (fun h => h1 h.1 h.2), if_neg (fun h => h2 h.1 h.2)]
theorem line_size {t : Tb} {x : cmT} {l : ByteArray} (hz : ∀ i, i < t.ps.length → (t.ps.getD i pt0).nm.size ≤ 8) (h : lineV t x = some l) : l.size ≤ 80 := by
  have s1 := Pn.dt_size x.2.1
  have s2 := Pn.dt_size (IntKind.i64.wrap x.2.2)
  unfold lineV at h
  split at h
  · cases h
    simp only [ByteArray.size_append]
    have : krunS.size = 4 := rfl
    omega
  · split at h
    · cases h
      simp only [ByteArray.size_append, Pn.sp_size]
      have : kinpS.size = 6 := rfl
      omega
    · split at h
      · rename_i hh
        cases h
        have := hz x.2.1.toNat (by have := hh.2.1; omega)
        simp only [ByteArray.size_append]
        have : kresS.size = 8 := rfl
        omega
      · cases h
theorem say_run (T : ByteArray) (x2 : Int) : T ++ Pn.say krun [x2] = T ++ (krunS ++ Pn.dt x2 ++ Pn.nl) := by
  have : krunS = krun ++ Pn.sp := rfl
  rw [this]
  rfl
theorem say_inp (T : ByteArray) (x2 x3 : Int) : T ++ Pn.say kinp [x2, x3] = T ++ (kinpS ++ Pn.dt x2 ++ Pn.sp ++ Pn.dt x3 ++ Pn.nl) := by
  have : kinpS = kinp ++ Pn.sp := rfl
  rw [this]
  rfl
theorem say_res (T nm : ByteArray) : T ++ kresS ++ nm ++ Pn.nl = T ++ (kresS ++ nm ++ Pn.nl) := by
  simp only [ByteArray.append_assoc]
end Sr
set_option maxRecDepth 40000 in
set_option maxHeartbeats 8000000 in
theorem spec_ps (t : Tb) (a : Ad) (ca : Option Addr) (cc n : Nat) (xs : List cmT) (s : ByteArray) (q : Bool) (w : World) (hm : TM 0 w t a) (hw : TW t a) (hs : TS a) (hc : GSeg 3 w ca n (cmX xs)) (hn : n ≤ 1048576) (hP : Sr.PS t n xs s q) :
    Calls Tryz.prog 7 #[tbV t a, .slice ca n cc] w fun e w' => e = .returned (.tuple #[.string s, .bool q]) ∧ Below w.heap.size w w' := by
  obtain ⟨qs, hqs⟩ := told (Sd t)
  have HB0 : Hid (Below w.heap.size w (w.alloc (.cells (tbA t a) 43))) := (Below.refl _ _).alloc (Nat.le_refl _) _
  have HX0 : Hid (TBx (w.alloc (.cells (tbA t a) 43)) w.heap.size t a) := TBx.new w t a _ rfl
  have HSP : Hid (Calls Tryz.prog 22 #[tbV t a] (w.alloc (.cells (tbA t a) 43)) fun e w' => e = .returned (.bool qs) ∧ Below (w.alloc (.cells (tbA t a) 43)).heap.size (w.alloc (.cells (tbA t a) 43)) w') := spec_sound t a qs _ (hm.below HB0.out) hw hs hqs
  have HP : Hid (PSegL 0 w a.pa a.pn t.ps a.Y) := hm.p
  have HL : Hid (t.ps.length = a.pn) := hw.pl
  have hpn : a.pn ≤ 1048576 := hs.p
  have HQ : Hid (qs = true ↔ Sd t) := hqs
  have HPS : Hid (Sr.PS t n xs s q) := hP
  have HC : Hid (GSeg 3 w ca n (cmX xs)) := hc
  clear hm hw hs hqs hP hc
  go_enter Tryz.func7, Tryz.ntmps7
  go_wp2_with (first | (refine wpList_load_row rfl 43 (.tmp 2) rfl w.heap.size rfl 43 (tbA t a) (0, 0) _ HX0.out Tryz.underlying43 rfl (by kernel_rfl) ?_) | fail)
  refine Calls.mono HSP.out ?_
  rintro e w1 ⟨rfl, hb1⟩
  have HB1 : Hid (Below w.heap.size w w1) := HB0.out.trans (hb1.mono HB0.out.size)
  have HX1 : Hid (TBx w1 w.heap.size t a) := HX0.out.below hb1
  clear hb1 HB0 HX0 HSP
  cases qs
  · have HT : Hid (s = ⟨#[]⟩ ∧ q = false) := by
      rcases HPS.out with ⟨_, h⟩ | ⟨h, _⟩
      · exact h
      · have := HQ.out.2 h.1
        cases this
    obtain ⟨rfl, rfl⟩ := HT.out
    go_wp2
    go_ret2
    exact ⟨rfl, HB1.out⟩
  have HT : Hid (Sd t) := HQ.out.1 rfl
  clear HQ
  by_cases h300 : n ≤ 300
  rotate_left
  · have hgt : (300 : Int) < (n : Int) := by omega
    have HT2 : Hid (s = ⟨#[]⟩ ∧ q = false) := by
      rcases HPS.out with ⟨_, h⟩ | ⟨h, _⟩
      · exact h
      · exact absurd h.2 h300
    obtain ⟨rfl, rfl⟩ := HT2.out
    go_wp2
    go_ret2
    exact ⟨rfl, HB1.out⟩
  have hgt : ¬ ((300 : Int) < (n : Int)) := by omega
  have HR0 : Hid (s = (Sr.psL t xs n).getD ⟨#[]⟩ ∧ q = (Sr.psL t xs n).isSome) := by
    rcases HPS.out with ⟨h, _⟩ | ⟨_, h⟩
    · exact absurd ⟨HT.out, h300⟩ h
    · exact h
  have HZ : Hid (∀ i, i < t.ps.length → (t.ps.getD i pt0).nm.size ≤ 8) := fun i hi => ((bt_of t HT.out).p i hi).nm
  clear HPS HT
  go_wp2
  go_loopw [6, 7] (fun v i wr => ∃ (j : Nat) (T : ByteArray), j ≤ n ∧ i = .int .i64 j ∧ v = .string T ∧ T.size ≤ 81 * j ∧ Hid (Sr.psL t xs j = some T) ∧ Hid (Below w.heap.size w wr) ∧ Hid (TBx wr w.heap.size t a)) (fun _ i _ => n - (intOf i).toNat)
  case atStart => exact ⟨0, ⟨#[]⟩, by omega, rfl, rfl, by decide, rfl, HB1.out, HX1.out⟩
  case round =>
    clear HB1 HX1
    obtain ⟨j, T, hj, rfl, rfl, hT, HPJ, HBW, HXW⟩ := hrel
    by_cases hjn : j < n
    rotate_left
    · obtain rfl : j = n := by omega
      have hjn' : ¬ ((j : Int) < (j : Int)) := by omega
      have HE : Hid (s = T ∧ q = true) := by
        obtain ⟨h1, h2⟩ := HR0.out
        rw [HPJ.out] at h1 h2
        exact ⟨h1, h2⟩
      obtain ⟨rfl, rfl⟩ := HE.out
      go_wp2
      go_ret2
      exact ⟨rfl, HBW.out⟩
    have hjn' : (j : Int) < (n : Int) := by omega
    obtain ⟨b1, o1, hca, hbl1, p1⟩ := HC.out.at j hjn
    replace p1 := p1.of (w' := wr) (fun i => HBW.out.cell (p := ⟨b1, i, none⟩) hbl1)
    simp only [cmX] at p1
    obtain ⟨x, HX⟩ : ∃ x, Hid (xs.getD j cm0 = x) := ⟨_, rfl⟩
    rw [HX.out] at p1
    have HYE : Hid (∀ l, Sr.lineV t x = some l → Sr.psL t xs (j + 1) = some (T ++ (l ++ Pn.nl)) ∧ (T ++ (l ++ Pn.nl)).size ≤ 81 * (j + 1)) := fun l h => ⟨Sr.psL_yes HPJ.out HX.out h, by
      have := Sr.line_size HZ.out h
      simp only [ByteArray.size_append, Pn.nl_size]
      omega⟩
    have HNO : Hid (Sr.lineV t x = none → s = ⟨#[]⟩ ∧ q = false) := fun h => by
      obtain ⟨h1, h2⟩ := HR0.out
      rw [Sr.psL_no HX.out h n hjn] at h1 h2
      exact ⟨h1, h2⟩
    obtain ⟨c0, c1, c2⟩ := cm_cells p1
    obtain ⟨x1, x2, x3⟩ := x
    simp only at c0 c1 c2
    have hba : Below wr.heap.size wr (wr.alloc (.cells #[.int .i64 x1, .int .i64 x2, .int .u32 x3] 62)) := (Below.refl _ _).alloc (Nat.le_refl _) _
    have HBA : Hid (Below w.heap.size w (wr.alloc (.cells #[.int .i64 x1, .int .i64 x2, .int .u32 x3] 62))) := HBW.out.trans (hba.mono HBW.out.size)
    have HXA : Hid (TBx (wr.alloc (.cells #[.int .i64 x1, .int .i64 x2, .int .u32 x3] 62)) w.heap.size t a) := HXW.out.below hba
    have HRA : Hid (CellsAt (wr.alloc (.cells #[.int .i64 x1, .int .i64 x2, .int .u32 x3] 62)) wr.heap.size 0 (cmL (x1, x2, x3))) := CellsAt.new wr (cmL (x1, x2, x3)) 62 _ rfl
    have e0 : (wr.alloc (.cells #[.int .i64 x1, .int .i64 x2, .int .u32 x3] 62)).cell? ⟨wr.heap.size, 0, none⟩ = some (.int .i64 x1) := cell0 HRA.out 0 rfl
    have e1 : (wr.alloc (.cells #[.int .i64 x1, .int .i64 x2, .int .u32 x3] 62)).cell? ⟨wr.heap.size, 1, none⟩ = some (.int .i64 x2) := cell0 HRA.out 1 rfl
    have e2 : (wr.alloc (.cells #[.int .i64 x1, .int .i64 x2, .int .u32 x3] 62)).cell? ⟨wr.heap.size, 2, none⟩ = some (.int .u32 x3) := cell0 HRA.out 2 rfl
    rw [hca]
    clear hba HRA p1 hbl1 HXW hca HC
    by_cases hx0 : x1 = 0
    · have h0 := hx0
      have b0 : (x1 == 0) = true := by simp; omega
      have b1 : (x1 == 1) = false := by simp; omega
      have b2 : (x1 == 2) = false := by simp; omega
      by_cases hq : 0 ≤ x2 ∧ x2 ≤ 50000
      · by_cases hx3 : x3 = 0
        · have b3 : (x3 == 0) = true := by simp; omega
          have HIN : Hid (∀ X, Calls Tryz.prog 23 #[.int .i64 x2, .int .i64 0, .int .i64 50000] X fun e w' => e = .returned (.bool true) ∧ w' = X) := fun X => by have h := in_any x2 0 50000 X; rw [inr_yes hq] at h; exact h
          obtain ⟨l, HLE⟩ : ∃ l, Hid (Sr.krunS ++ Pn.dt x2 = l) := ⟨_, rfl⟩
          have HN : Hid _ := HYE.out l (by subst hx0 hx3; rw [← HLE.out]; exact Sr.line_run hq)
          have HZB : Hid (∀ z ∈ [x2], -9223372036854775808 ≤ z ∧ z ≤ 9223372036854775807) := by
            intro z hz
            simp only [List.mem_cons, List.not_mem_nil, or_false] at hz
            subst hz
            omega
          clear HYE HNO h0 hx0 hx3 hq
          go_wp2_with fail
          refine Calls.mono (HIN.out _) ?_
          rintro e w2 ⟨rfl, hw2⟩
          subst hw2
          have HLL : Hid (GSeg 1 ((wr.alloc (.cells #[.int .i64 x1, .int .i64 x2, .int .u32 x3] 62)).alloc (.cells #[.int .i64 x2] 3)) (some ⟨wr.heap.size + 1, 0, none⟩) 1 (inX [x2])) := lit_ints (wr.alloc (.cells #[.int .i64 x1, .int .i64 x2, .int .u32 x3] 62)) [x2] _ (by simp)
          have hbs : Below (wr.alloc (.cells #[.int .i64 x1, .int .i64 x2, .int .u32 x3] 62)).heap.size (wr.alloc (.cells #[.int .i64 x1, .int .i64 x2, .int .u32 x3] 62)) ((wr.alloc (.cells #[.int .i64 x1, .int .i64 x2, .int .u32 x3] 62)).alloc (.cells #[.int .i64 x2] 3)) := (Below.refl _ _).alloc (Nat.le_refl _) _
          have HBS : Hid (Below w.heap.size w ((wr.alloc (.cells #[.int .i64 x1, .int .i64 x2, .int .u32 x3] 62)).alloc (.cells #[.int .i64 x2] 3))) := HBA.out.trans (hbs.mono HBA.out.size)
          have HXS : Hid (TBx ((wr.alloc (.cells #[.int .i64 x1, .int .i64 x2, .int .u32 x3] 62)).alloc (.cells #[.int .i64 x2] 3)) w.heap.size t a) := HXA.out.below hbs
          have HSY : Hid (∀ (X : World) (A : Option Addr), GSeg 1 X A 1 (inX [x2]) → Calls Tryz.prog 24 #[.string Sr.krun, .slice A 1 1] X fun e w' => e = .returned (.string (Pn.say Sr.krun [x2])) ∧ w' = X) := fun X A h => spec_say Sr.krun A 1 1 [x2] X h rfl HZB.out (by decide) (by omega)
          have HEQ : Hid (T ++ Pn.say Sr.krun [x2] = T ++ (l ++ Pn.nl)) := by show _ = _; rw [← HLE.out]; exact Sr.say_run T x2
          have hsy : (Pn.say Sr.krun [x2]).size ≤ 100 := Nat.le_trans (Pn.say_size _ _) (show 3 + 22 * 1 + 1 ≤ 100 by decide)
          generalize Pn.say Sr.krun [x2] = S at HSY HEQ hsy
          clear hbs HLE
          go_wp2_with fail
          refine Calls.mono (HSY.out _ _ HLL.out) ?_
          rintro e w3 ⟨rfl, hw3⟩
          subst hw3
          go_wp2
          go_roundw
          case rel => exact ⟨j + 1, _, by omega, by go_num, rfl, by rw [HEQ.out]; exact HN.out.2, by rw [HEQ.out]; exact HN.out.1, HBS.out, HXS.out⟩
          case measure => simp [intOf]; omega
        · have b3 : (x3 == 0) = false := by simp; omega
          have HIN : Hid (∀ X, Calls Tryz.prog 23 #[.int .i64 x2, .int .i64 0, .int .i64 50000] X fun e w' => e = .returned (.bool true) ∧ w' = X) := fun X => by have h := in_any x2 0 50000 X; rw [inr_yes hq] at h; exact h
          obtain ⟨hs1, hs2⟩ := HNO.out (Sr.line_none (fun _ h => hx3 h.2) (fun h => by omega) (fun h => by omega))
          subst hs1 hs2
          clear HYE HNO h0 hx0 hx3 hq
          go_wp2_with fail
          refine Calls.mono (HIN.out _) ?_
          rintro e w2 ⟨rfl, hw2⟩
          subst hw2
          go_wp2
          go_ret2
          exact ⟨rfl, HBA.out⟩
      · have HIN : Hid (∀ X, Calls Tryz.prog 23 #[.int .i64 x2, .int .i64 0, .int .i64 50000] X fun e w' => e = .returned (.bool false) ∧ w' = X) := fun X => by have h := in_any x2 0 50000 X; rw [inr_no hq] at h; exact h
        obtain ⟨hs1, hs2⟩ := HNO.out (Sr.line_none (fun _ h => hq h.1) (fun h => by omega) (fun h => by omega))
        subst hs1 hs2
        clear HYE HNO h0 hx0 hq
        go_wp2_with fail
        refine Calls.mono (HIN.out _) ?_
        rintro e w2 ⟨rfl, hw2⟩
        subst hw2
        go_wp2
        go_ret2
        exact ⟨rfl, HBA.out⟩
    by_cases hx1 : x1 = 1
    · have b0 : (x1 == 0) = false := by simp; omega
      have b1 : (x1 == 1) = true := by simp; omega
      have b2 : (x1 == 2) = false := by simp; omega
      by_cases hq : 0 ≤ x2 ∧ x2 ≤ 7
      · have HIN : Hid (∀ X, Calls Tryz.prog 23 #[.int .i64 x2, .int .i64 0, .int .i64 7] X fun e w' => e = .returned (.bool true) ∧ w' = X) := fun X => by have h := in_any x2 0 7 X; rw [inr_yes hq] at h; exact h
        obtain ⟨l, HLE⟩ : ∃ l, Hid (Sr.kinpS ++ Pn.dt x2 ++ Pn.sp ++ Pn.dt (IntKind.i64.wrap x3) = l) := ⟨_, rfl⟩
        have HN : Hid _ := HYE.out l (by subst hx1; rw [← HLE.out]; exact Sr.line_inp hq)
        have HZB : Hid (∀ z ∈ [x2, IntKind.i64.wrap x3], -9223372036854775808 ≤ z ∧ z ≤ 9223372036854775807) := by
          intro z hz
          simp only [List.mem_cons, List.not_mem_nil, or_false] at hz
          rcases hz with rfl | rfl
          · omega
          · exact Sr.wrap_rng x3
        generalize hw3 : IntKind.i64.wrap x3 = z3 at HLE HZB
        clear HYE HNO hx0 hx1 hq
        go_wp2_with fail
        refine Calls.mono (HIN.out _) ?_
        rintro e w2 ⟨rfl, hw2⟩
        subst hw2
        have HLL : Hid (GSeg 1 ((wr.alloc (.cells #[.int .i64 x1, .int .i64 x2, .int .u32 x3] 62)).alloc (.cells #[.int .i64 x2, .int .i64 z3] 3)) (some ⟨wr.heap.size + 1, 0, none⟩) 2 (inX [x2, z3])) := lit_ints (wr.alloc (.cells #[.int .i64 x1, .int .i64 x2, .int .u32 x3] 62)) [x2, z3] _ (by simp)
        have hbs : Below (wr.alloc (.cells #[.int .i64 x1, .int .i64 x2, .int .u32 x3] 62)).heap.size (wr.alloc (.cells #[.int .i64 x1, .int .i64 x2, .int .u32 x3] 62)) ((wr.alloc (.cells #[.int .i64 x1, .int .i64 x2, .int .u32 x3] 62)).alloc (.cells #[.int .i64 x2, .int .i64 z3] 3)) := (Below.refl _ _).alloc (Nat.le_refl _) _
        have HBS : Hid (Below w.heap.size w ((wr.alloc (.cells #[.int .i64 x1, .int .i64 x2, .int .u32 x3] 62)).alloc (.cells #[.int .i64 x2, .int .i64 z3] 3))) := HBA.out.trans (hbs.mono HBA.out.size)
        have HXS : Hid (TBx ((wr.alloc (.cells #[.int .i64 x1, .int .i64 x2, .int .u32 x3] 62)).alloc (.cells #[.int .i64 x2, .int .i64 z3] 3)) w.heap.size t a) := HXA.out.below hbs
        have HSY : Hid (∀ (X : World) (A : Option Addr), GSeg 1 X A 2 (inX [x2, z3]) → Calls Tryz.prog 24 #[.string Sr.kinp, .slice A 2 2] X fun e w' => e = .returned (.string (Pn.say Sr.kinp [x2, z3])) ∧ w' = X) := fun X A h => spec_say Sr.kinp A 2 2 [x2, z3] X h rfl HZB.out (by decide) (by omega)
        have HEQ : Hid (T ++ Pn.say Sr.kinp [x2, z3] = T ++ (l ++ Pn.nl)) := by show _ = _; rw [← HLE.out]; exact Sr.say_inp T x2 z3
        have hsy : (Pn.say Sr.kinp [x2, z3]).size ≤ 100 := Nat.le_trans (Pn.say_size _ _) (show 5 + 22 * 2 + 1 ≤ 100 by decide)
        generalize Pn.say Sr.kinp [x2, z3] = S at HSY HEQ hsy
        clear hbs HLE
        go_wp2_with fail
        refine Calls.mono (HSY.out _ _ HLL.out) ?_
        rintro e w3 ⟨rfl, hw3⟩
        subst hw3
        go_wp2
        go_roundw
        case rel => exact ⟨j + 1, _, by omega, by go_num, rfl, by rw [HEQ.out]; exact HN.out.2, by rw [HEQ.out]; exact HN.out.1, HBS.out, HXS.out⟩
        case measure => simp [intOf]; omega
      · have HIN : Hid (∀ X, Calls Tryz.prog 23 #[.int .i64 x2, .int .i64 0, .int .i64 7] X fun e w' => e = .returned (.bool false) ∧ w' = X) := fun X => by have h := in_any x2 0 7 X; rw [inr_no hq] at h; exact h
        obtain ⟨hs1, hs2⟩ := HNO.out (Sr.line_none (fun h => by omega) (fun _ h => hq h) (fun h => by omega))
        subst hs1 hs2
        clear HYE HNO hx0 hx1 hq
        go_wp2_with fail
        refine Calls.mono (HIN.out _) ?_
        rintro e w2 ⟨rfl, hw2⟩
        subst hw2
        go_wp2
        go_ret2
        exact ⟨rfl, HBA.out⟩
    by_cases hx2 : x1 = 2
    · have b0 : (x1 == 0) = false := by simp; omega
      have b1 : (x1 == 1) = false := by simp; omega
      have b2 : (x1 == 2) = true := by simp; omega
      have k15 : (wr.alloc (.cells #[.int .i64 x1, .int .i64 x2, .int .u32 x3] 62)).cell? ⟨w.heap.size, 15, none⟩ = some (.slice a.pa a.pn a.pc) := HXA.out.cell 15 rfl
      have hwd : IntKind.i64.wrap ((a.pn : Int) - 1) = (a.pn : Int) - 1 := by rw [IntKind.wrap_i64]; omega
      by_cases hq : 0 ≤ x2 ∧ x2 ≤ (a.pn : Int) - 1
      · by_cases hx3 : x3 = 0
        · have b3 : (x3 == 0) = true := by simp; omega
          have HIN : Hid (∀ X, Calls Tryz.prog 23 #[.int .i64 x2, .int .i64 0, .int .i64 ((a.pn : Int) - 1)] X fun e w' => e = .returned (.bool true) ∧ w' = X) := fun X => by have h := in_any x2 0 ((a.pn : Int) - 1) X; rw [inr_yes hq] at h; exact h
          obtain ⟨i, rfl⟩ : ∃ i : Nat, x2 = (i : Int) := ⟨x2.toNat, by omega⟩
          have hia : i < a.pn := by omega
          obtain ⟨l, HLE⟩ : ∃ l, Hid (Sr.kresS ++ (t.ps.getD i pt0).nm = l) := ⟨_, rfl⟩
          have HN : Hid _ := HYE.out l (by subst hx2 hx3; rw [← HLE.out]; exact Sr.line_res (by rw [HL.out]; exact hia))
          obtain ⟨b2, o2, hpa, hbl2, p2⟩ := HP.out.1.seg.at i hia
          have c9 : w.cell? ⟨b2, o2 + i * 5, none⟩ = some (.string (a.Y i).nm) := (rw_cells p2).1
          rw [(HP.out.2 i hia).nm] at c9
          replace c9 := (HBA.out.cell (p := ⟨b2, o2 + i * 5, none⟩) hbl2).trans c9
          have hsz : (t.ps.getD i pt0).nm.size ≤ 8 := HZ.out i (by rw [HL.out]; exact hia)
          generalize (t.ps.getD i pt0).nm = nm at HLE c9 hsz
          have HEQ : Hid (T ++ Sr.kresS ++ nm ++ Pn.nl = T ++ (l ++ Pn.nl)) := by show _ = _; rw [← HLE.out]; exact Sr.say_res T nm
          rw [hpa] at k15
          have hia' : (i : Int) < (a.pn : Int) := by omega
          have HBS := HBA
          have HXS := HXA
          clear HYE HNO hx0 hx1 hx2 hx3 hq p2 hbl2 hpa HLE HP
          go_wp2_with fail
          refine Calls.mono (HIN.out _) ?_
          rintro e w2 ⟨rfl, hw2⟩
          subst hw2
          go_wp2
          go_roundw
          case rel => exact ⟨j + 1, _, by omega, by go_num, rfl, by rw [HEQ.out]; exact HN.out.2, by rw [HEQ.out]; exact HN.out.1, HBS.out, HXS.out⟩
          case measure => simp [intOf]; omega
        · have b3 : (x3 == 0) = false := by simp; omega
          have HIN : Hid (∀ X, Calls Tryz.prog 23 #[.int .i64 x2, .int .i64 0, .int .i64 ((a.pn : Int) - 1)] X fun e w' => e = .returned (.bool true) ∧ w' = X) := fun X => by have h := in_any x2 0 ((a.pn : Int) - 1) X; rw [inr_yes hq] at h; exact h
          obtain ⟨hs1, hs2⟩ := HNO.out (Sr.line_none (fun h => by omega) (fun h => by omega) (fun _ h => hx3 h.2))
          subst hs1 hs2
          clear HYE HNO hx0 hx1 hx2 hx3 hq
          go_wp2_with fail
          refine Calls.mono (HIN.out _) ?_
          rintro e w2 ⟨rfl, hw2⟩
          subst hw2
          go_wp2
          go_ret2
          exact ⟨rfl, HBA.out⟩
      · have HIN : Hid (∀ X, Calls Tryz.prog 23 #[.int .i64 x2, .int .i64 0, .int .i64 ((a.pn : Int) - 1)] X fun e w' => e = .returned (.bool false) ∧ w' = X) := fun X => by have h := in_any x2 0 ((a.pn : Int) - 1) X; rw [inr_no hq] at h; exact h
        obtain ⟨hs1, hs2⟩ := HNO.out (Sr.line_none (fun h => by omega) (fun h => by omega) (fun _ h => hq ⟨h.1.1, by have := h.1.2; rw [HL.out] at this; omega⟩))
        subst hs1 hs2
        clear HYE HNO hx0 hx1 hx2 hq
        go_wp2_with fail
        refine Calls.mono (HIN.out _) ?_
        rintro e w2 ⟨rfl, hw2⟩
        subst hw2
        go_wp2
        go_ret2
        exact ⟨rfl, HBA.out⟩
    have b0 : (x1 == 0) = false := by simpa using hx0
    have b1 : (x1 == 1) = false := by simpa using hx1
    have b2 : (x1 == 2) = false := by simpa using hx2
    obtain ⟨hs1, hs2⟩ := HNO.out (Sr.line_none (fun h => absurd h hx0) (fun h => absurd h hx1) (fun h => absurd h hx2))
    subst hs1 hs2
    clear HYE HNO hx0 hx1 hx2
    go_wp2
    go_ret2
    exact ⟨rfl, HBA.out⟩
end Go.Proofs.YtmnoghhdkdjnmaaGreatDoor
