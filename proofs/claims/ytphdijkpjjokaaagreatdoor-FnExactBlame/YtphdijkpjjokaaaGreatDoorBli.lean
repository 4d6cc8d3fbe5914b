
/-
  The first span that does not say what its cycles are in: the program's and the specification's. Conditions: the lists lie in memory; lengths are at most 1048576.
-/
import Derived.Test.YtphdijkpjjokaaaGreatDoorBas
import Derived.Test.YtphdijkpjjokaaaGreatDoorBla
import Derived.Test.YtphdijkpjjokaaaGreatDoorSpw
import Derived.Test.YtphdijkpjjokaaaGreatDoorRl3
import Derived.Test.YtphdijkpjjokaaaGreatDoorSp6
namespace Go.Proofs.YtphdijkpjjokaaaGreatDoor
open Go.ChangeShapes Go.WideShapes Go.ChangeAt Go.RowKit Go.Deep Go.Joins
set_option linter.unusedVariables false

/-- The first of k spans that is wrong, or -1. -/
noncomputable def blF (t : Tb) (xs : List saT) : Nat → Int
  | 0 => -1
  | k + 1 => if 0 ≤ blF t xs k then blF t xs k else if spGood t (xs.getD k sa0) then -1 else (k : Int)
theorem blF_none {t : Tb} {xs : List saT} : ∀ n, (∀ i, i < n → spGood t (xs.getD i sa0)) → blF t xs n = -1 := by
  intro n
  induction n with
  | zero => intro _; rfl
  | succ n ih =>
    intro h
    simp only [blF]
    rw [ih (fun i hi => h i (by omega)), if_neg (by omega), if_pos (h n (by omega))]
theorem blF_at {t : Tb} {xs : List saT} {k : Nat} (h1 : ∀ i, i < k → spGood t (xs.getD i sa0)) (h2 : ¬ spGood t (xs.getD k sa0)) : ∀ n, k < n → blF t xs n = (k : Int) := by
  intro n
  induction n with
  | zero => intro h; omega
  | succ n ih =>
    intro h
    simp only [blF]
    by_cases e : k = n
    · subst e
      rw [blF_none k h1, if_neg (by omega), if_neg h2]
    · rw [ih (by omega), if_pos (by omega)]
noncomputable instance (t : Tb) : Decidable (Sd t) := Classical.propDecidable _
noncomputable def blmV (t : Tb) (xs : List saT) : Int := if Sd t ∧ xs.length ≤ 5000 then blF t xs xs.length else -1
set_option maxRecDepth 20000 in
set_option maxHeartbeats 1000000 in
theorem sa_index (a : Option Addr) (cap n : Nat) (xs : List saT) (P : Nat → Bool) (fid : Nat) (caps : Array Value) (w : World) (hs : GSeg 4 w a n (saX xs)) (hn : n ≤ 9223372036854775807) (hen : ∀ args (v : World), (callFunc fid args).run Tryz.prog v = .ok (.enter fid args) v)
    (hf : ∀ i, i < n → ∀ X, Below w.heap.size w X → Calls Tryz.prog fid (#[saV (xs.getD i sa0)] ++ caps) X fun e w' => e = .returned (.bool (P i)) ∧ Below X.heap.size X w') :
    Calls Tryz.prog 53 #[.slice a n cap, .func (.func fid) #[] caps] w fun e w' => (∃ r : Int, e = .returned (.int .i64 r) ∧ ((r = -1 ∧ ∀ i, i < n → P i = false) ∨ ∃ k : Nat, r = (k : Int) ∧ k < n ∧ P k = true ∧ ∀ i, i < k → P i = false)) ∧ Below w.heap.size w w' := by
  have HS : Hid (GSeg 4 w a n (saX xs)) := hs
  have HF : Hid (∀ i, i < n → ∀ X, Below w.heap.size w X → Calls Tryz.prog fid (#[saV (xs.getD i sa0)] ++ caps) X fun e w' => e = .returned (.bool (P i)) ∧ Below X.heap.size X w') := hf
  clear hs hf
  go_enter Tryz.func53, Tryz.ntmps53
  go_wp2
  go_loopw [8] (fun i wr => ∃ m : Nat, m ≤ n ∧ i = .int .i64 m ∧ Hid (Below w.heap.size w wr ∧ ∀ j, j < m → P j = false)) (fun i _ => n - (intOf i).toNat)
  case atStart => exact ⟨0, by omega, rfl, Below.refl _ _, fun i hi => absurd hi (by omega)⟩
  case round =>
    obtain ⟨m, hm, rfl, HR⟩ := hrel
    by_cases hmn : m < n
    rotate_left
    · obtain rfl : m = n := by omega
      go_wp2
      go_ret
      exact ⟨⟨_, rfl, .inl ⟨rfl, HR.out.2⟩⟩, HR.out.1⟩
    have hmn' : (m : Int) < (n : Int) := by omega
    obtain ⟨b1, o1, rfl, hbl1, p1⟩ := HS.out.at m hmn
    replace p1 := p1.of (w' := wr) (fun j => HR.out.1.cell (p := ⟨b1, j, none⟩) hbl1)
    have HFm : Hid _ := HF.out m hmn
    have HPm : Hid (P m = true → (∃ k : Nat, (m : Int) = (k : Int) ∧ k < n ∧ P k = true ∧ ∀ i, i < k → P i = false)) := fun h => ⟨m, rfl, hmn, h, HR.out.2⟩
    have HPt : Hid (P m = false → ∀ j, j < m + 1 → P j = false) := fun h j hj => by
      by_cases e : j = m
      · subst e; exact h
      · exact HR.out.2 j (by omega)
    have HBW : Hid (Below w.heap.size w wr) := HR.out.1
    simp only [saX] at p1
    generalize xs.getD m sa0 = x at p1 HFm
    obtain ⟨c0, c1, c2, c3⟩ := sa_cells p1
    obtain ⟨x1, x2, x3, x4⟩ := x
    simp only [saV] at c0 c1 c2 c3 HFm
    generalize P m = pm at HFm HPm HPt
    clear p1 hbl1
    go_wp2_with fail
    refine (HFm.out _ HBW.out).mono ?_
    rintro u w1 ⟨rfl, hb1⟩
    have HB1 : Hid (Below w.heap.size w w1) := HBW.out.trans (hb1.mono HBW.out.size)
    clear hb1 c0 c1 c2 c3
    cases pm
    · have HT : Hid _ := HPt.out (by trivial)
      go_wp2
      go_roundw
      case rel => exact ⟨m + 1, by omega, by go_num, HB1.out, HT.out⟩
      case measure => simp [intOf]; omega
    · have HT : Hid _ := HPm.out (by trivial)
      go_wp2
      go_ret
      exact ⟨⟨_, rfl, .inr HT.out⟩, HB1.out⟩
theorem e_bl1 : ∀ args (v : World), (callFunc 54 args).run Tryz.prog v = .ok (.enter 54 args) v := enters_of Tryz.func54 (by kernel_rfl) rfl
set_option maxRecDepth 40000 in
set_option maxHeartbeats 4000000 in
theorem bl_one (t : Tb) (a : Ad) (x : saT) (B : Nat) (X : World) (hB : TBx X B t a) (hm : TM 0 X t a) (hw : TW t a) (hs : TS a) (hcs : a.sn ≤ a.sc) (ht : Tm t) :
    Calls Tryz.prog 54 #[saV x, .pointer (some ⟨B, 0, none⟩)] X fun e w' => e = .returned (.bool (!decide (spGood t x))) ∧ Below X.heap.size X w' := by
  obtain ⟨x1, x2, x3, x4⟩ := x
  simp only [saV]
  have HB0 : Hid (Below X.heap.size X (X.alloc (.cells #[.int .i64 x1, .int .i64 x2, .int .i64 x3, .int .i64 x4] 64))) := (Below.refl _ _).alloc (Nat.le_refl _) _
  have HX0 : Hid (TBx (X.alloc (.cells #[.int .i64 x1, .int .i64 x2, .int .i64 x3, .int .i64 x4] 64)) B t a) := hB.below HB0.out
  have HS1 : Hid ((X.alloc (.cells #[.int .i64 x1, .int .i64 x2, .int .i64 x3, .int .i64 x4] 64)).heap[X.heap.size]? = some (.cells #[.int .i64 x1, .int .i64 x2, .int .i64 x3, .int .i64 x4] 64 (0, 0))) := new_row _ _ _ _ rfl
  have HA : Hid (Calls Tryz.prog 55 #[tbV t a, .agg #[.int .i64 x1, .int .i64 x2, .int .i64 x3, .int .i64 x4]] (X.alloc (.cells #[.int .i64 x1, .int .i64 x2, .int .i64 x3, .int .i64 x4] 64)) fun e w' => e = .returned (.bool (decide (spGood t (x1, x2, x3, x4)))) ∧ Below (X.alloc (.cells #[.int .i64 x1, .int .i64 x2, .int .i64 x3, .int .i64 x4] 64)).heap.size (X.alloc (.cells #[.int .i64 x1, .int .i64 x2, .int .i64 x3, .int .i64 x4] 64)) w') := impl_agrees t a x1 x2 x3 x4 _ (hm.below HB0.out) hw hs hcs ht
  generalize decide (spGood t (x1, x2, x3, x4)) = g at HA ⊢
  clear hB hm hw hs hcs ht
  go_enter Tryz.func54, Tryz.ntmps54
  go_wp2_with (first | (refine wpList_load_row rfl 41 (.tmp 1) rfl B rfl 41 (tbA t a) (0, 0) _ (HX0.out) Tryz.underlying41 rfl (by kernel_rfl) ?_) | (refine wpList_load_row rfl 64 (.tmp 2) rfl X.heap.size rfl 64 (#[.int .i64 x1, .int .i64 x2, .int .i64 x3, .int .i64 x4]) (0, 0) _ (HS1.out) Tryz.underlying64 rfl (by kernel_rfl) ?_) | fail)
  refine Calls.mono HA.out ?_
  rintro e w1 ⟨rfl, hb⟩
  have HB1 : Hid (Below X.heap.size X w1) := HB0.out.trans (hb.mono HB0.out.size)
  clear hb HB0 HX0 HS1 HA
  go_wp2
  go_ret
  exact ⟨rfl, HB1.out⟩
set_option maxRecDepth 40000 in
set_option maxHeartbeats 8000000 in
theorem impl_blame (t : Tb) (a : Ad) (b : Option Addr) (cb : Nat) (xs : List saT) (w : World) (hm : TM 0 w t a) (hw : TW t a) (hs : TS a) (he : TabE w) (hcp : a.pn ≤ a.pc) (hcs : a.sn ≤ a.sc) (hb : GSeg 4 w b xs.length (saX xs)) (hx : xs.length ≤ 1048576) :
    Calls Tryz.prog 20 #[tbV t a, .slice b xs.length cb] w fun e w' => e = .returned (.int .i64 (blmV t xs)) ∧ Below w.heap.size w w' := by
  obtain ⟨q, hq⟩ := told (Sd t)
  have HB0 : Hid (Below w.heap.size w (w.alloc (.cells (tbA t a) 41))) := (Below.refl _ _).alloc (Nat.le_refl _) _
  have HX0 : Hid (TBx (w.alloc (.cells (tbA t a) 41)) w.heap.size t a) := TBx.new w t a _ rfl
  have HSD : Hid (Calls Tryz.prog 52 #[tbV t a] (w.alloc (.cells (tbA t a) 41)) fun e w' => e = .returned (.bool q) ∧ Below (w.alloc (.cells (tbA t a) 41)).heap.size (w.alloc (.cells (tbA t a) 41)) w') := impl_sound t a q (w.alloc (.cells (tbA t a) 41)) (hm.below HB0.out) hw hs (he.below HB0.out) hcp hq
  have HQ : Hid (q = true ↔ Sd t) := hq
  have HXS : Hid (∀ X, Below w.heap.size w X → GSeg 4 X b xs.length (saX xs)) := fun X hX => hb.below hX
  have HONE : Hid (Sd t → ∀ (x : saT) X, TBx X w.heap.size t a → Below w.heap.size w X → Calls Tryz.prog 54 #[saV x, .pointer (some ⟨w.heap.size, 0, none⟩)] X fun e w' => e = .returned (.bool (!decide (spGood t x))) ∧ Below X.heap.size X w') := fun h x X h1 h2 => bl_one t a x _ X h1 (hm.below h2) hw hs hcs (sd_tm h)
  obtain ⟨v, HV⟩ : ∃ v : Int, Hid (blmV t xs = v) := ⟨_, rfl⟩
  rw [HV.out]
  clear hm hw hs he hcp hcs hb hq
  by_cases h5 : xs.length ≤ 5000
  rotate_left
  · have HT : Hid (v = -1) := by show _ = _; rw [← HV.out]; unfold blmV; rw [if_neg (fun h => h5 h.2)]
    have hgt : (5000 : Int) < (xs.length : Int) := by omega
    have hgd : decide ((5000 : Int) < (xs.length : Int)) = true := decide_eq_true hgt
    generalize xs.length = n at *
    clear HSD HQ HXS HONE h5
    go_enter Tryz.func20, Tryz.ntmps20
    go_wp2
    go_ret
    exact ⟨by rw [HT.out]; rfl, HB0.out⟩
  have hgt : ¬ ((5000 : Int) < (xs.length : Int)) := by omega
  have hgd : decide ((5000 : Int) < (xs.length : Int)) = false := decide_eq_false hgt
  have HL5 : Hid (xs.length ≤ 5000) := h5
  obtain ⟨n, hn⟩ : ∃ n, xs.length = n := ⟨_, rfl⟩
  have HN : Hid (xs.length = n) := hn
  rw [hn] at hgt hgd hx h5 HXS ⊢
  clear hn
  go_enter Tryz.func20, Tryz.ntmps20
  go_wp2_with (first | (refine wpList_load_rowG rfl 41 (.tmp 2) rfl w.heap.size rfl 41 (tbA t a) (0, 0) _ HX0.out Tryz.underlying41 rfl (by kernel_rfl) ?_) | (refine wpList_load_row rfl 41 (.tmp 2) rfl w.heap.size rfl 41 (tbA t a) (0, 0) _ (HX0.out) Tryz.underlying41 rfl (by kernel_rfl) ?_) | fail)
  refine Calls.mono HSD.out ?_
  rintro e w1 ⟨rfl, hb1⟩
  have HB1 : Hid (Below w.heap.size w w1) := HB0.out.trans (hb1.mono HB0.out.size)
  have HX1 : Hid (TBx w1 w.heap.size t a) := HX0.out.below hb1
  clear hb1 HB0 HX0 HSD
  cases q
  · have HT : Hid (v = -1) := by show _ = _; rw [← HV.out]; unfold blmV; rw [if_neg (fun h => by have := HQ.out.2 h.1; cases this)]
    clear HQ HXS HONE
    go_wp2
    go_ret
    exact ⟨by rw [HT.out]; rfl, HB1.out⟩
  have HSQ : Hid (Sd t) := HQ.out.1 rfl
  have HVE : Hid (blF t xs n = v) := by show _ = _; rw [← HV.out]; unfold blmV; rw [if_pos ⟨HSQ.out, HL5.out⟩, HN.out]
  have HIX : Hid (Calls Tryz.prog 53 #[.slice b n cb, .func (.func 54) #[] #[.pointer (some ⟨w.heap.size, 0, none⟩)]] w1 fun e w' => (∃ r : Int, e = .returned (.int .i64 r) ∧ ((r = -1 ∧ ∀ i, i < n → (!decide (spGood t (xs.getD i sa0))) = false) ∨ ∃ k : Nat, r = (k : Int) ∧ k < n ∧ (!decide (spGood t (xs.getD k sa0))) = true ∧ ∀ i, i < k → (!decide (spGood t (xs.getD i sa0))) = false)) ∧ Below w1.heap.size w1 w') :=
    sa_index b cb n xs (fun i => !decide (spGood t (xs.getD i sa0))) 54 #[.pointer (some ⟨w.heap.size, 0, none⟩)] w1 (HXS.out _ HB1.out) (by omega) e_bl1 (fun i hi X hX => HONE.out HSQ.out (xs.getD i sa0) X (HX1.out.below hX) (HB1.out.trans (hX.mono HB1.out.size)))
  clear HQ HXS HONE HX1
  go_wp2_with fail
  refine Calls.mono HIX.out ?_
  rintro e w2 ⟨⟨r, rfl, hr⟩, hb2⟩
  have HB2 : Hid (Below w.heap.size w w2) := HB1.out.trans (hb2.mono HB1.out.size)
  have HRV : Hid (r = v) := by
    show _ = _
    rw [← HVE.out]
    rcases hr with ⟨rfl, h⟩ | ⟨k, rfl, hk, h1, h2⟩
    · exact (blF_none n (fun i hi => by simpa using h i hi)).symm
    · exact (blF_at (fun i hi => by simpa using h2 i hi) (by simpa using h1) n hk).symm
  clear hr hb2 HB1 HIX
  go_wp2
  go_ret
  exact ⟨by rw [HRV.out]; rfl, HB2.out⟩
set_option maxRecDepth 40000 in
set_option maxHeartbeats 16000000 in
theorem spec_blame (t : Tb) (a : Ad) (b : Option Addr) (cb : Nat) (xs : List saT) (w : World) (hm : TM 0 w t a) (hw : TW t a) (hs : TS a) (hb : GSeg 4 w b xs.length (saX xs)) (hx : xs.length ≤ 1048576) :
    Calls Tryz.prog 19 #[tbV t a, .slice b xs.length cb] w fun e w' => e = .returned (.int .i64 (blmV t xs)) ∧ Below w.heap.size w w' := by
  obtain ⟨q, hq⟩ := told (Sd t)
  have HB0 : Hid (Below w.heap.size w (w.alloc (.cells (tbA t a) 41))) := (Below.refl _ _).alloc (Nat.le_refl _) _
  have HX0 : Hid (TBx (w.alloc (.cells (tbA t a) 41)) w.heap.size t a) := TBx.new w t a _ rfl
  have HSD : Hid (Calls Tryz.prog 51 #[tbV t a] (w.alloc (.cells (tbA t a) 41)) fun e w' => e = .returned (.bool q) ∧ Below (w.alloc (.cells (tbA t a) 41)).heap.size (w.alloc (.cells (tbA t a) 41)) w') := spec_sound t a q (w.alloc (.cells (tbA t a) 41)) (hm.below HB0.out) hw hs hq
  have HQ : Hid (q = true ↔ Sd t) := hq
  have HXS : Hid (∀ X, Below w.heap.size w X → GSeg 4 X b xs.length (saX xs)) := fun X hX => hb.below hX
  have HIN : Hid (∀ (x a b : Int) (X : World), Calls Tryz.prog 26 #[.int .i64 x, .int .i64 a, .int .i64 b] X fun e w' => e = .returned (.bool (inr x a b)) ∧ w' = X) := in_any
  have HWH : Hid (Sd t → ∀ c : Int, 0 ≤ c → c ≤ 50000 → ∀ X, Below w.heap.size w X → Calls Tryz.prog 27 #[tbV t a, .int .i64 c] X fun e w' => e = .returned (.tuple #[.int .i64 (phaseV t (c % t.maj)), .int .i64 (whoV t (c % t.maj))]) ∧ Below X.heap.size X w') := fun h c h1 h2 X hX => spec_who t a c X (hm.below hX) hw hs (sd_tm h) h1 (by omega)
  obtain ⟨v, HV⟩ : ∃ v : Int, Hid (blmV t xs = v) := ⟨_, rfl⟩
  rw [HV.out]
  clear hm hw hs hb hq
  go_enter Tryz.func19, Tryz.ntmps19
  go_wp2_with (first | (refine wpList_load_row rfl 41 (.tmp 2) rfl w.heap.size rfl 41 (tbA t a) (0, 0) _ (HX0.out) Tryz.underlying41 rfl (by kernel_rfl) ?_) | fail)
  refine Calls.mono HSD.out ?_
  rintro e w1 ⟨rfl, hb1⟩
  have HB1 : Hid (Below w.heap.size w w1) := HB0.out.trans (hb1.mono HB0.out.size)
  have HX1 : Hid (TBx w1 w.heap.size t a) := HX0.out.below hb1
  clear hb1 HB0 HX0 HSD
  cases q
  · have HT : Hid (v = -1) := by show _ = _; rw [← HV.out]; unfold blmV; rw [if_neg (fun h => by have := HQ.out.2 h.1; cases this)]
    clear HQ HXS HWH
    go_wp2
    go_ret
    exact ⟨by rw [HT.out]; rfl, HB1.out⟩
  have HSQ : Hid (Sd t) := HQ.out.1 rfl
  have HWH' : Hid _ := HWH.out HSQ.out
  clear HQ HWH
  by_cases h5 : xs.length ≤ 5000
  rotate_left
  · have HT : Hid (v = -1) := by show _ = _; rw [← HV.out]; unfold blmV; rw [if_neg (fun h => h5 h.2)]
    have hgt : (5000 : Int) < (xs.length : Int) := by omega
    have hgd : decide ((5000 : Int) < (xs.length : Int)) = true := decide_eq_true hgt
    generalize xs.length = n at *
    clear HXS h5
    go_wp2
    go_ret
    exact ⟨by rw [HT.out]; rfl, HB1.out⟩
  have hgt : ¬ ((5000 : Int) < (xs.length : Int)) := by omega
  have hgd : decide ((5000 : Int) < (xs.length : Int)) = false := decide_eq_false hgt
  have HL5 : Hid (xs.length ≤ 5000) := h5
  obtain ⟨n, hn⟩ : ∃ n, xs.length = n := ⟨_, rfl⟩
  have HN : Hid (xs.length = n) := hn
  rw [hn] at hgt hgd hx h5 HXS ⊢
  have HVE : Hid (blF t xs n = v) := by show _ = _; rw [← HV.out]; unfold blmV; rw [if_pos ⟨HSQ.out, HL5.out⟩, HN.out]
  clear hn HV
  go_wp2
  go_loopw [5] (fun i wr => ∃ m : Nat, m ≤ n ∧ i = .int .i64 m ∧ Hid (Below w.heap.size w wr) ∧ Hid (TBx wr w.heap.size t a) ∧ Hid (∀ j, j < m → spGood t (xs.getD j sa0))) (fun i _ => n - (intOf i).toNat)
  case atStart => exact ⟨0, by omega, rfl, HB1.out, HX1.out, fun j hj => by omega⟩
  case round =>
    clear HB1 HX1
    obtain ⟨m, hmn0, rfl, HBW, HXW, HGD⟩ := hrel
    by_cases hmn : m < n
    rotate_left
    · obtain rfl : m = n := by omega
      have HT : Hid (v = -1) := by show _ = _; rw [← HVE.out]; exact blF_none m HGD.out
      go_wp2
      go_ret
      exact ⟨by rw [HT.out]; rfl, HBW.out⟩
    have hmn' : (m : Int) < (n : Int) := by omega
    obtain ⟨b1, o1, rfl, hbl1, p1⟩ := (HXS.out _ HBW.out).at m hmn
    have HBAD : Hid (¬ spGood t (xs.getD m sa0) → (m : Int) = v) := fun h => by rw [← HVE.out]; exact (blF_at HGD.out h n hmn).symm
    have HGOOD : Hid (spGood t (xs.getD m sa0) → ∀ j, j < m + 1 → spGood t (xs.getD j sa0)) := fun h j hj => by
      by_cases e : j = m
      · subst e; exact h
      · exact HGD.out j (by omega)
    simp only [saX] at p1
    generalize xs.getD m sa0 = x at p1 HBAD HGOOD
    obtain ⟨c0, c1, c2, c3⟩ := sa_cells p1
    obtain ⟨x1, x2, x3, x4⟩ := x
    simp only at c0 c1 c2 c3
    have hal : Below wr.heap.size wr (wr.alloc (.cells #[.int .i64 x1, .int .i64 x2, .int .i64 x3, .int .i64 x4] 64)) := (Below.refl _ _).alloc (Nat.le_refl _) _
    have HBA : Hid (Below w.heap.size w (wr.alloc (.cells #[.int .i64 x1, .int .i64 x2, .int .i64 x3, .int .i64 x4] 64))) := HBW.out.trans (hal.mono HBW.out.size)
    have HXA : Hid (TBx (wr.alloc (.cells #[.int .i64 x1, .int .i64 x2, .int .i64 x3, .int .i64 x4] 64)) w.heap.size t a) := HXW.out.below hal
    have HSA : Hid ((wr.alloc (.cells #[.int .i64 x1, .int .i64 x2, .int .i64 x3, .int .i64 x4] 64)).heap[wr.heap.size]? = some (.cells #[.int .i64 x1, .int .i64 x2, .int .i64 x3, .int .i64 x4] 64 (0, 0))) := new_row wr _ _ _ rfl
    have HSZ : Hid (w.heap.size < wr.heap.size) := HXW.out.lt
    clear p1 hbl1 hal HBW HXW HGD
    by_cases h1 : 0 ≤ x1 ∧ x1 ≤ 50000
    rotate_left
    · have HT : Hid ((m : Int) = v) := HBAD.out (fun h => h1 ⟨h.1.1, by have := h.1; simp only at this; omega⟩)
      have k1 := inr_no h1
      clear h1 HBAD HGOOD
      go_wp2_with (first | (go_at_call 26; refine (HIN.out _ _ _ _).mono ?_; rintro u' w2 ⟨rfl, hww⟩; rw [hww, k1]; clear hww) | fail)
      go_ret
      exact ⟨by rw [← HT.out]; rfl, HBA.out⟩
    have k1 := inr_yes h1
    have hwa : IntKind.i64.wrap (x1 + 1) = x1 + 1 := by rw [IntKind.wrap_i64]; omega
    by_cases h2 : x1 + 1 ≤ x2 ∧ x2 ≤ 50000
    rotate_left
    · have HT : Hid ((m : Int) = v) := HBAD.out (fun h => h2 (by obtain ⟨⟨_, e2, e3⟩, _⟩ := h; exact ⟨Int.add_one_le_of_lt e2, e3⟩))
      have k2 := inr_no h2
      clear h1 h2 HBAD HGOOD
      go_wp2_with (first | (go_at_call 26; refine (HIN.out _ _ _ _).mono ?_; rintro u' w2 ⟨rfl, hww⟩; first | rw [hww, k1] | rw [hww, k2]; clear hww) | fail)
      go_ret
      exact ⟨by rw [← HT.out]; rfl, HBA.out⟩
    have k2 := inr_yes h2
    go_wp2_with (first | (go_at_call 26; refine (HIN.out _ _ _ _).mono ?_; rintro u' w2 ⟨rfl, hww⟩; first | rw [hww, k1] | rw [hww, k2]; clear hww) | fail)
    clear c0 c1 c2 c3 k1 k2
    revert HBA HXA HSA HSZ
    generalize wr.alloc (.cells #[.int .i64 x1, .int .i64 x2, .int .i64 x3, .int .i64 x4] 64) = wa
    generalize wr.heap.size = Nb
    intro HBA HXA HSA HSZ
    go_loopw [7] (fun i wr2 => ∃ c : Int, x1 ≤ c ∧ c ≤ x2 ∧ i = .int .i64 c ∧ Hid (Below w.heap.size w wr2) ∧ Hid (TBx wr2 w.heap.size t a) ∧ Hid (wr2.heap[Nb]? = some (.cells #[.int .i64 x1, .int .i64 x2, .int .i64 x3, .int .i64 x4] 64 (0, 0))) ∧ Hid (∀ d, x1 ≤ d → d < c → InP t x3 x4 d)) (fun i _ => (x2 - intOf i).toNat)
    case atStart => exact ⟨x1, by omega, by omega, rfl, HBA.out, HXA.out, HSA.out, fun d e1 e2 => by omega⟩
    case round =>
      clear HBA HXA HSA
      obtain ⟨c, hc1, hc2, rfl, HBC, HXC, HSC, HIC⟩ := hrel
      have cc1 : wr.cell? ⟨Nb, 1, none⟩ = some (.int .i64 x2) := row_cell HSC.out 1 _ rfl
      by_cases hcx : c < x2
      rotate_left
      · have HG2 : Hid (∀ j, j < m + 1 → spGood t (xs.getD j sa0)) := HGOOD.out ⟨⟨h1.1, by show x1 < x2; omega, h2.2⟩, fun d e1 e2 => HIC.out d e1 (by have : d < x2 := e2; omega)⟩
        clear HBAD HGOOD HIC h1 h2
        go_wp2
        go_roundw
        case rel => exact ⟨m + 1, by omega, by go_num, HBC.out, HXC.out, HG2.out⟩
        case measure => simp [intOf]; omega
      have hwc : IntKind.i64.wrap (c + 1) = c + 1 := by rw [IntKind.wrap_i64]; omega
      go_wp2_with (first | (refine wpList_load_row rfl 41 (.tmp 2) rfl w.heap.size rfl 41 (tbA t a) (0, 0) _ (HXC.out) Tryz.underlying41 rfl (by kernel_rfl) ?_) | fail)
      refine Calls.mono (HWH'.out c (by omega) (by omega) _ HBC.out) ?_
      rintro e w2 ⟨rfl, hb⟩
      have HB2 : Hid (Below w.heap.size w w2) := HBC.out.trans (hb.mono HBC.out.size)
      have HX2 : Hid (TBx w2 w.heap.size t a) := HXC.out.below hb
      have HS2 : Hid (w2.heap[Nb]? = some (.cells #[.int .i64 x1, .int .i64 x2, .int .i64 x3, .int .i64 x4] 64 (0, 0))) := row_below HSC.out hb
      have d2 : w2.cell? ⟨Nb, 2, none⟩ = some (.int .i64 x3) := row_cell HS2.out 2 _ rfl
      have d3 : w2.cell? ⟨Nb, 3, none⟩ = some (.int .i64 x4) := row_cell HS2.out 3 _ rfl
      obtain ⟨y4, HY4⟩ : ∃ y, Hid (phaseV t (c % t.maj) = y) := ⟨_, rfl⟩
      obtain ⟨y3, HY3⟩ : ∃ y, Hid (whoV t (c % t.maj) = y) := ⟨_, rfl⟩
      rw [HY4.out, HY3.out]
      have HC12 : Hid (x1 ≤ c ∧ c < x2) := ⟨hc1, hcx⟩
      clear hb HBC HXC HSC cc1
      by_cases hq : y4 = x4
      rotate_left
      · have HT : Hid ((m : Int) = v) := HBAD.out (fun h => hq (by rw [← HY4.out]; exact (h.2 c HC12.out.1 HC12.out.2).1))
        have hqb : (y4 != x4) = true := by simpa using hq
        clear HBAD HGOOD HIC hq
        go_wp2
        go_ret
        exact ⟨by rw [← HT.out]; rfl, HB2.out⟩
      by_cases hp : y3 = x3
      rotate_left
      · have HT : Hid ((m : Int) = v) := HBAD.out (fun h => hp (by rw [← HY3.out]; exact (h.2 c HC12.out.1 HC12.out.2).2))
        have hqb : (y4 != x4) = false := by simp [hq]
        have hpb : (y3 != x3) = true := by simpa using hp
        clear HBAD HGOOD HIC hp hq
        go_wp2
        go_ret
        exact ⟨by rw [← HT.out]; rfl, HB2.out⟩
      have hqb : (y4 != x4) = false := by simp [hq]
      have hpb : (y3 != x3) = false := by simp [hp]
      have HIC2 : Hid (∀ d, x1 ≤ d → d < c + 1 → InP t x3 x4 d) := fun d e1 e2 => by
        by_cases e : d = c
        · rw [e]; exact ⟨by rw [HY4.out]; exact hq, by rw [HY3.out]; exact hp⟩
        · exact HIC.out d e1 (by omega)
      clear hp hq HIC
      go_wp2
      go_roundw
      case rel => exact ⟨c + 1, by omega, by omega, rfl, HB2.out, HX2.out, HS2.out, HIC2.out⟩
      case measure => simp [intOf]; omega
end Go.Proofs.YtphdijkpjjokaaaGreatDoor
