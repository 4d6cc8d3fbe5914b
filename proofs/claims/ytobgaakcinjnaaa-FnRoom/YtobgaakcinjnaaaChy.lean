
/-
  What the program's Border is made of: whether two ends meet, what may be read behind a border, what the sender is told. Conditions: the words read as words, at most 1048576 of either.
-/
import Derived.Test.YtobgaakcinjnaaaProg
import Derived.Test.YtobgaakcinjnaaaChp
import Derived.Test.YtobgaakcinjnaaaChb
namespace Go.Proofs.Ytobgaakcinjnaaa
open Go.ChangeShapes Go.WideShapes Go.ChangeAt Go.RowKit Go.Deep
set_option linter.unusedVariables false

theorem borOk_eq (k f t d h n m : Int) : borOk k f t d h n m = (outOk k f t d h n && (inOk k f t d m && (!(k == 1) || decide (m ≤ h)))) := by
  unfold borOk
  rw [Bool.and_assoc]
  congr 2
  cases (k == 1)
  · rfl
  · by_cases g : m ≤ h
    · simp [g]
    · simp [g]; omega
set_option maxHeartbeats 2000000 in
theorem impl_meets (k f t d h : Int) (a : Option Addr) (n c : Nat) (ar : Option Addr) (m cr : Nat) (q : Bool) (w : World) (HQ : Hid (borOk k f t d h (n : Int) (m : Int) = q)) (hn : n ≤ 1048576) :
    Calls Try.prog 29 #[ssd k f t d h a n c, rsd k f t d ar m cr] w fun e w' => e = .returned (.bool q) ∧ Below w.heap.size w w' := by
  have HB : Hid (Below w.heap.size w ((w.alloc (.cells (ssr k f t d h a n c) 52)).alloc (.cells (rsr k f t d ar m cr) 62))) := ((Below.refl _ w).alloc (Nat.le_refl _) _).alloc (by simp) _
  have HK : Hid (Bk ((w.alloc (.cells (ssr k f t d h a n c) 52)).alloc (.cells (rsr k f t d ar m cr) 62)) w.heap.size (ssr k f t d h a n c) ∧ Bk ((w.alloc (.cells (ssr k f t d h a n c) 52)).alloc (.cells (rsr k f t d ar m cr) 62)) (w.heap.size + 1) (rsr k f t d ar m cr)) := ⟨(Bk.new w _ _ _ rfl).alloc _, Bk.new _ _ _ _ (by simp)⟩
  obtain ⟨q1, HQ1⟩ : ∃ q, Hid (outOk k f t d h (n : Int) = q) := ⟨_, rfl⟩
  obtain ⟨q2, HQ2⟩ : ∃ q, Hid (inOk k f t d (m : Int) = q) := ⟨_, rfl⟩
  obtain ⟨qk, HQK⟩ : ∃ q, Hid ((k == 1) = q) := ⟨_, rfl⟩
  have HE : Hid ((q1 && (q2 && (!qk || decide ((m : Int) ≤ h)))) = q) := by rw [← HQ.out, borOk_eq, HQ1.out, HQ2.out, HQK.out]; exact rfl
  clear HQ
  go_enter Try.func29, Try.ntmps29
  go_wp2_with fail
  refine (impl_ssound k f t d h a n c q1 _ HQ1 hn).mono ?_
  rintro x w1 ⟨rfl, hb1⟩
  have HB1 : Hid (Below w.heap.size w w1) := HB.out.trans (hb1.mono HB.out.size)
  have K1 : Hid (Bk w1 w.heap.size (ssr k f t d h a n c) ∧ Bk w1 (w.heap.size + 1) (rsr k f t d ar m cr)) := ⟨HK.out.1.below hb1, HK.out.2.below hb1⟩
  clear hb1 HB HK HQ1
  cases q1
  · have e : q = false := by rw [← HE.out]; rfl
    subst e
    go_wp2
    go_ret
    exact ⟨rfl, HB1.out⟩
  have d0 := K1.out.2.cell 0 _ rfl
  have d1 := K1.out.2.cell 1 _ rfl
  have d2 := K1.out.2.cell 2 _ rfl
  have d3 := K1.out.2.cell 3 _ rfl
  have d4 := K1.out.2.cell 4 _ rfl
  go_wp2_with fail
  refine (impl_rsound k f t d ar m cr q2 _ HQ2).mono ?_
  rintro x w2 ⟨rfl, hb2⟩
  have HB2 : Hid (Below w.heap.size w w2) := HB1.out.trans (hb2.mono HB1.out.size)
  have K2 : Hid (Bk w2 w.heap.size (ssr k f t d h a n c) ∧ Bk w2 (w.heap.size + 1) (rsr k f t d ar m cr)) := ⟨K1.out.1.below hb2, K1.out.2.below hb2⟩
  clear hb2 HB1 K1 HQ2 d0 d1 d2 d3 d4
  cases q2
  · have e : q = false := by rw [← HE.out]; rfl
    subst e
    go_wp2
    go_ret
    exact ⟨rfl, HB2.out⟩
  have c0 := K2.out.1.cell 0 _ rfl
  have c1 := K2.out.1.cell 1 _ rfl
  have c2 := K2.out.1.cell 2 _ rfl
  have c3 := K2.out.1.cell 3 _ rfl
  go_wp2_with fail
  refine (impl_queues k f t d qk _ HQK.out).mono ?_
  rintro x w3 ⟨rfl, hb3⟩
  have HB3 : Hid (Below w.heap.size w w3) := HB2.out.trans (hb3.mono HB2.out.size)
  have K3 : Hid (Bk w3 w.heap.size (ssr k f t d h a n c) ∧ Bk w3 (w.heap.size + 1) (rsr k f t d ar m cr)) := ⟨K2.out.1.below hb3, K2.out.2.below hb3⟩
  clear hb3 HB2 K2 HQK c0 c1 c2 c3
  have c4 := K3.out.1.cell 4 _ rfl
  have d4 := K3.out.2.cell 4 _ rfl
  cases qk
  · have e : q = true := by rw [← HE.out]; rfl
    subst e
    go_wp2
    go_ret
    exact ⟨rfl, HB3.out⟩
  · have HT : Hid (decide ((m : Int) ≤ h) = q) := by rw [← HE.out]; exact rfl
    clear HE
    go_wp2
    go_ret
    exact ⟨ret_boolc HT.out, HB3.out⟩
/-- What may be read behind a border. -/
def behF (k : Int) (zs rs : List Int) : List Int := if k = 1 then rs ++ zs else if 0 < zs.length then zs else rs
set_option maxHeartbeats 2000000 in
theorem impl_behind (k f t d : Int) (a : Option Addr) (n c : Nat) (ar : Option Addr) (m cr : Nat) (zs rs : List Int) (bs : List Int) (bl : Nat) (w : World) (hs : Seg .u32 w a zs) (hl : zs.length = n) (hn : n ≤ 1048576) (hsr : Seg .u32 w ar rs) (hlr : rs.length = m) (hm : m ≤ 1048576) (HBS : Hid (behF k zs rs = bs)) (HBL : Hid (bs.length = bl)) :
    Calls Try.prog 30 #[rsd k f t d ar m cr, .slice a n c] w fun e w' => ∃ g, e = .returned (.slice (some ⟨g, 0, none⟩) bl bl) ∧ Below w.heap.size w w' ∧ OwnU w' w.heap.size (.slice (some ⟨g, 0, none⟩) bl bl) bs := by
  have HB : Hid (Below w.heap.size w (w.alloc (.cells (rsr k f t d ar m cr) 62))) := (Below.refl _ w).alloc (Nat.le_refl _) _
  have HK : Hid (Bk (w.alloc (.cells (rsr k f t d ar m cr) 62)) w.heap.size (rsr k f t d ar m cr)) := Bk.new w _ _ _ rfl
  have HS : Hid (Seg .u32 w a zs) := hs
  have HSr : Hid (Seg .u32 w ar rs) := hsr
  have HL : Hid (zs.length = n) := hl
  have HLR : Hid (rs.length = m) := hlr
  clear hs hsr hl hlr
  obtain ⟨qk, HQK⟩ : ∃ q, Hid ((k == 1) = q) := ⟨_, rfl⟩
  go_enter Try.func30, Try.ntmps30
  go_wp2_with fail
  refine (impl_queues k f t d qk _ HQK.out).mono ?_
  rintro x w1 ⟨rfl, hb1⟩
  have HB1 : Hid (Below w.heap.size w w1) := HB.out.trans (hb1.mono HB.out.size)
  have K1 : Hid (Bk w1 w.heap.size (rsr k f t d ar m cr)) := HK.out.below hb1
  clear hb1 HB HK
  have d4 := K1.out.cell 4 _ rfl
  have hzw := HB1.out.size
  cases qk
  · have hk : ¬ k = 1 := by simpa using HQK.out
    have HBS2 : Hid ((if 0 < zs.length then zs else rs) = bs) := by rw [← HBS.out]; unfold behF; rw [if_neg hk]; exact rfl
    clear HQK HBS hk
    by_cases h0 : (0 : Int) < (n : Int)
    · have e : zs = bs := by rw [← HBS2.out, if_pos (by rw [HL.out]; omega)]
      have e2 : n = bl := by rw [← HBL.out, ← e, HL.out]
      subst e e2
      go_wp2_with fail
      refine (impl_copied a n c zs _ (HS.out.below HB1.out) HL.out hn).mono ?_
      rintro y w2 ⟨g, rfl, hb2, ho2⟩
      have HB2 : Hid (Below w.heap.size w w2) := HB1.out.trans (hb2.mono HB1.out.size)
      have HO2 : Hid (OwnU w2 w.heap.size (.slice (some ⟨g, 0, none⟩) n n) zs) := OwnU.low ho2 hzw
      clear hb2 ho2
      go_wp2
      go_ret
      exact ⟨_, rfl, HB2.out, HO2.out⟩
    · have e : rs = bs := by rw [← HBS2.out, if_neg (by rw [HL.out]; omega)]
      have e2 : m = bl := by rw [← HBL.out, ← e, HLR.out]
      subst e e2
      go_wp2_with fail
      refine (impl_copied ar m cr rs _ (HSr.out.below HB1.out) HLR.out hm).mono ?_
      rintro y w2 ⟨g, rfl, hb2, ho2⟩
      have HB2 : Hid (Below w.heap.size w w2) := HB1.out.trans (hb2.mono HB1.out.size)
      have HO2 : Hid (OwnU w2 w.heap.size (.slice (some ⟨g, 0, none⟩) m m) rs) := OwnU.low ho2 hzw
      clear hb2 ho2
      go_wp2
      go_ret
      exact ⟨_, rfl, HB2.out, HO2.out⟩
  · have hk : k = 1 := by simpa using HQK.out
    have e : rs ++ zs = bs := by rw [← HBS.out]; unfold behF; rw [if_pos hk]
    have e2 : m + n = bl := by rw [← HBL.out, ← e]; simp [HL.out, HLR.out]
    have E2 : Hid (m + n = bl) := e2
    subst e
    clear HQK HBS hk e2
    go_wp2_with fail
    refine (impl_joined ar m cr a n c rs zs _ (HSr.out.below HB1.out) HLR.out hm (HS.out.below HB1.out) HL.out hn).mono ?_
    rw [E2.out]
    rintro y w2 ⟨g, rfl, hb2, ho2⟩
    have HB2 : Hid (Below w.heap.size w w2) := HB1.out.trans (hb2.mono HB1.out.size)
    have HO2 : Hid (OwnU w2 w.heap.size (.slice (some ⟨g, 0, none⟩) bl bl) (rs ++ zs)) := OwnU.low ho2 hzw
    clear hb2 ho2
    go_wp2
    go_ret
    exact ⟨_, rfl, HB2.out, HO2.out⟩
set_option maxHeartbeats 1000000 in
theorem impl_heldas (k f t d : Int) (a : Option Addr) (n c : Nat) (r : Int) (w : World) (HR : Hid ((if k = 1 then (n : Int) else 0) = r)) :
    Calls Try.prog 31 #[crw k f t d, .slice a n c] w fun e w' => e = .returned (.int .i64 r) ∧ Below w.heap.size w w' := by
  have HB : Hid (Below w.heap.size w (w.alloc (.cells (crow k f t d) 50))) := (Below.refl _ w).alloc (Nat.le_refl _) _
  obtain ⟨q, HQ⟩ : ∃ q, Hid ((k == 1) = q) := ⟨_, rfl⟩
  go_enter Try.func31, Try.ntmps31
  go_wp2_with fail
  refine (impl_queues k f t d q _ HQ.out).mono ?_
  rintro x w1 ⟨rfl, hb1⟩
  have HB1 : Hid (Below w.heap.size w w1) := HB.out.trans (hb1.mono HB.out.size)
  clear hb1 HB
  cases q
  · have hk : ¬ k = 1 := by simpa using HQ.out
    have e : r = 0 := by rw [← HR.out]; exact if_neg hk
    subst e
    clear HQ hk
    go_wp2
    go_ret
    exact ⟨rfl, HB1.out⟩
  · have hk : k = 1 := by simpa using HQ.out
    have e : r = (n : Int) := by rw [← HR.out]; exact if_pos hk
    subst e
    clear HQ hk
    go_wp2
    go_ret
    exact ⟨rfl, HB1.out⟩
end Go.Proofs.Ytobgaakcinjnaaa
