
/-
  The specification's DevOpen: what the plain function says, in memory of its own. Conditions: the words read as words, at most 1048576 of them, within the capacity.
-/
import Derived.Test.YthfmggfohegpnaaRows
import Derived.Test.YthfmggfohegpnaaDvt
import Derived.Deep.RegionLaw
namespace Go.Proofs.Ythfmggfohegpnaa
open Go.ChangeShapes Go.WideShapes Go.ChangeAt Go.RowKit Go.Deep
set_option linter.unusedVariables false

/-- How long the slice in a cell is. -/
def lenAt (w : World) (p : Addr) : Nat := match w.cell? p with | some (.slice _ n _) => n | _ => 0
theorem lenAt_of {w : World} {p : Addr} {a : Option Addr} {n c : Nat} (h : w.cell? p = some (.slice a n c)) : lenAt w p = n := by unfold lenAt; rw [h]
/-- DevOpen's copy of the device: its two lists. -/
structure OpM (w wr : World) (base B2 : Nat) (ls ms : List Int) (g1 N1 c1 g2 M1 c2 : Nat) : Prop where
  gb : Below w.heap.size w wr
  rz : Bk wr (w.heap.size + 1) (dsr none 0 0 none 0 0)
  row : Bk wr B2 (dsr (some ⟨g1, 0, none⟩) N1 c1 (some ⟨g2, 0, none⟩) M1 c2)
  two : TwoU wr base g1 N1 c1 g2 M1 c2 ls ms
  n1 : g1 ≠ B2
  n2 : g2 ≠ B2
  lo : w.heap.size + 2 ≤ base
  lB : base ≤ B2
theorem OpM.below {w wr w' : World} {base B2 : Nat} {ls ms : List Int} {g1 N1 c1 g2 M1 c2 : Nat} (h : OpM w wr base B2 ls ms g1 N1 c1 g2 M1 c2) (hb : Below wr.heap.size wr w') : OpM w w' base B2 ls ms g1 N1 c1 g2 M1 c2 :=
  ⟨h.gb.trans (hb.mono h.gb.size), h.rz.below hb, h.row.below hb, h.two.below hb, h.n1, h.n2, h.lo, h.lB⟩
theorem OpM.push {w Y w9 : World} {base B2 : Nat} {ls ms : List Int} {g1 N1 c1 g2 M1 c2 gg cap9 : Nat} {z : Int} (h : OpM w Y base B2 ls ms g1 N1 c1 g2 M1 c2)
    (ho : OwnU w9 base (.slice (some ⟨gg, 0, none⟩) (M1 + 1) cap9) (ms ++ [z])) (hg : Y.grownBy w9 (Value.slice (some ⟨g2, 0, none⟩) M1 c2).ownBlock)
    (hown : (Value.slice (some ⟨gg, 0, none⟩) (M1 + 1) cap9).ownBlock = (Value.slice (some ⟨g2, 0, none⟩) M1 c2).ownBlock ∨ (Value.slice (some ⟨gg, 0, none⟩) (M1 + 1) cap9).ownBlock = some Y.heap.size) :
    Bk w9 B2 (dsr (some ⟨g1, 0, none⟩) N1 c1 (some ⟨g2, 0, none⟩) M1 c2) ∧ OpM w (w9.setCell ⟨B2, 1, none⟩ (.slice (some ⟨gg, 0, none⟩) (M1 + 1) cap9)) base B2 ls (ms ++ [z]) g1 N1 c1 gg (M1 + 1) cap9 := by
  have h1 := h.two.o1.blk_lt
  have h2 := h.two.o2.blk_lt
  have hn := h.two.ne
  have hn1 := h.n1
  have hn2 := h.n2
  have hlo := h.lo
  have hlB := h.lB
  have hBl := h.row.lt
  have hcs := own_or hown
  have hrow : Bk w9 B2 (dsr (some ⟨g1, 0, none⟩) N1 c1 (some ⟨g2, 0, none⟩) M1 c2) := h.row.grownN hg (fun g e => by have := own_eq e; omega)
  have hb9 : Below w.heap.size w w9 := Below.grown h.gb hg h.gb.size (fun g e => by have := own_eq e; omega)
  have hbt : Betw B2 (B2 + 1) w9 (w9.setCell ⟨B2, 1, none⟩ (.slice (some ⟨gg, 0, none⟩) (M1 + 1) cap9)) := (Betw.refl _ _ w9).setCell (p := ⟨B2, 1, none⟩) (Nat.le_refl _) (by simp) _
  have ho1 := h.two.o1.kept hg (fun g e e2 => by have := own_eq e; have := own_eq e2; omega)
  exact ⟨hrow, hb9.trans (hbt.below (by omega) hb9.size), (h.rz.grownN hg (fun g e => by have := own_eq e; omega)).betw hbt (by omega), hrow.set 1 _ (by simp) rfl, ⟨ho1.betw hbt (by omega), ho.betw hbt (by omega), by omega⟩, hn1, by omega, hlo, hlB⟩
theorem OpM.drop1 {w X w9 : World} {base B2 : Nat} {ls ls' ms : List Int} {g1 N1 c1 g2 M1 c2 g3 N3 c3 : Nat} (h : OpM w X base B2 ls ms g1 N1 c1 g2 M1 c2)
    (hb : Below X.heap.size X w9) (ho : OwnU w9 X.heap.size (.slice (some ⟨g3, 0, none⟩) N3 c3) ls') :
    Bk w9 B2 (dsr (some ⟨g1, 0, none⟩) N1 c1 (some ⟨g2, 0, none⟩) M1 c2) ∧ OpM w (w9.setCell ⟨B2, 0, none⟩ (.slice (some ⟨g3, 0, none⟩) N3 c3)) base B2 ls' ms g3 N3 c3 g2 M1 c2 := by
  have h3 := ho.blk_lt
  have h2 := h.two.o2.blk_lt
  have hn2 := h.n2
  have hlo := h.lo
  have hlB := h.lB
  have hBl := h.row.lt
  have hrow := h.row.below hb
  have hb9 : Below w.heap.size w w9 := h.gb.trans (hb.mono h.gb.size)
  have hbt : Betw B2 (B2 + 1) w9 (w9.setCell ⟨B2, 0, none⟩ (.slice (some ⟨g3, 0, none⟩) N3 c3)) := (Betw.refl _ _ w9).setCell (p := ⟨B2, 0, none⟩) (Nat.le_refl _) (by simp) _
  exact ⟨hrow, hb9.trans (hbt.below (by omega) hb9.size), (h.rz.below hb).betw hbt (by omega), hrow.set 0 _ (by simp) rfl, ⟨(ho.low (by omega)).betw hbt (by omega), (h.two.o2.below hb).betw hbt (by omega), by omega⟩, by omega, hn2, hlo, hlB⟩
theorem OpM.nums {w wr : World} {base B2 : Nat} {ls ms : List Int} {g1 N1 c1 g2 M1 c2 : Nat} (h : OpM w wr base B2 ls ms g1 N1 c1 g2 M1 c2) : N1 = ls.length ∧ M1 = ms.length ∧ N1 ≤ c1 ∧ M1 ≤ c2 ∧ base ≤ g1 ∧ base ≤ g2 ∧ g1 < wr.heap.size ∧ g2 < wr.heap.size ∧ B2 < wr.heap.size ∧ g1 ≠ g2 := by
  have h1 := h.two.o1.blk_lt
  have h2 := h.two.o2.blk_lt
  have h3 := h.row.lt
  exact ⟨by omega, by omega, by omega, by omega, by omega, by omega, by omega, by omega, h3, h.two.ne⟩
theorem drop_next (zs : List Int) (j n : Nat) (hl : zs.length = n) (hj : j < n) : (zs.drop j).getD 0 0 = zs.getD j 0 ∧ (zs.drop j).drop 1 = zs.drop (j + 1) := by
  refine ⟨by simp [List.getD], by simp⟩
theorem take_next (zs ys : List Int) (j n : Nat) (hl : zs.length = n) (hj : j < n) : (ys ++ zs.take j) ++ [zs.getD j 0] = ys ++ zs.take (j + 1) := by
  rw [take_getD zs j (by omega), List.append_assoc]
theorem own_zero {w : World} {base g n c : Nat} {zs : List Int} (h : OwnU w base (.slice (some ⟨g, 0, none⟩) n c) zs) (h0 : 0 < zs.length) : w.cell? ⟨g, 0, none⟩ = some (.int .u32 (zs.getD 0 0)) := by
  obtain ⟨off, eo, _, _, _, hc, _⟩ := h.onu h0
  have := hc 0 h0
  injection eo with eo
  injection eo with _ eo
  subst eo
  rwa [Nat.add_zero] at this
set_option maxRecDepth 20000 in
set_option maxHeartbeats 2000000 in
theorem spec_opn (a : Option Addr) (n c : Nat) (b : Option Addr) (m d : Nat) (zs ys : List Int) (w : World) (hs : Seg .u32 w a zs) (hl : zs.length = n) (hn : n ≤ 1048576) (hc : n ≤ c) (ht : Seg .u32 w b ys) (hlm : ys.length = m) (hm : m ≤ 1048576) (hd : m ≤ d) (ls ms : List Int) (q : Bool) (HQ : Hid (opnF zs ys = (ls, ms, q))) :
    Calls Try.prog 18 #[dst a n c b m d] w fun e w' => ∃ a' c' b' d', e = .returned (.tuple #[dst a' ls.length c' b' ms.length d', .bool q]) ∧ Below w.heap.size w w' ∧ DE w' w.heap.size w'.heap.size a' ls b' ms ∧ ls.length ≤ c' ∧ ms.length ≤ d' := by
  have HB : Hid (Below w.heap.size w ((w.alloc (.cells (dsr a n c b m d) 27)).alloc (.cells (dsr none 0 0 none 0 0) 27))) := ((Below.refl _ w).alloc (Nat.le_refl _) _).alloc (by simp) _
  have HK : Hid (Bk ((w.alloc (.cells (dsr a n c b m d) 27)).alloc (.cells (dsr none 0 0 none 0 0) 27)) w.heap.size (dsr a n c b m d) ∧ Bk ((w.alloc (.cells (dsr a n c b m d) 27)).alloc (.cells (dsr none 0 0 none 0 0) 27)) (w.heap.size + 1) (dsr none 0 0 none 0 0)) := ⟨(Bk.new w _ _ _ rfl).alloc _, Bk.new _ _ _ _ (by simp)⟩
  have HS : Hid (Seg .u32 w a zs) := hs
  have HT : Hid (Seg .u32 w b ys) := ht
  have HL : Hid (zs.length = n) := hl
  have HM : Hid (ys.length = m) := hlm
  clear hs hl ht hlm
  obtain ⟨q0, HOK⟩ : ∃ q, Hid (dvOk n m = q) := ⟨_, rfl⟩
  have HE0 : Hid (q0 = false → ls = [] ∧ ms = [] ∧ q = false) := fun e => by
    have g := HQ.out
    unfold opnF at g
    rw [HL.out, HM.out, HOK.out, e, if_neg (by decide)] at g
    simp only [Prod.mk.injEq] at g
    exact ⟨g.1.symm, g.2.1.symm, g.2.2.symm⟩
  obtain ⟨K, HK9⟩ : ∃ K, Hid (min n (8 - m) = K) := ⟨_, rfl⟩
  have HE1 : Hid (q0 = true → ls = zs.drop K ∧ ms = ys ++ zs.take K ∧ q = decide (0 < K)) := fun e => by
    have g := HQ.out
    unfold opnF goes at g
    rw [HL.out, HM.out, HOK.out, if_pos e, HK9.out] at g
    simp only [Prod.mk.injEq] at g
    exact ⟨g.1.symm, g.2.1.symm, g.2.2.symm⟩
  have hKm : K ≤ n ∧ K ≤ 8 - m ∧ (n ≤ K ∨ 8 - m ≤ K) := by have := HK9.out; omega
  have OK : Hid (∀ X, Calls Try.prog 10 #[dst a n c b m d] X fun e w' => e = .returned (.bool q0) ∧ Below X.heap.size X w') := fun X => by rw [← HOK.out]; exact spec_dok a n c b m d X
  have HO8 : Hid (q0 = true → n ≤ 8 ∧ m ≤ 8) := fun e => by have g := HOK.out.trans e; simp [dvOk] at g; exact g
  have CP : Hid (∀ X, Below w.heap.size w X → Calls Try.prog 36 #[dst a n c b m d] X fun e w' => ∃ g1 c1 g2 c2, e = .returned (dst (some ⟨g1, 0, none⟩) n c1 (some ⟨g2, 0, none⟩) m c2) ∧ Below X.heap.size X w' ∧ TwoU w' X.heap.size g1 n c1 g2 m c2 zs ys) := fun X hX => spec_copy a n c b m d zs ys X (HS.out.below hX) HL.out hn (HT.out.below hX) HM.out hm
  clear HOK HQ HK9
  go_enter Try.func18, Try.ntmps18
  go_wp2_with fail
  refine (OK.out _).mono ?_
  rintro u w1 ⟨rfl, hb1⟩
  have HB1 : Hid (Below w.heap.size w w1) := HB.out.trans (hb1.mono HB.out.size)
  have K1 : Hid (Bk w1 w.heap.size (dsr a n c b m d) ∧ Bk w1 (w.heap.size + 1) (dsr none 0 0 none 0 0)) := ⟨HK.out.1.below hb1, HK.out.2.below hb1⟩
  have hz1 : w.heap.size + 2 ≤ w1.heap.size := by have := K1.out.2.lt; omega
  clear HB HK hb1 OK
  cases q0
  · obtain ⟨rfl, rfl, rfl⟩ := HE0.out (by first | rfl | trivial)
    have K1z := K1.out.2
    have z0 := K1z.cell 0 _ rfl
    have z1 := K1z.cell 1 _ rfl
    have zf := K1z.free
    have ht9 : Betw (w.heap.size + 1) (w.heap.size + 2) w1 ((w1.setCell ⟨w.heap.size + 1, 0, none⟩ (.slice none 0 0)).setCell ⟨w.heap.size + 1, 1, none⟩ (.slice none 0 0)) := ((Betw.refl _ _ w1).setCell (p := ⟨w.heap.size + 1, 0, none⟩) (Nat.le_refl _) (by simp) _).setCell (p := ⟨w.heap.size + 1, 1, none⟩) (Nat.le_refl _) (by simp) _
    have k9 : Bk ((w1.setCell ⟨w.heap.size + 1, 0, none⟩ (.slice none 0 0)).setCell ⟨w.heap.size + 1, 1, none⟩ (.slice none 0 0)) (w.heap.size + 1) (dsr none 0 0 none 0 0) := (K1z.set 0 (.slice none 0 0) (by simp) (cs' := dsr none 0 0 none 0 0) rfl).set 1 (.slice none 0 0) (by simp) rfl
    have hb9 := HB1.out.trans (ht9.below (B := w.heap.size) (by omega) HB1.out.size)
    have ho9 : DE ((w1.setCell ⟨w.heap.size + 1, 0, none⟩ (.slice none 0 0)).setCell ⟨w.heap.size + 1, 1, none⟩ (.slice none 0 0)) w.heap.size ((w1.setCell ⟨w.heap.size + 1, 0, none⟩ (.slice none 0 0)).setCell ⟨w.heap.size + 1, 1, none⟩ (.slice none 0 0)).heap.size none [] none [] := DE.nil _ _ _ _ _
    go_wp2
    clear ht9 z0 z1 zf K1z
    revert k9 hb9 ho9
    generalize ((w1.setCell ⟨w.heap.size + 1, 0, none⟩ (.slice none 0 0)).setCell ⟨w.heap.size + 1, 1, none⟩ (.slice none 0 0)) = Wf
    intro k9 hb9 ho9
    have q0 := k9.cell 0 _ rfl
    have q1 := k9.cell 1 _ rfl
    exact bodyPost_ret (v := .tuple #[dst none 0 0 none 0 0, .bool false]) (by simp [results, Try.results18, go_sem, q0, q1]) rfl ⟨_, _, _, _, rfl, hb9, ho9, Nat.le_refl _, Nat.le_refl _⟩
  obtain ⟨hn8, hm8⟩ := HO8.out (by first | rfl | trivial)
  have HEE : Hid (ls = zs.drop K ∧ ms = ys ++ zs.take K ∧ q = decide (0 < K)) := HE1.out (by first | rfl | trivial)
  clear HE0 HE1 HO8
  have c0 := K1.out.1.cell 0 _ rfl
  have c1 := K1.out.1.cell 1 _ rfl
  go_wp2_with fail
  refine (CP.out _ HB1.out).mono ?_
  rintro u w2 ⟨g1, c1', g2, c2', rfl, hb2, ho2⟩
  clear c0 c1
  have hz2 := hb2.size
  have hg1 := ho2.o1.blk_lt
  have hg2 := ho2.o2.blk_lt
  have hal : Below w2.heap.size w2 (w2.alloc (.cells (dsr (some ⟨g1, 0, none⟩) n c1' (some ⟨g2, 0, none⟩) m c2') 27)) := (Below.refl _ _).alloc (Nat.le_refl _) _
  have hb2' := hb2.trans (hal.mono hb2.size)
  have HB2 : Hid (Below w.heap.size w (w2.alloc (.cells (dsr (some ⟨g1, 0, none⟩) n c1' (some ⟨g2, 0, none⟩) m c2') 27))) := HB1.out.trans (hb2'.mono HB1.out.size)
  have K2 : Hid (Bk (w2.alloc (.cells (dsr (some ⟨g1, 0, none⟩) n c1' (some ⟨g2, 0, none⟩) m c2') 27)) w.heap.size (dsr a n c b m d) ∧ Bk (w2.alloc (.cells (dsr (some ⟨g1, 0, none⟩) n c1' (some ⟨g2, 0, none⟩) m c2') 27)) (w.heap.size + 1) (dsr none 0 0 none 0 0) ∧ Bk (w2.alloc (.cells (dsr (some ⟨g1, 0, none⟩) n c1' (some ⟨g2, 0, none⟩) m c2') 27)) w2.heap.size (dsr (some ⟨g1, 0, none⟩) n c1' (some ⟨g2, 0, none⟩) m c2')) := ⟨K1.out.1.below hb2', K1.out.2.below hb2', Bk.new _ _ _ _ rfl⟩
  have HO2 : Hid (TwoU (w2.alloc (.cells (dsr (some ⟨g1, 0, none⟩) n c1' (some ⟨g2, 0, none⟩) m c2') 27)) w1.heap.size g1 n c1' g2 m c2' zs ys) := ho2.below hal
  have hv2 : w2.heap.size + 1 ≤ (w2.alloc (.cells (dsr (some ⟨g1, 0, none⟩) n c1' (some ⟨g2, 0, none⟩) m c2') 27)).heap.size := by simp
  clear hal hb2 hb2' ho2 HB1 K1 CP
  have HJ0 : Hid (OpM w (w2.alloc (.cells (dsr (some ⟨g1, 0, none⟩) n c1' (some ⟨g2, 0, none⟩) m c2') 27)) w1.heap.size w2.heap.size (zs.drop 0) (ys ++ zs.take 0) g1 n c1' g2 m c2') := ⟨HB2.out, K2.out.2.1, K2.out.2.2, by simpa using HO2.out, by omega, by omega, hz1, hz2⟩
  clear HB2 K2 HO2 hg1 hg2 hv2
  go_wp2
  revert HJ0
  generalize (w2.alloc (.cells (dsr (some ⟨g1, 0, none⟩) n c1' (some ⟨g2, 0, none⟩) m c2') 27)) = V
  generalize w2.heap.size = B2
  generalize w1.heap.size = base
  intro HJ0
  go_loopw [5] (fun mv wr => ∃ j : Nat, j ≤ K ∧ mv = .bool (decide (0 < j)) ∧ Hid (∃ g1 N1 c1 g2 M1 c2, OpM w wr base B2 (zs.drop j) (ys ++ zs.take j) g1 N1 c1 g2 M1 c2)) (fun _ wr => lenAt wr ⟨B2, 0, none⟩)
  case atStart => exact ⟨0, by omega, rfl, _, _, _, _, _, _, HJ0.out⟩
  case round =>
    obtain ⟨j, hj, rfl, HR⟩ := hrel
    obtain ⟨g1, N1, c1, g2, M1, c2, hr⟩ := HR.out
    clear HR HJ0
    have HJ : Hid (OpM w wr base B2 (zs.drop j) (ys ++ zs.take j) g1 N1 c1 g2 M1 c2) := hr
    obtain ⟨e1, e2, hc1, hc2, hb1, hb2, hl1, hl2, hl3, hne⟩ := HJ.out.nums
    have hN1 : N1 + j = n := by have := HL.out; simp at e1; omega
    have hM1 : M1 = m + j := by have := HL.out; have := HM.out; simp at e2; omega
    have E12 : Hid (N1 + j = n ∧ M1 = m + j) := ⟨hN1, hM1⟩
    have y0 := HJ.out.row.cell 0 _ rfl
    have y1 := HJ.out.row.cell 1 _ rfl
    have hlen := lenAt_of y0
    have HLEN : Hid (lenAt wr ⟨B2, 0, none⟩ = N1) := hlen
    clear hr hlen e1 e2
    by_cases hgo : j < K
    · have hM : (M1 : Int) < 8 := by omega
      have hN : (0 : Int) < (N1 : Int) := by omega
      have hN0 : 0 < N1 := by omega
      have hM0 : M1 < 8 := by omega
      have HLJ : Hid (zs.length = n ∧ j < n ∧ m ≤ 8) := ⟨HL.out, by omega, hm8⟩
      clear hN1 hM1
      obtain ⟨z, HZ⟩ : ∃ z, Hid (zs.getD j 0 = z) := ⟨_, rfl⟩
      have hz : wr.cell? ⟨g1, 0, none⟩ = some (.int .u32 z) := by rw [own_zero HJ.out.two.o1 (by have := HLJ.out; simp; omega), (drop_next zs j n HLJ.out.1 HLJ.out.2.1).1, HZ.out]
      have yf := HJ.out.row.free
      have hal : Below wr.heap.size wr (wr.alloc (.cells #[.int .u32 z] 31)) := (Below.refl _ _).alloc (Nat.le_refl _) _
      have HYJ : Hid (OpM w (wr.alloc (.cells #[.int .u32 z] 31)) base B2 (zs.drop j) (ys ++ zs.take j) g1 N1 c1 g2 M1 c2) := HJ.out.below hal
      have ya1 := kept_c hal y1
      have HYS : Hid (Seg .u32 (wr.alloc (.cells #[.int .u32 z] 31)) (some ⟨wr.heap.size, 0, none⟩) [z]) := fun _ => ⟨wr.heap.size, 0, rfl, by simp, fun i hi => by simp at hi; subst hi; simp⟩
      have HYN : Hid ((ys ++ zs.take j).length + [z].length ≤ 1048576) := (show (ys ++ zs.take j).length + [z].length ≤ 1048576 by have h1 := HJ.out.nums.2.1; rw [← h1]; simp; omega)
      have HNN : Hid ((ys ++ zs.take j).length + 1 = M1 + 1) := (show (ys ++ zs.take j).length + 1 = M1 + 1 by have h1 := HJ.out.nums.2.1; omega)
      obtain ⟨aS, hsl, hsg⟩ := slice_one g1 0 N1 c1 (zs.drop j) (by have := HJ.out.nums.1; omega) hN0 hc1
      have HSG : Hid (∀ X : World, Seg .u32 X (some ⟨g1, 0, none⟩) (zs.drop j) → Seg .u32 X aS (zs.drop (j + 1))) := fun X hX => by have := hsg X hX; rwa [(drop_next zs j n HLJ.out.1 HLJ.out.2.1).2] at this
      have HSL : Hid (∀ w : World, (Instr.slice 22 (.slice (some ⟨g1, 0, none⟩) N1 c1) (some (.int .i64 1)) none none).run Try.prog w = .ok (.slice aS (N1 - 1) (c1 - 1)) w) := hsl
      clear hal hsg hsl
      go_wp2
      go_region_law (refine step_append_shapedU _ rfl (.tmp 23) (.tmp 28) 22 rfl Try.underlying22 base (.slice (some ⟨g2, 0, none⟩) M1 c2) (ys ++ zs.take j) [z] _ _ _ rfl rfl rfl (by first | exact HYJ.out.two.o2 | exact (HYJ.out.below (Below.refl _ _).drew).two.o2) (by first | exact HYS.out | exact HYS.out.below (Below.refl _ _).drew) HYN.out (by first | exact Nat.le_trans HYJ.out.lB (Nat.le_of_lt HYJ.out.row.lt)) (by simp) (some 29) rfl (M1 + 1) HNN.out ?_; intro gg cap9 w9 ho9 hg9 hcap9 hown9; obtain ⟨hrw, hpu⟩ := (by first | exact OpM.push HYJ.out ho9 hg9 hown9 | exact OpM.push (HYJ.out.below (Below.refl _ _).drew) ho9 hg9 hown9); have HPU : Hid (OpM w (w9.setCell ⟨B2, 1, none⟩ (.slice (some ⟨gg, 0, none⟩) (M1 + 1) cap9)) base B2 (zs.drop j) (ys ++ zs.take (j + 1)) g1 N1 c1 gg (M1 + 1) cap9) := (by rw [← HZ.out, take_next zs ys j n HLJ.out.1 HLJ.out.2.1] at hpu; exact hpu); have v1 := hrw.cell 1 _ rfl; have vf := hrw.free; clear ho9 hg9 hown9 hrw hpu)
      all_goals
        generalize w9.setCell ⟨B2, 1, none⟩ (.slice (some ⟨gg, 0, none⟩) (M1 + 1) cap9) = X at HPU ⊢
        clear v1 vf y0 y1 yf ya1 hz HYJ HYS HYN HNN HJ HZ hcap9
        have y0 := HPU.out.row.cell 0 _ rfl
        have hsl := HSL.out
        go_wp2_with fail
        refine (spec_listU aS (N1 - 1) (c1 - 1) (zs.drop (j + 1)) X (HSG.out X HPU.out.two.o1.onu.seg) (by have := HLJ.out; have := E12.out; simp; omega) (by have := E12.out; omega)).mono ?_
        rintro u w10 ⟨g3, c3, rfl, hb10, ho10⟩
        obtain ⟨hrw, hdr⟩ := HPU.out.drop1 hb10 ho10
        have HDR : Hid (OpM w (w10.setCell ⟨B2, 0, none⟩ (.slice (some ⟨g3, 0, none⟩) (N1 - 1) c3)) base B2 (zs.drop (j + 1)) (ys ++ zs.take (j + 1)) g3 (N1 - 1) c3 gg (M1 + 1) cap9) := hdr
        clear y0 hsl HSL HSG HPU hdr hb10 ho10
        have v0 := hrw.cell 0 _ rfl
        have vf := hrw.free
        clear hrw
        go_wp2
        go_roundw
        case rel => exact ⟨j + 1, by omega, by simp, _, _, _, _, _, _, HDR.out⟩
        case measure =>
          have h1 := lenAt_of (HDR.out.row.cell 0 _ rfl)
          have h2 := HLEN.out
          omega
    · have hjK : j = K := by omega
      subst hjK
      have HQE := HEE.out.2.2
      subst HQE
      have hrz := HJ.out.rz
      have hbse := HJ.out.lo
      have hMN : (M1 : Int) < 8 → ¬ ((0 : Int) < (N1 : Int)) := by omega
      clear hN1 hM1
      by_cases hM : (M1 : Int) < 8
      · have hN := hMN hM
        clear hMN
        have z0 := hrz.cell 0 _ rfl
        have z1 := hrz.cell 1 _ rfl
        have zf := hrz.free
        have ht9 : Betw (w.heap.size + 1) (w.heap.size + 2) wr ((wr.setCell ⟨w.heap.size + 1, 0, none⟩ (.slice (some ⟨g1, 0, none⟩) N1 c1)).setCell ⟨w.heap.size + 1, 1, none⟩ (.slice (some ⟨g2, 0, none⟩) M1 c2)) := ((Betw.refl _ _ wr).setCell (p := ⟨w.heap.size + 1, 0, none⟩) (Nat.le_refl _) (by simp) _).setCell (p := ⟨w.heap.size + 1, 1, none⟩) (Nat.le_refl _) (by simp) _
        have k9 : Bk ((wr.setCell ⟨w.heap.size + 1, 0, none⟩ (.slice (some ⟨g1, 0, none⟩) N1 c1)).setCell ⟨w.heap.size + 1, 1, none⟩ (.slice (some ⟨g2, 0, none⟩) M1 c2)) (w.heap.size + 1) (dsr (some ⟨g1, 0, none⟩) N1 c1 (some ⟨g2, 0, none⟩) M1 c2) := (hrz.set 0 (.slice (some ⟨g1, 0, none⟩) N1 c1) (by simp) (cs' := dsr (some ⟨g1, 0, none⟩) N1 c1 none 0 0) rfl).set 1 (.slice (some ⟨g2, 0, none⟩) M1 c2) (by simp) rfl
        have hb9 := HJ.out.gb.trans (ht9.below (B := w.heap.size) (by omega) HJ.out.gb.size)
        have ho9 : DE ((wr.setCell ⟨w.heap.size + 1, 0, none⟩ (.slice (some ⟨g1, 0, none⟩) N1 c1)).setCell ⟨w.heap.size + 1, 1, none⟩ (.slice (some ⟨g2, 0, none⟩) M1 c2)) w.heap.size ((wr.setCell ⟨w.heap.size + 1, 0, none⟩ (.slice (some ⟨g1, 0, none⟩) N1 c1)).setCell ⟨w.heap.size + 1, 1, none⟩ (.slice (some ⟨g2, 0, none⟩) M1 c2)).heap.size (some ⟨g1, 0, none⟩) (zs.drop j) (some ⟨g2, 0, none⟩) (ys ++ zs.take j) := (HJ.out.two.betw ht9 (.inl (by omega))).de.wide (by omega) (Nat.le_refl _)
        go_wp2
        clear ht9 z0 z1 zf hrz y0 y1
        revert k9 hb9 ho9
        generalize ((wr.setCell ⟨w.heap.size + 1, 0, none⟩ (.slice (some ⟨g1, 0, none⟩) N1 c1)).setCell ⟨w.heap.size + 1, 1, none⟩ (.slice (some ⟨g2, 0, none⟩) M1 c2)) = Wf
        intro k9 hb9 ho9
        have q0 := k9.cell 0 _ rfl
        have q1 := k9.cell 1 _ rfl
        exact bodyPost_ret (v := .tuple #[dst (some ⟨g1, 0, none⟩) N1 c1 (some ⟨g2, 0, none⟩) M1 c2, .bool (decide (0 < j))]) (by simp [results, Try.results18, go_sem, q0, q1]) rfl (by rw [HEE.out.1, HEE.out.2.1, ← HJ.out.nums.1, ← HJ.out.nums.2.1]; exact ⟨_, _, _, _, rfl, hb9, ho9, hc1, hc2⟩)
      · clear hMN
        have z0 := hrz.cell 0 _ rfl
        have z1 := hrz.cell 1 _ rfl
        have zf := hrz.free
        have ht9 : Betw (w.heap.size + 1) (w.heap.size + 2) wr ((wr.setCell ⟨w.heap.size + 1, 0, none⟩ (.slice (some ⟨g1, 0, none⟩) N1 c1)).setCell ⟨w.heap.size + 1, 1, none⟩ (.slice (some ⟨g2, 0, none⟩) M1 c2)) := ((Betw.refl _ _ wr).setCell (p := ⟨w.heap.size + 1, 0, none⟩) (Nat.le_refl _) (by simp) _).setCell (p := ⟨w.heap.size + 1, 1, none⟩) (Nat.le_refl _) (by simp) _
        have k9 : Bk ((wr.setCell ⟨w.heap.size + 1, 0, none⟩ (.slice (some ⟨g1, 0, none⟩) N1 c1)).setCell ⟨w.heap.size + 1, 1, none⟩ (.slice (some ⟨g2, 0, none⟩) M1 c2)) (w.heap.size + 1) (dsr (some ⟨g1, 0, none⟩) N1 c1 (some ⟨g2, 0, none⟩) M1 c2) := (hrz.set 0 (.slice (some ⟨g1, 0, none⟩) N1 c1) (by simp) (cs' := dsr (some ⟨g1, 0, none⟩) N1 c1 none 0 0) rfl).set 1 (.slice (some ⟨g2, 0, none⟩) M1 c2) (by simp) rfl
        have hb9 := HJ.out.gb.trans (ht9.below (B := w.heap.size) (by omega) HJ.out.gb.size)
        have ho9 : DE ((wr.setCell ⟨w.heap.size + 1, 0, none⟩ (.slice (some ⟨g1, 0, none⟩) N1 c1)).setCell ⟨w.heap.size + 1, 1, none⟩ (.slice (some ⟨g2, 0, none⟩) M1 c2)) w.heap.size ((wr.setCell ⟨w.heap.size + 1, 0, none⟩ (.slice (some ⟨g1, 0, none⟩) N1 c1)).setCell ⟨w.heap.size + 1, 1, none⟩ (.slice (some ⟨g2, 0, none⟩) M1 c2)).heap.size (some ⟨g1, 0, none⟩) (zs.drop j) (some ⟨g2, 0, none⟩) (ys ++ zs.take j) := (HJ.out.two.betw ht9 (.inl (by omega))).de.wide (by omega) (Nat.le_refl _)
        go_wp2
        clear ht9 z0 z1 zf hrz y0 y1
        revert k9 hb9 ho9
        generalize ((wr.setCell ⟨w.heap.size + 1, 0, none⟩ (.slice (some ⟨g1, 0, none⟩) N1 c1)).setCell ⟨w.heap.size + 1, 1, none⟩ (.slice (some ⟨g2, 0, none⟩) M1 c2)) = Wf
        intro k9 hb9 ho9
        have q0 := k9.cell 0 _ rfl
        have q1 := k9.cell 1 _ rfl
        exact bodyPost_ret (v := .tuple #[dst (some ⟨g1, 0, none⟩) N1 c1 (some ⟨g2, 0, none⟩) M1 c2, .bool (decide (0 < j))]) (by simp [results, Try.results18, go_sem, q0, q1]) rfl (by rw [HEE.out.1, HEE.out.2.1, ← HJ.out.nums.1, ← HJ.out.nums.2.1]; exact ⟨_, _, _, _, rfl, hb9, ho9, hc1, hc2⟩)
end Go.Proofs.Ythfmggfohegpnaa
