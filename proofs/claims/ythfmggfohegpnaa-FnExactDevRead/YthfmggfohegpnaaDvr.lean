
/-
  The program's DevRead: what the plain function says, in memory of its own. Conditions: the words read as words, at most 1048576 of them.
-/
import Derived.Test.YthfmggfohegpnaaRows
import Derived.Test.YthfmggfohegpnaaDvg
import Derived.Test.YthfmggfohegpnaaDvh
import Derived.Test.YthfmggfohegpnaaDvt
namespace Go.Proofs.Ythfmggfohegpnaa
open Go.ChangeShapes Go.WideShapes Go.ChangeAt Go.RowKit Go.Deep
set_option linter.unusedVariables false

set_option maxRecDepth 20000 in
set_option maxHeartbeats 4000000 in
theorem impl_red (a : Option Addr) (n c : Nat) (b : Option Addr) (m d : Nat) (zs ys : List Int) (w : World) (hs : Seg .u32 w a zs) (hl : zs.length = n) (hn : n ≤ 1048576) (ht : Seg .u32 w b ys) (hlm : ys.length = m) (hm : m ≤ 1048576) (ls ms : List Int) (x cd : Int) (HQ : Hid (redF zs ys = (ls, ms, x, cd))) :
    Calls Try.prog 21 #[dst a n c b m d] w fun e w' => ∃ a' c' b' d', e = .returned (.tuple #[dst a' ls.length c' b' ms.length d', .int .u32 x, .int .i64 cd]) ∧ Below w.heap.size w w' ∧ DE w' w.heap.size w'.heap.size a' ls b' ms := by
  have HB : Hid (Below w.heap.size w ((w.alloc (.cells (dsr a n c b m d) 27)).alloc (.cells (dsr none 0 0 none 0 0) 27))) := ((Below.refl _ w).alloc (Nat.le_refl _) _).alloc (by simp) _
  have HK : Hid (Bk ((w.alloc (.cells (dsr a n c b m d) 27)).alloc (.cells (dsr none 0 0 none 0 0) 27)) w.heap.size (dsr a n c b m d) ∧ Bk ((w.alloc (.cells (dsr a n c b m d) 27)).alloc (.cells (dsr none 0 0 none 0 0) 27)) (w.heap.size + 1) (dsr none 0 0 none 0 0)) := ⟨(Bk.new w _ _ _ rfl).alloc _, Bk.new _ _ _ _ (by simp)⟩
  have HS : Hid (Seg .u32 w a zs) := hs
  have HT : Hid (Seg .u32 w b ys) := ht
  have HL : Hid (zs.length = n) := hl
  have HM : Hid (ys.length = m) := hlm
  clear hs hl ht hlm
  obtain ⟨q0, HOK⟩ : ∃ q, Hid (dvOk n m = q) := ⟨_, rfl⟩
  have HE0 : Hid (q0 = false → ls = [] ∧ ms = [] ∧ x = 0 ∧ cd = 3) := fun e => by
    have g := HQ.out
    unfold redF at g
    rw [HL.out, HM.out, HOK.out, e, if_neg (by decide)] at g
    simp only [Prod.mk.injEq] at g
    exact ⟨g.1.symm, g.2.1.symm, g.2.2.1.symm, g.2.2.2.symm⟩
  have OK : Hid (∀ X, Calls Try.prog 12 #[dst a n c b m d] X fun e w' => e = .returned (.bool q0) ∧ Below X.heap.size X w') := fun X => by rw [← HOK.out]; exact impl_dok a n c b m d X
  have HO8 : Hid (q0 = true → n ≤ 8 ∧ m ≤ 8) := fun e => by have g := HOK.out.trans e; simp [dvOk] at g; exact g
  have DO : Hid (∀ X, n ≤ 8 → m ≤ 8 → Below w.heap.size w X → Calls Try.prog 37 #[dst a n c b m d] X fun e w' => e = .returned (.agg (dvw zs ys)) ∧ Below X.heap.size X w') := fun X h1 h2 hX => impl_dof a n c b m d zs ys X (HS.out.below hX) HL.out h1 (HT.out.below hX) HM.out h2
  have MID : Hid (∀ (X : World) (B : Nat), DvM X B zs ys → Calls Try.prog 44 #[.pointer (some ⟨B, 0, none⟩)] X fun e w' => e = .returned (.tuple #[.int .u32 x, .int .i64 cd]) ∧ DvM w' B ls ms ∧ Betw B (B + 1) X w') := fun X B hX => by
    have hf := hX.few
    have hok : dvOk zs.length ys.length = true := by simp [dvOk]; exact hf
    have g := HQ.out
    unfold redF at g
    rw [if_pos hok] at g
    have h1 := dv_read B zs ys X hX
    by_cases h8 : ys.length = 0
    · rw [if_pos h8] at g h1
      simp only [Prod.mk.injEq] at g
      obtain ⟨rfl, rfl, rfl, rfl⟩ := g
      have e : ys = [] := List.eq_nil_of_length_eq_zero h8
      subst e
      exact h1
    · rw [if_neg h8] at g h1
      simp only [Prod.mk.injEq] at g
      obtain ⟨rfl, rfl, rfl, rfl⟩ := g
      exact h1
  obtain ⟨y, HYL⟩ : ∃ y, Hid (ls.length = y) := ⟨_, rfl⟩
  obtain ⟨z, HZL⟩ : ∃ z, Hid (ms.length = z) := ⟨_, rfl⟩
  rw [HYL.out, HZL.out]
  have ST : Hid (∀ (X : World) (B : Nat), DvM X B ls ms → Calls Try.prog 39 #[.pointer (some ⟨B, 0, none⟩)] X fun e w' => ∃ g1 g2, e = .returned (dst (some ⟨g1, 0, none⟩) y y (some ⟨g2, 0, none⟩) z z) ∧ Below X.heap.size X w' ∧ TwoU w' X.heap.size g1 y y g2 z z ls ms) := fun X B hX => dv_state B ls ms y z X hX HYL.out HZL.out
  have DN : Hid (∀ X : World, n ≤ 8 → m ≤ 8 → DvM (X.alloc (.cells (dvw zs ys) 65)) X.heap.size zs ys) := fun X h1 h2 => DvM.new X _ zs ys rfl (by rw [HL.out]; exact h1) (by rw [HM.out]; exact h2)
  clear HOK HQ
  go_enter Try.func21, Try.ntmps21
  go_wp2_with fail
  refine (OK.out _).mono ?_
  rintro u w1 ⟨rfl, hb1⟩
  have HB1 : Hid (Below w.heap.size w w1) := HB.out.trans (hb1.mono HB.out.size)
  have K1 : Hid (Bk w1 w.heap.size (dsr a n c b m d) ∧ Bk w1 (w.heap.size + 1) (dsr none 0 0 none 0 0)) := ⟨HK.out.1.below hb1, HK.out.2.below hb1⟩
  have hz1 : w.heap.size + 2 ≤ w1.heap.size := by have := K1.out.2.lt; omega
  clear HB HK hb1 OK
  cases q0
  · obtain ⟨hls, hms, hx0, hcd⟩ := HE0.out (by first | rfl | trivial)
    have K1z := K1.out.2
    have hy0 : y = 0 := by rw [← HYL.out, hls]; rfl
    have hz00 : z = 0 := by rw [← HZL.out, hms]; rfl
    subst hls hms hx0 hcd hy0 hz00
    have z0 := K1z.cell 0 _ rfl
    have z1 := K1z.cell 1 _ rfl
    have zf := K1z.free
    have ht9 : Betw (w.heap.size + 1) (w.heap.size + 2) w1 ((w1.setCell ⟨w.heap.size + 1, 0, none⟩ (.slice none 0 0)).setCell ⟨w.heap.size + 1, 1, none⟩ (.slice none 0 0)) := ((Betw.refl _ _ w1).setCell (p := ⟨w.heap.size + 1, 0, none⟩) (Nat.le_refl _) (by simp) _).setCell (p := ⟨w.heap.size + 1, 1, none⟩) (Nat.le_refl _) (by simp) _
    have k9 : Bk ((w1.setCell ⟨w.heap.size + 1, 0, none⟩ (.slice none 0 0)).setCell ⟨w.heap.size + 1, 1, none⟩ (.slice none 0 0)) (w.heap.size + 1) (dsr none 0 0 none 0 0) := (K1z.set 0 (.slice none 0 0) (by simp) (cs' := dsr none 0 0 none 0 0) rfl).set 1 (.slice none 0 0) (by simp) rfl
    have hb9 := HB1.out.trans (ht9.below (B := w.heap.size) (by omega) HB1.out.size)
    have ho9 : DE ((w1.setCell ⟨w.heap.size + 1, 0, none⟩ (.slice none 0 0)).setCell ⟨w.heap.size + 1, 1, none⟩ (.slice none 0 0)) w.heap.size ((w1.setCell ⟨w.heap.size + 1, 0, none⟩ (.slice none 0 0)).setCell ⟨w.heap.size + 1, 1, none⟩ (.slice none 0 0)).heap.size none [] none [] := DE.nil _ _ _ _ _
    go_wp2
    clear ht9 z0 z1 zf K1z
    revert k9 hb9 ho9
    generalize ((w1.setCell ⟨w.heap.size + 1, 0, none⟩ (.slice none 0 0)).setCell ⟨w.heap.size + 1, 1, none⟩ (.slice none 0 0)) = Wf
    intro k9 hb9 ho9
    have q0 := k9.cell 0 _ rfl
    have q1 := k9.cell 1 _ rfl
    exact bodyPost_ret (v := .tuple #[dst none 0 0 none 0 0, .int .u32 0, .int .i64 3]) (by simp [results, Try.results21, go_sem, q0, q1]) rfl ⟨_, _, _, _, rfl, hb9, ho9⟩
  obtain ⟨hn8, hm8⟩ := HO8.out (by first | rfl | trivial)
  have c0 := K1.out.1.cell 0 _ rfl
  have c1 := K1.out.1.cell 1 _ rfl
  go_wp2_with fail
  refine (DO.out _ hn8 hm8 HB1.out).mono ?_
  rintro u w2 ⟨rfl, hb2⟩
  clear c0 c1
  have hz2 := hb2.size
  have hal : Below w2.heap.size w2 (w2.alloc (.cells (dvw zs ys) 65)) := (Below.refl _ _).alloc (Nat.le_refl _) _
  have hb2' := hb2.trans (hal.mono hb2.size)
  have HB2 : Hid (Below w.heap.size w (w2.alloc (.cells (dvw zs ys) 65))) := HB1.out.trans (hb2'.mono HB1.out.size)
  have K2 : Hid (Bk (w2.alloc (.cells (dvw zs ys) 65)) (w.heap.size + 1) (dsr none 0 0 none 0 0)) := K1.out.2.below hb2'
  have HD2 : Hid (DvM (w2.alloc (.cells (dvw zs ys) 65)) w2.heap.size zs ys) := DN.out w2 hn8 hm8
  clear hal hb2 hb2' HB1 K1 DO DN HE0 HO8
  go_wp2_with fail
  refine (MID.out _ _ HD2.out).mono ?_
  rintro u w3 ⟨rfl, hd3, hb3⟩
  have hz3 := hb3.size
  have HB3 : Hid (Below w.heap.size w w3) := HB2.out.trans (hb3.below (B := w.heap.size) (by omega) HB2.out.size)
  have K3 : Hid (Bk w3 (w.heap.size + 1) (dsr none 0 0 none 0 0)) := K2.out.betw hb3 (by omega)
  have HD3 : Hid (DvM w3 w2.heap.size ls ms) := hd3
  clear hd3 hb3 HB2 K2 HD2 MID
  go_wp2_with fail
  refine (ST.out _ _ HD3.out).mono ?_
  rintro u w4 ⟨g1, g2, rfl, hb4, ho4⟩
  have hz4 := hb4.size
  have HB4 : Hid (Below w.heap.size w w4) := HB3.out.trans (hb4.mono HB3.out.size)
  have K4z := K3.out.below hb4
  have HO4 : Hid (TwoU w4 w3.heap.size g1 y y g2 z z ls ms) := ho4
  have hz34 : w.heap.size + 2 ≤ w3.heap.size := by have := HD3.out.lt; omega
  clear hb4 ho4 HB3 K3 HD3 ST hz3
  have z0 := K4z.cell 0 _ rfl
  have z1 := K4z.cell 1 _ rfl
  have zf := K4z.free
  have ht9 : Betw (w.heap.size + 1) (w.heap.size + 2) w4 ((w4.setCell ⟨w.heap.size + 1, 0, none⟩ (.slice (some ⟨g1, 0, none⟩) y y)).setCell ⟨w.heap.size + 1, 1, none⟩ (.slice (some ⟨g2, 0, none⟩) z z)) := ((Betw.refl _ _ w4).setCell (p := ⟨w.heap.size + 1, 0, none⟩) (Nat.le_refl _) (by simp) _).setCell (p := ⟨w.heap.size + 1, 1, none⟩) (Nat.le_refl _) (by simp) _
  have k9 : Bk ((w4.setCell ⟨w.heap.size + 1, 0, none⟩ (.slice (some ⟨g1, 0, none⟩) y y)).setCell ⟨w.heap.size + 1, 1, none⟩ (.slice (some ⟨g2, 0, none⟩) z z)) (w.heap.size + 1) (dsr (some ⟨g1, 0, none⟩) y y (some ⟨g2, 0, none⟩) z z) := (K4z.set 0 (.slice (some ⟨g1, 0, none⟩) y y) (by simp) (cs' := dsr (some ⟨g1, 0, none⟩) y y none 0 0) rfl).set 1 (.slice (some ⟨g2, 0, none⟩) z z) (by simp) rfl
  have hb9 := HB4.out.trans (ht9.below (B := w.heap.size) (by omega) HB4.out.size)
  have ho9 : DE ((w4.setCell ⟨w.heap.size + 1, 0, none⟩ (.slice (some ⟨g1, 0, none⟩) y y)).setCell ⟨w.heap.size + 1, 1, none⟩ (.slice (some ⟨g2, 0, none⟩) z z)) w.heap.size ((w4.setCell ⟨w.heap.size + 1, 0, none⟩ (.slice (some ⟨g1, 0, none⟩) y y)).setCell ⟨w.heap.size + 1, 1, none⟩ (.slice (some ⟨g2, 0, none⟩) z z)).heap.size (some ⟨g1, 0, none⟩) ls (some ⟨g2, 0, none⟩) ms := (HO4.out.betw ht9 (.inl (by omega))).de.wide (by omega) (Nat.le_refl _)
  go_wp2
  clear ht9 z0 z1 zf K4z
  revert k9 hb9 ho9
  generalize ((w4.setCell ⟨w.heap.size + 1, 0, none⟩ (.slice (some ⟨g1, 0, none⟩) y y)).setCell ⟨w.heap.size + 1, 1, none⟩ (.slice (some ⟨g2, 0, none⟩) z z)) = Wf
  intro k9 hb9 ho9
  have q0 := k9.cell 0 _ rfl
  have q1 := k9.cell 1 _ rfl
  exact bodyPost_ret (v := .tuple #[dst (some ⟨g1, 0, none⟩) y y (some ⟨g2, 0, none⟩) z z, .int .u32 x, .int .i64 cd]) (by simp [results, Try.results21, go_sem, q0, q1]) rfl ⟨_, _, _, _, rfl, hb9, ho9⟩
end Go.Proofs.Ythfmggfohegpnaa
