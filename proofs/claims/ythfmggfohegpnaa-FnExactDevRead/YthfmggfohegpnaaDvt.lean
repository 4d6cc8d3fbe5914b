
/-
  The specification's DevInput and DevRead: what the plain functions say, in memory of its own. Conditions: the words read as words, at most 1048576 of them, within the capacity.
-/
import Derived.Test.YthfmggfohegpnaaRows
import Derived.Test.YthfmggfohegpnaaDvs
namespace Go.Proofs.Ythfmggfohegpnaa
open Go.ChangeShapes Go.WideShapes Go.ChangeAt Go.RowKit Go.Deep
set_option linter.unusedVariables false

theorem Bk.grownN {w w' : World} {b : Nat} {cs : Array Value} {row : Option Nat} (h : Bk w b cs) (hg : w.grownBy w' row) (hne : ∀ g, row = some g → g ≠ b) : Bk w' b cs := by
  have hk := hg.block b h.lt (fun e => hne b e.symm rfl)
  exact ⟨Nat.lt_of_lt_of_le h.lt hg.size, fun i v e => (World.cell?_of_block (a := ⟨b, i, none⟩) hk).trans (h.cell i v e), fun i => (World.frozen?_of_block (a := ⟨b, i, none⟩) hk).trans (h.free i)⟩
theorem own_eq {g g' n c : Nat} (e : (Value.slice (some ⟨g, 0, none⟩) n c).ownBlock = some g') : g = g' := by
  have : some g = some g' := e
  injection this
theorem own_or {g g' k n c n' c' : Nat} (e : (Value.slice (some ⟨g, 0, none⟩) n c).ownBlock = (Value.slice (some ⟨g', 0, none⟩) n' c').ownBlock ∨ (Value.slice (some ⟨g, 0, none⟩) n c).ownBlock = some k) : g = g' ∨ g = k := by
  rcases e with e | e
  · exact .inl (own_eq (e.trans rfl))
  · exact .inr (own_eq e)
theorem inp_len {zs ys ls ms : List Int} {x : Int} {q : Bool} {n m : Nat} (g : inpF zs ys x = (ls, ms, q)) (hl : zs.length = n) (hn : n ≤ 1048576) (hlm : ys.length = m) (hm : m ≤ 1048576) : ls.length ≤ 1048576 ∧ ms.length ≤ 1048576 := by
  unfold inpF at g
  split at g
  · rename_i h
    simp [dvOk] at h
    split at g <;> (simp only [Prod.mk.injEq] at g; obtain ⟨rfl, rfl, _⟩ := g; (try simp); omega)
  · simp only [Prod.mk.injEq] at g; obtain ⟨rfl, rfl, _⟩ := g; simp
theorem red_len {zs ys ls ms : List Int} {x cd : Int} {n m : Nat} (g : redF zs ys = (ls, ms, x, cd)) (hl : zs.length = n) (hn : n ≤ 1048576) (hlm : ys.length = m) (hm : m ≤ 1048576) : ls.length ≤ 1048576 ∧ ms.length ≤ 1048576 := by
  unfold redF at g
  split at g
  · split at g <;> (simp only [Prod.mk.injEq] at g; obtain ⟨rfl, rfl, _⟩ := g; (try simp); omega)
  · simp only [Prod.mk.injEq] at g; obtain ⟨rfl, rfl, _⟩ := g; simp
theorem opn_len {zs ys ls ms : List Int} {q : Bool} {n m : Nat} (g : opnF zs ys = (ls, ms, q)) (hl : zs.length = n) (hn : n ≤ 1048576) (hlm : ys.length = m) (hm : m ≤ 1048576) : ls.length ≤ 1048576 ∧ ms.length ≤ 1048576 := by
  unfold opnF goes at g
  split at g
  · rename_i h
    simp [dvOk] at h
    simp only [Prod.mk.injEq] at g; obtain ⟨rfl, rfl, _⟩ := g; simp; omega
  · simp only [Prod.mk.injEq] at g; obtain ⟨rfl, rfl, _⟩ := g; simp
set_option maxRecDepth 20000 in
set_option maxHeartbeats 2000000 in
theorem spec_inp (a : Option Addr) (n c : Nat) (b : Option Addr) (m d : Nat) (x : Int) (zs ys : List Int) (w : World) (hs : Seg .u32 w a zs) (hl : zs.length = n) (hn : n ≤ 1048576) (hc : n ≤ c) (ht : Seg .u32 w b ys) (hlm : ys.length = m) (hm : m ≤ 1048576) (hd : m ≤ d) (ls ms : List Int) (q : Bool) (HQ : Hid (inpF zs ys x = (ls, ms, q))) :
    Calls Try.prog 14 #[dst a n c b m d, .int .u32 x] w fun e w' => ∃ a' c' b' d', e = .returned (.tuple #[dst a' ls.length c' b' ms.length d', .bool q]) ∧ Below w.heap.size w w' ∧ DE w' w.heap.size w'.heap.size a' ls b' ms ∧ ls.length ≤ c' ∧ ms.length ≤ d' := by
  have HB : Hid (Below w.heap.size w ((w.alloc (.cells (dsr a n c b m d) 27)).alloc (.cells (dsr none 0 0 none 0 0) 27))) := ((Below.refl _ w).alloc (Nat.le_refl _) _).alloc (by simp) _
  have HK : Hid (Bk ((w.alloc (.cells (dsr a n c b m d) 27)).alloc (.cells (dsr none 0 0 none 0 0) 27)) w.heap.size (dsr a n c b m d) ∧ Bk ((w.alloc (.cells (dsr a n c b m d) 27)).alloc (.cells (dsr none 0 0 none 0 0) 27)) (w.heap.size + 1) (dsr none 0 0 none 0 0)) := ⟨(Bk.new w _ _ _ rfl).alloc _, Bk.new _ _ _ _ (by simp)⟩
  have HS : Hid (Seg .u32 w a zs) := hs
  have HT : Hid (Seg .u32 w b ys) := ht
  have HL : Hid (zs.length = n) := hl
  have HM : Hid (ys.length = m) := hlm
  clear hs hl ht hlm
  obtain ⟨q0, HOK⟩ : ∃ q, Hid (dvOk n m = q) := ⟨_, rfl⟩
  have HE0 : Hid (q0 = false → ls = [] ∧ ms = [] ∧ q = false) := fun e => by
    have g := HQ.out
    unfold inpF at g
    rw [HL.out, HM.out, HOK.out, e, if_neg (by decide)] at g
    simp only [Prod.mk.injEq] at g
    exact ⟨g.1.symm, g.2.1.symm, g.2.2.symm⟩
  have HE1 : Hid (q0 = true → n = 8 → ls = zs ∧ ms = ys ∧ q = false) := fun e e2 => by
    have g := HQ.out
    unfold inpF at g
    rw [HL.out, HM.out, HOK.out, if_pos e, if_pos e2] at g
    simp only [Prod.mk.injEq] at g
    exact ⟨g.1.symm, g.2.1.symm, g.2.2.symm⟩
  have HE2 : Hid (q0 = true → ¬ n = 8 → ls = zs ++ [x] ∧ ms = ys ∧ q = true) := fun e e2 => by
    have g := HQ.out
    unfold inpF at g
    rw [HL.out, HM.out, HOK.out, if_pos e, if_neg e2] at g
    simp only [Prod.mk.injEq] at g
    exact ⟨g.1.symm, g.2.1.symm, g.2.2.symm⟩
  have OK : Hid (∀ X, Calls Try.prog 10 #[dst a n c b m d] X fun e w' => e = .returned (.bool q0) ∧ Below X.heap.size X w') := fun X => by rw [← HOK.out]; exact spec_dok a n c b m d X
  have HO8 : Hid (q0 = true → n ≤ 8 ∧ m ≤ 8) := fun e => by have g := HOK.out.trans e; simp [dvOk] at g; exact g
  have CP : Hid (∀ X, Below w.heap.size w X → Calls Try.prog 36 #[dst a n c b m d] X fun e w' => ∃ g1 c1 g2 c2, e = .returned (dst (some ⟨g1, 0, none⟩) n c1 (some ⟨g2, 0, none⟩) m c2) ∧ Below X.heap.size X w' ∧ TwoU w' X.heap.size g1 n c1 g2 m c2 zs ys) := fun X hX => spec_copy a n c b m d zs ys X (HS.out.below hX) HL.out hn (HT.out.below hX) HM.out hm
  clear HOK HQ
  go_enter Try.func14, Try.ntmps14
  go_wp2_with fail
  refine (OK.out _).mono ?_
  rintro u w1 ⟨rfl, hb1⟩
  have HB1 : Hid (Below w.heap.size w w1) := HB.out.trans (hb1.mono HB.out.size)
  have K1 : Hid (Bk w1 w.heap.size (dsr a n c b m d) ∧ Bk w1 (w.heap.size + 1) (dsr none 0 0 none 0 0)) := ⟨HK.out.1.below hb1, HK.out.2.below hb1⟩
  have hz1 : w.heap.size + 2 ≤ w1.heap.size := by have := K1.out.2.lt; omega
  clear HB HK hb1 OK
  cases q0
  · obtain ⟨rfl, rfl, rfl⟩ := HE0.out (by first | rfl | trivial)
    have K1z := K1.out.2
    have z0 := K1z.cell 0 _ rfl
    have z1 := K1z.cell 1 _ rfl
    have zf := K1z.free
    have ht9 : Betw (w.heap.size + 1) (w.heap.size + 2) w1 ((w1.setCell ⟨w.heap.size + 1, 0, none⟩ (.slice none 0 0)).setCell ⟨w.heap.size + 1, 1, none⟩ (.slice none 0 0)) := ((Betw.refl _ _ w1).setCell (p := ⟨w.heap.size + 1, 0, none⟩) (Nat.le_refl _) (by simp) _).setCell (p := ⟨w.heap.size + 1, 1, none⟩) (Nat.le_refl _) (by simp) _
    have k9 : Bk ((w1.setCell ⟨w.heap.size + 1, 0, none⟩ (.slice none 0 0)).setCell ⟨w.heap.size + 1, 1, none⟩ (.slice none 0 0)) (w.heap.size + 1) (dsr none 0 0 none 0 0) := (K1z.set 0 (.slice none 0 0) (by simp) (cs' := dsr none 0 0 none 0 0) rfl).set 1 (.slice none 0 0) (by simp) rfl
    have hb9 := HB1.out.trans (ht9.below (B := w.heap.size) (by omega) HB1.out.size)
    have ho9 : DE ((w1.setCell ⟨w.heap.size + 1, 0, none⟩ (.slice none 0 0)).setCell ⟨w.heap.size + 1, 1, none⟩ (.slice none 0 0)) w.heap.size ((w1.setCell ⟨w.heap.size + 1, 0, none⟩ (.slice none 0 0)).setCell ⟨w.heap.size + 1, 1, none⟩ (.slice none 0 0)).heap.size none [] none [] := DE.nil _ _ _ _ _
    go_wp2
    clear ht9 z0 z1 zf K1z
    revert k9 hb9 ho9
    generalize ((w1.setCell ⟨w.heap.size + 1, 0, none⟩ (.slice none 0 0)).setCell ⟨w.heap.size + 1, 1, none⟩ (.slice none 0 0)) = Wf
    intro k9 hb9 ho9
    have q0 := k9.cell 0 _ rfl
    have q1 := k9.cell 1 _ rfl
    exact bodyPost_ret (v := .tuple #[dst none 0 0 none 0 0, .bool false]) (by simp [results, Try.results14, go_sem, q0, q1]) rfl ⟨_, _, _, _, rfl, hb9, ho9, Nat.le_refl _, Nat.le_refl _⟩
  obtain ⟨hn8, hm8⟩ := HO8.out (by first | rfl | trivial)
  clear HE0
  have c0 := K1.out.1.cell 0 _ rfl
  have c1 := K1.out.1.cell 1 _ rfl
  go_wp2_with fail
  refine (CP.out _ HB1.out).mono ?_
  rintro u w2 ⟨g1, c1', g2, c2', rfl, hb2, ho2⟩
  clear c0 c1
  have hz2 := hb2.size
  have hg1 := ho2.o1.blk_lt
  have hg2 := ho2.o2.blk_lt
  have hal : Below w2.heap.size w2 (w2.alloc (.cells (dsr (some ⟨g1, 0, none⟩) n c1' (some ⟨g2, 0, none⟩) m c2') 27)) := (Below.refl _ _).alloc (Nat.le_refl _) _
  have hb2' := hb2.trans (hal.mono hb2.size)
  have HB2 : Hid (Below w.heap.size w (w2.alloc (.cells (dsr (some ⟨g1, 0, none⟩) n c1' (some ⟨g2, 0, none⟩) m c2') 27))) := HB1.out.trans (hb2'.mono HB1.out.size)
  have K2 : Hid (Bk (w2.alloc (.cells (dsr (some ⟨g1, 0, none⟩) n c1' (some ⟨g2, 0, none⟩) m c2') 27)) w.heap.size (dsr a n c b m d) ∧ Bk (w2.alloc (.cells (dsr (some ⟨g1, 0, none⟩) n c1' (some ⟨g2, 0, none⟩) m c2') 27)) (w.heap.size + 1) (dsr none 0 0 none 0 0) ∧ Bk (w2.alloc (.cells (dsr (some ⟨g1, 0, none⟩) n c1' (some ⟨g2, 0, none⟩) m c2') 27)) w2.heap.size (dsr (some ⟨g1, 0, none⟩) n c1' (some ⟨g2, 0, none⟩) m c2')) := ⟨K1.out.1.below hb2', K1.out.2.below hb2', Bk.new _ _ _ _ rfl⟩
  have HO2 : Hid (TwoU (w2.alloc (.cells (dsr (some ⟨g1, 0, none⟩) n c1' (some ⟨g2, 0, none⟩) m c2') 27)) w1.heap.size g1 n c1' g2 m c2' zs ys) := ho2.below hal
  have hv2 : w2.heap.size + 1 ≤ (w2.alloc (.cells (dsr (some ⟨g1, 0, none⟩) n c1' (some ⟨g2, 0, none⟩) m c2') 27)).heap.size := by simp
  clear hal hb2 hb2' ho2 HB1 K1 CP
  have hne := HO2.out.ne
  have x0 := K2.out.1.cell 0 _ rfl
  have y0 := K2.out.2.2.cell 0 _ rfl
  have y1 := K2.out.2.2.cell 1 _ rfl
  by_cases h8 : n = 8
  · have hn8' : (n : Int) = 8 := by omega
    have HEE : Hid (ls = zs ∧ ms = ys ∧ q = false) := HE1.out (by first | rfl | trivial) h8
    have K2z := K2.out.2.1
    have hqf := HEE.out.2.2
    subst hqf
    clear h8 HE1 HE2
    have z0 := K2z.cell 0 _ rfl
    have z1 := K2z.cell 1 _ rfl
    have zf := K2z.free
    have ht9 : Betw (w.heap.size + 1) (w.heap.size + 2) (w2.alloc (.cells (dsr (some ⟨g1, 0, none⟩) n c1' (some ⟨g2, 0, none⟩) m c2') 27)) (((w2.alloc (.cells (dsr (some ⟨g1, 0, none⟩) n c1' (some ⟨g2, 0, none⟩) m c2') 27)).setCell ⟨w.heap.size + 1, 0, none⟩ (.slice (some ⟨g1, 0, none⟩) n c1')).setCell ⟨w.heap.size + 1, 1, none⟩ (.slice (some ⟨g2, 0, none⟩) m c2')) := ((Betw.refl _ _ (w2.alloc (.cells (dsr (some ⟨g1, 0, none⟩) n c1' (some ⟨g2, 0, none⟩) m c2') 27))).setCell (p := ⟨w.heap.size + 1, 0, none⟩) (Nat.le_refl _) (by simp) _).setCell (p := ⟨w.heap.size + 1, 1, none⟩) (Nat.le_refl _) (by simp) _
    have k9 : Bk (((w2.alloc (.cells (dsr (some ⟨g1, 0, none⟩) n c1' (some ⟨g2, 0, none⟩) m c2') 27)).setCell ⟨w.heap.size + 1, 0, none⟩ (.slice (some ⟨g1, 0, none⟩) n c1')).setCell ⟨w.heap.size + 1, 1, none⟩ (.slice (some ⟨g2, 0, none⟩) m c2')) (w.heap.size + 1) (dsr (some ⟨g1, 0, none⟩) n c1' (some ⟨g2, 0, none⟩) m c2') := (K2z.set 0 (.slice (some ⟨g1, 0, none⟩) n c1') (by simp) (cs' := dsr (some ⟨g1, 0, none⟩) n c1' none 0 0) rfl).set 1 (.slice (some ⟨g2, 0, none⟩) m c2') (by simp) rfl
    have hb9 := HB2.out.trans (ht9.below (B := w.heap.size) (by omega) HB2.out.size)
    have ho9 : DE (((w2.alloc (.cells (dsr (some ⟨g1, 0, none⟩) n c1' (some ⟨g2, 0, none⟩) m c2') 27)).setCell ⟨w.heap.size + 1, 0, none⟩ (.slice (some ⟨g1, 0, none⟩) n c1')).setCell ⟨w.heap.size + 1, 1, none⟩ (.slice (some ⟨g2, 0, none⟩) m c2')) w.heap.size (((w2.alloc (.cells (dsr (some ⟨g1, 0, none⟩) n c1' (some ⟨g2, 0, none⟩) m c2') 27)).setCell ⟨w.heap.size + 1, 0, none⟩ (.slice (some ⟨g1, 0, none⟩) n c1')).setCell ⟨w.heap.size + 1, 1, none⟩ (.slice (some ⟨g2, 0, none⟩) m c2')).heap.size (some ⟨g1, 0, none⟩) zs (some ⟨g2, 0, none⟩) ys := (HO2.out.betw ht9 (.inl (by omega))).de.wide (by omega) (Nat.le_refl _)
    go_wp2
    clear ht9 z0 z1 zf K2z x0 y0 y1
    revert k9 hb9 ho9
    generalize (((w2.alloc (.cells (dsr (some ⟨g1, 0, none⟩) n c1' (some ⟨g2, 0, none⟩) m c2') 27)).setCell ⟨w.heap.size + 1, 0, none⟩ (.slice (some ⟨g1, 0, none⟩) n c1')).setCell ⟨w.heap.size + 1, 1, none⟩ (.slice (some ⟨g2, 0, none⟩) m c2')) = Wf
    intro k9 hb9 ho9
    have q0 := k9.cell 0 _ rfl
    have q1 := k9.cell 1 _ rfl
    exact bodyPost_ret (v := .tuple #[dst (some ⟨g1, 0, none⟩) n c1' (some ⟨g2, 0, none⟩) m c2', .bool false]) (by simp [results, Try.results14, go_sem, q0, q1]) rfl (by rw [HEE.out.1, HEE.out.2.1, HL.out, HM.out]; exact ⟨_, _, _, _, rfl, hb9, ho9, hg1.2.2.2, hg2.2.2.2⟩)
  have hn8' : ¬ ((n : Int) = 8) := by omega
  have HEE : Hid (ls = zs ++ [x] ∧ ms = ys ∧ q = true) := HE2.out (by first | rfl | trivial) h8
  have hqf := HEE.out.2.2
  subst hqf
  clear h8 HE1 HE2
  have hal : Below (w2.alloc (.cells (dsr (some ⟨g1, 0, none⟩) n c1' (some ⟨g2, 0, none⟩) m c2') 27)).heap.size (w2.alloc (.cells (dsr (some ⟨g1, 0, none⟩) n c1' (some ⟨g2, 0, none⟩) m c2') 27)) ((w2.alloc (.cells (dsr (some ⟨g1, 0, none⟩) n c1' (some ⟨g2, 0, none⟩) m c2') 27)).alloc (.cells #[.int .u32 x] 31)) := (Below.refl _ _).alloc (Nat.le_refl _) _
  have HYB : Hid (Below w.heap.size w ((w2.alloc (.cells (dsr (some ⟨g1, 0, none⟩) n c1' (some ⟨g2, 0, none⟩) m c2') 27)).alloc (.cells #[.int .u32 x] 31))) := HB2.out.trans (hal.mono HB2.out.size)
  have HYO : Hid (TwoU ((w2.alloc (.cells (dsr (some ⟨g1, 0, none⟩) n c1' (some ⟨g2, 0, none⟩) m c2') 27)).alloc (.cells #[.int .u32 x] 31)) w1.heap.size g1 n c1' g2 m c2' zs ys) := HO2.out.below hal
  have HYK : Hid (Bk ((w2.alloc (.cells (dsr (some ⟨g1, 0, none⟩) n c1' (some ⟨g2, 0, none⟩) m c2') 27)).alloc (.cells #[.int .u32 x] 31)) (w.heap.size + 1) (dsr none 0 0 none 0 0) ∧ Bk ((w2.alloc (.cells (dsr (some ⟨g1, 0, none⟩) n c1' (some ⟨g2, 0, none⟩) m c2') 27)).alloc (.cells #[.int .u32 x] 31)) w2.heap.size (dsr (some ⟨g1, 0, none⟩) n c1' (some ⟨g2, 0, none⟩) m c2')) := ⟨K2.out.2.1.below hal, K2.out.2.2.below hal⟩
  have HYS : Hid (Seg .u32 ((w2.alloc (.cells (dsr (some ⟨g1, 0, none⟩) n c1' (some ⟨g2, 0, none⟩) m c2') 27)).alloc (.cells #[.int .u32 x] 31)) (some ⟨w2.heap.size + 1, 0, none⟩) [x]) := fun _ => ⟨w2.heap.size + 1, 0, rfl, by simp, fun i hi => by simp at hi; subst hi; simp⟩
  have HYN : Hid (zs.length + [x].length ≤ 1048576) := (show zs.length + [x].length ≤ 1048576 by have := HL.out; simp; omega)
  have HYZ : Hid (w1.heap.size ≤ ((w2.alloc (.cells (dsr (some ⟨g1, 0, none⟩) n c1' (some ⟨g2, 0, none⟩) m c2') 27)).alloc (.cells #[.int .u32 x] 31)).heap.size) := (show w1.heap.size ≤ ((w2.alloc (.cells (dsr (some ⟨g1, 0, none⟩) n c1' (some ⟨g2, 0, none⟩) m c2') 27)).alloc (.cells #[.int .u32 x] 31)).heap.size by simp; omega)
  have HNN : Hid (zs.length + 1 = n + 1) := (show zs.length + 1 = n + 1 by rw [HL.out])
  clear hal
  go_wp2_with (at_builtin; (refine wpList_append_shapedU _ rfl (.tmp 19) (.tmp 21) 22 rfl Try.underlying22 w1.heap.size (.slice (some ⟨g1, 0, none⟩) n c1') zs [x] _ _ _ rfl rfl rfl HYO.out.o1 HYS.out HYN.out HYZ.out (by simp) (n + 1) HNN.out ?_; intro gg cap9 w9 ho9 hg9 hcap9 hown9; have HZB : Hid (Below w.heap.size w w9) := Below.grown HYB.out hg9 (Nat.le_trans (by omega) HYZ.out) (fun g e => by have := own_eq e; omega); have HZK : Hid (Bk w9 (w.heap.size + 1) (dsr none 0 0 none 0 0) ∧ Bk w9 w2.heap.size (dsr (some ⟨g1, 0, none⟩) n c1' (some ⟨g2, 0, none⟩) m c2')) := ⟨HYK.out.1.grownN hg9 (fun g e => by have := own_eq e; omega), HYK.out.2.grownN hg9 (fun g e => by have := own_eq e; omega)⟩; have HZO : Hid (TwoU w9 w1.heap.size gg (n + 1) cap9 g2 m c2' (zs ++ [x]) ys) := ⟨ho9, HYO.out.o2.kept hg9 (fun g e e2 => by have := own_eq e; have := own_eq e2; omega), by have hzz := HYZ.out; have := own_or hown9; simp at this hzz; omega⟩; have HGN : Hid (gg ≠ w2.heap.size) := (show gg ≠ w2.heap.size by have := own_or hown9; simp at this; omega); have y0 := HZK.out.2.cell 0 _ rfl; have y1 := HZK.out.2.cell 1 _ rfl; have yf := HZK.out.2.free; have K9z := HZK.out.1.other w2.heap.size 0 (.slice (some ⟨gg, 0, none⟩) (n + 1) cap9) (by omega); have k5 := HZK.out.2.set 0 (.slice (some ⟨gg, 0, none⟩) (n + 1) cap9) (by simp) (cs' := dsr (some ⟨gg, 0, none⟩) (n + 1) cap9 (some ⟨g2, 0, none⟩) m c2') rfl; have k50 := k5.cell 0 _ rfl; have k51 := k5.cell 1 _ rfl; have z0 := K9z.cell 0 _ rfl; have z1 := K9z.cell 1 _ rfl; have zf := K9z.free; clear ho9 hg9 hown9 HYB HYO HYK HYS HYN HYZ K2 HO2 x0))
  have ht5 : Betw w2.heap.size (w2.heap.size + 1) w9 (w9.setCell ⟨w2.heap.size, 0, none⟩ (.slice (some ⟨gg, 0, none⟩) (n + 1) cap9)) := (Betw.refl _ _ w9).setCell (p := ⟨w2.heap.size, 0, none⟩) (Nat.le_refl _) (by simp) _
  have hb5 := HZB.out.trans (ht5.below (B := w.heap.size) (by omega) HZB.out.size)
  have hgg := HZO.out.o1.blk_lt
  have hgn := HGN.out
  have ho5 : TwoU (w9.setCell ⟨w2.heap.size, 0, none⟩ (.slice (some ⟨gg, 0, none⟩) (n + 1) cap9)) w1.heap.size gg (n + 1) cap9 g2 m c2' (zs ++ [x]) ys := ⟨HZO.out.o1.betw ht5 (by omega), HZO.out.o2.betw ht5 (by omega), HZO.out.ne⟩
  have z0 := K9z.cell 0 _ rfl
  have z1 := K9z.cell 1 _ rfl
  have zf := K9z.free
  have ht9 : Betw (w.heap.size + 1) (w.heap.size + 2) (w9.setCell ⟨w2.heap.size, 0, none⟩ (.slice (some ⟨gg, 0, none⟩) (n + 1) cap9)) (((w9.setCell ⟨w2.heap.size, 0, none⟩ (.slice (some ⟨gg, 0, none⟩) (n + 1) cap9)).setCell ⟨w.heap.size + 1, 0, none⟩ (.slice (some ⟨gg, 0, none⟩) (n + 1) cap9)).setCell ⟨w.heap.size + 1, 1, none⟩ (.slice (some ⟨g2, 0, none⟩) m c2')) := ((Betw.refl _ _ (w9.setCell ⟨w2.heap.size, 0, none⟩ (.slice (some ⟨gg, 0, none⟩) (n + 1) cap9))).setCell (p := ⟨w.heap.size + 1, 0, none⟩) (Nat.le_refl _) (by simp) _).setCell (p := ⟨w.heap.size + 1, 1, none⟩) (Nat.le_refl _) (by simp) _
  have k9 : Bk (((w9.setCell ⟨w2.heap.size, 0, none⟩ (.slice (some ⟨gg, 0, none⟩) (n + 1) cap9)).setCell ⟨w.heap.size + 1, 0, none⟩ (.slice (some ⟨gg, 0, none⟩) (n + 1) cap9)).setCell ⟨w.heap.size + 1, 1, none⟩ (.slice (some ⟨g2, 0, none⟩) m c2')) (w.heap.size + 1) (dsr (some ⟨gg, 0, none⟩) (n + 1) cap9 (some ⟨g2, 0, none⟩) m c2') := (K9z.set 0 (.slice (some ⟨gg, 0, none⟩) (n + 1) cap9) (by simp) (cs' := dsr (some ⟨gg, 0, none⟩) (n + 1) cap9 none 0 0) rfl).set 1 (.slice (some ⟨g2, 0, none⟩) m c2') (by simp) rfl
  have hb9 := hb5.trans (ht9.below (B := w.heap.size) (by omega) hb5.size)
  have ho9 : DE (((w9.setCell ⟨w2.heap.size, 0, none⟩ (.slice (some ⟨gg, 0, none⟩) (n + 1) cap9)).setCell ⟨w.heap.size + 1, 0, none⟩ (.slice (some ⟨gg, 0, none⟩) (n + 1) cap9)).setCell ⟨w.heap.size + 1, 1, none⟩ (.slice (some ⟨g2, 0, none⟩) m c2')) w.heap.size (((w9.setCell ⟨w2.heap.size, 0, none⟩ (.slice (some ⟨gg, 0, none⟩) (n + 1) cap9)).setCell ⟨w.heap.size + 1, 0, none⟩ (.slice (some ⟨gg, 0, none⟩) (n + 1) cap9)).setCell ⟨w.heap.size + 1, 1, none⟩ (.slice (some ⟨g2, 0, none⟩) m c2')).heap.size (some ⟨gg, 0, none⟩) (zs ++ [x]) (some ⟨g2, 0, none⟩) ys := (ho5.betw ht9 (.inl (by omega))).de.wide (by omega) (Nat.le_refl _)
  skip
  clear ht9 z0 z1 zf K9z
  revert k9 hb9 ho9
  generalize (((w9.setCell ⟨w2.heap.size, 0, none⟩ (.slice (some ⟨gg, 0, none⟩) (n + 1) cap9)).setCell ⟨w.heap.size + 1, 0, none⟩ (.slice (some ⟨gg, 0, none⟩) (n + 1) cap9)).setCell ⟨w.heap.size + 1, 1, none⟩ (.slice (some ⟨g2, 0, none⟩) m c2')) = Wf
  intro k9 hb9 ho9
  have q0 := k9.cell 0 _ rfl
  have q1 := k9.cell 1 _ rfl
  exact bodyPost_ret (v := .tuple #[dst (some ⟨gg, 0, none⟩) (n + 1) cap9 (some ⟨g2, 0, none⟩) m c2', .bool true]) (by simp [results, Try.results14, go_sem, q0, q1]) rfl (by rw [HEE.out.1, HEE.out.2.1, HM.out, List.length_append, HL.out]; exact ⟨_, _, _, _, rfl, hb9, ho9, hgg.2.2.2, hg2.2.2.2⟩)
theorem seg_drop {w : World} {b off : Nat} {zs : List Int} (h : Seg .u32 w (some ⟨b, off, none⟩) zs) : Seg .u32 w (some ⟨b, off + 1, none⟩) (zs.drop 1) := fun h0 => by
  simp at h0
  obtain ⟨b1, o1, e, hlt, hc⟩ := h (by omega)
  injection e with e
  injection e with e1 e2 e3
  subst e1 e2
  refine ⟨b, off + 1, rfl, hlt, fun i hi => ?_⟩
  simp at hi
  have := hc (i + 1) (by omega)
  rw [show off + 1 + i = off + (i + 1) by omega, this]
  simp [List.getD]
set_option maxRecDepth 20000 in
theorem slice_one (b off n c : Nat) (zs : List Int) (hl : zs.length = n) (hn : 0 < n) (hc : n ≤ c) : ∃ aS, (∀ w : World, (Instr.slice 22 (.slice (some ⟨b, off, none⟩) n c) (some (.int .i64 1)) none none).run Try.prog w = .ok (.slice aS (n - 1) (c - 1)) w) ∧ ∀ X : World, Seg .u32 X (some ⟨b, off, none⟩) zs → Seg .u32 X aS (zs.drop 1) := by
  by_cases h1 : c = 1
  · refine ⟨some ⟨b, off, none⟩, fun w => ?_, fun X h => ?_⟩
    · rw [run_slice_l w 22 (some ⟨b, off, none⟩) n c Try.underlying22 .i64 1 (by omega) (by omega)]
      have e : ∀ w, (sizeOf (Try.prog.elem 22)).run Try.prog w = .ok 1 w := fun w => by kernel_rfl
      simp [e, sliced, h1]
    · have : zs.drop 1 = [] := List.drop_eq_nil_of_le (by omega)
      rw [this]
      exact fun h0 => absurd h0 (by simp)
  · refine ⟨some ⟨b, off + 1, none⟩, fun w => ?_, fun X h => seg_drop h⟩
    rw [run_slice_l w 22 (some ⟨b, off, none⟩) n c Try.underlying22 .i64 1 (by omega) (by omega)]
    have e : ∀ w, (sizeOf (Try.prog.elem 22)).run Try.prog w = .ok 1 w := fun w => by kernel_rfl
    simp [e, sliced, Addr.add, h1]
    try omega
set_option maxRecDepth 20000 in
set_option maxHeartbeats 2000000 in
theorem spec_red (a : Option Addr) (n c : Nat) (b : Option Addr) (m d : Nat) (zs ys : List Int) (w : World) (hs : Seg .u32 w a zs) (hl : zs.length = n) (hn : n ≤ 1048576) (hc : n ≤ c) (ht : Seg .u32 w b ys) (hlm : ys.length = m) (hm : m ≤ 1048576) (hd : m ≤ d) (ls ms : List Int) (x cd : Int) (HQ : Hid (redF zs ys = (ls, ms, x, cd))) :
    Calls Try.prog 20 #[dst a n c b m d] w fun e w' => ∃ a' c' b' d', e = .returned (.tuple #[dst a' ls.length c' b' ms.length d', .int .u32 x, .int .i64 cd]) ∧ Below w.heap.size w w' ∧ DE w' w.heap.size w'.heap.size a' ls b' ms ∧ ls.length ≤ c' ∧ ms.length ≤ d' := by
  have HB : Hid (Below w.heap.size w ((w.alloc (.cells (dsr a n c b m d) 27)).alloc (.cells (dsr none 0 0 none 0 0) 27))) := ((Below.refl _ w).alloc (Nat.le_refl _) _).alloc (by simp) _
  have HK : Hid (Bk ((w.alloc (.cells (dsr a n c b m d) 27)).alloc (.cells (dsr none 0 0 none 0 0) 27)) w.heap.size (dsr a n c b m d) ∧ Bk ((w.alloc (.cells (dsr a n c b m d) 27)).alloc (.cells (dsr none 0 0 none 0 0) 27)) (w.heap.size + 1) (dsr none 0 0 none 0 0)) := ⟨(Bk.new w _ _ _ rfl).alloc _, Bk.new _ _ _ _ (by simp)⟩
  have HS : Hid (Seg .u32 w a zs) := hs
  have HT : Hid (Seg .u32 w b ys) := ht
  have HL : Hid (zs.length = n) := hl
  have HM : Hid (ys.length = m) := hlm
  clear hs hl ht hlm
  obtain ⟨q0, HOK⟩ : ∃ q, Hid (dvOk n m = q) := ⟨_, rfl⟩
  have HE0 : Hid (q0 = false → ls = [] ∧ ms = [] ∧ x = 0 ∧ cd = 3) := fun e => by
    have g := HQ.out
    unfold redF at g
    rw [HL.out, HM.out, HOK.out, e, if_neg (by decide)] at g
    simp only [Prod.mk.injEq] at g
    exact ⟨g.1.symm, g.2.1.symm, g.2.2.1.symm, g.2.2.2.symm⟩
  have HE1 : Hid (q0 = true → m = 0 → ls = zs ∧ ms = ys ∧ x = 0 ∧ cd = 1) := fun e e2 => by
    have g := HQ.out
    unfold redF at g
    rw [HL.out, HM.out, HOK.out, if_pos e, if_pos e2] at g
    simp only [Prod.mk.injEq] at g
    exact ⟨g.1.symm, g.2.1.symm, g.2.2.1.symm, g.2.2.2.symm⟩
  have HE2 : Hid (q0 = true → ¬ m = 0 → ls = zs ∧ ms = ys.drop 1 ∧ x = ys.getD 0 0 ∧ cd = 0) := fun e e2 => by
    have g := HQ.out
    unfold redF at g
    rw [HL.out, HM.out, HOK.out, if_pos e, if_neg e2] at g
    simp only [Prod.mk.injEq] at g
    exact ⟨g.1.symm, g.2.1.symm, g.2.2.1.symm, g.2.2.2.symm⟩
  have OK : Hid (∀ X, Calls Try.prog 10 #[dst a n c b m d] X fun e w' => e = .returned (.bool q0) ∧ Below X.heap.size X w') := fun X => by rw [← HOK.out]; exact spec_dok a n c b m d X
  have HO8 : Hid (q0 = true → n ≤ 8 ∧ m ≤ 8) := fun e => by have g := HOK.out.trans e; simp [dvOk] at g; exact g
  have CP : Hid (∀ X, Below w.heap.size w X → Calls Try.prog 36 #[dst a n c b m d] X fun e w' => ∃ g1 c1 g2 c2, e = .returned (dst (some ⟨g1, 0, none⟩) n c1 (some ⟨g2, 0, none⟩) m c2) ∧ Below X.heap.size X w' ∧ TwoU w' X.heap.size g1 n c1 g2 m c2 zs ys) := fun X hX => spec_copy a n c b m d zs ys X (HS.out.below hX) HL.out hn (HT.out.below hX) HM.out hm
  clear HOK HQ
  go_enter Try.func20, Try.ntmps20
  go_wp2_with fail
  refine (OK.out _).mono ?_
  rintro u w1 ⟨rfl, hb1⟩
  have HB1 : Hid (Below w.heap.size w w1) := HB.out.trans (hb1.mono HB.out.size)
  have K1 : Hid (Bk w1 w.heap.size (dsr a n c b m d) ∧ Bk w1 (w.heap.size + 1) (dsr none 0 0 none 0 0)) := ⟨HK.out.1.below hb1, HK.out.2.below hb1⟩
  have hz1 : w.heap.size + 2 ≤ w1.heap.size := by have := K1.out.2.lt; omega
  clear HB HK hb1 OK
  cases q0
  · obtain ⟨rfl, rfl, rfl, rfl⟩ := HE0.out (by first | rfl | trivial)
    have K1z := K1.out.2
    have z0 := K1z.cell 0 _ rfl
    have z1 := K1z.cell 1 _ rfl
    have zf := K1z.free
    have ht9 : Betw (w.heap.size + 1) (w.heap.size + 2) w1 ((w1.setCell ⟨w.heap.size + 1, 0, none⟩ (.slice none 0 0)).setCell ⟨w.heap.size + 1, 1, none⟩ (.slice none 0 0)) := ((Betw.refl _ _ w1).setCell (p := ⟨w.heap.size + 1, 0, none⟩) (Nat.le_refl _) (by simp) _).setCell (p := ⟨w.heap.size + 1, 1, none⟩) (Nat.le_refl _) (by simp) _
    have k9 : Bk ((w1.setCell ⟨w.heap.size + 1, 0, none⟩ (.slice none 0 0)).setCell ⟨w.heap.size + 1, 1, none⟩ (.slice none 0 0)) (w.heap.size + 1) (dsr none 0 0 none 0 0) := (K1z.set 0 (.slice none 0 0) (by simp) (cs' := dsr none 0 0 none 0 0) rfl).set 1 (.slice none 0 0) (by simp) rfl
    have hb9 := HB1.out.trans (ht9.below (B := w.heap.size) (by omega) HB1.out.size)
    have ho9 : DE ((w1.setCell ⟨w.heap.size + 1, 0, none⟩ (.slice none 0 0)).setCell ⟨w.heap.size + 1, 1, none⟩ (.slice none 0 0)) w.heap.size ((w1.setCell ⟨w.heap.size + 1, 0, none⟩ (.slice none 0 0)).setCell ⟨w.heap.size + 1, 1, none⟩ (.slice none 0 0)).heap.size none [] none [] := DE.nil _ _ _ _ _
    go_wp2
    clear ht9 z0 z1 zf K1z
    revert k9 hb9 ho9
    generalize ((w1.setCell ⟨w.heap.size + 1, 0, none⟩ (.slice none 0 0)).setCell ⟨w.heap.size + 1, 1, none⟩ (.slice none 0 0)) = Wf
    intro k9 hb9 ho9
    have q0 := k9.cell 0 _ rfl
    have q1 := k9.cell 1 _ rfl
    exact bodyPost_ret (v := .tuple #[dst none 0 0 none 0 0, .int .u32 0, .int .i64 3]) (by simp [results, Try.results20, go_sem, q0, q1]) rfl ⟨_, _, _, _, rfl, hb9, ho9, Nat.le_refl _, Nat.le_refl _⟩
  obtain ⟨hn8, hm8⟩ := HO8.out (by first | rfl | trivial)
  clear HE0
  have c0 := K1.out.1.cell 0 _ rfl
  have c1 := K1.out.1.cell 1 _ rfl
  go_wp2_with fail
  refine (CP.out _ HB1.out).mono ?_
  rintro u w2 ⟨g1, c1', g2, c2', rfl, hb2, ho2⟩
  clear c0 c1
  have hz2 := hb2.size
  have hg1 := ho2.o1.blk_lt
  have hg2 := ho2.o2.blk_lt
  have hal : Below w2.heap.size w2 (w2.alloc (.cells (dsr (some ⟨g1, 0, none⟩) n c1' (some ⟨g2, 0, none⟩) m c2') 27)) := (Below.refl _ _).alloc (Nat.le_refl _) _
  have hb2' := hb2.trans (hal.mono hb2.size)
  have HB2 : Hid (Below w.heap.size w (w2.alloc (.cells (dsr (some ⟨g1, 0, none⟩) n c1' (some ⟨g2, 0, none⟩) m c2') 27))) := HB1.out.trans (hb2'.mono HB1.out.size)
  have K2 : Hid (Bk (w2.alloc (.cells (dsr (some ⟨g1, 0, none⟩) n c1' (some ⟨g2, 0, none⟩) m c2') 27)) w.heap.size (dsr a n c b m d) ∧ Bk (w2.alloc (.cells (dsr (some ⟨g1, 0, none⟩) n c1' (some ⟨g2, 0, none⟩) m c2') 27)) (w.heap.size + 1) (dsr none 0 0 none 0 0) ∧ Bk (w2.alloc (.cells (dsr (some ⟨g1, 0, none⟩) n c1' (some ⟨g2, 0, none⟩) m c2') 27)) w2.heap.size (dsr (some ⟨g1, 0, none⟩) n c1' (some ⟨g2, 0, none⟩) m c2')) := ⟨K1.out.1.below hb2', K1.out.2.below hb2', Bk.new _ _ _ _ rfl⟩
  have HO2 : Hid (TwoU (w2.alloc (.cells (dsr (some ⟨g1, 0, none⟩) n c1' (some ⟨g2, 0, none⟩) m c2') 27)) w1.heap.size g1 n c1' g2 m c2' zs ys) := ho2.below hal
  have hv2 : w2.heap.size + 1 ≤ (w2.alloc (.cells (dsr (some ⟨g1, 0, none⟩) n c1' (some ⟨g2, 0, none⟩) m c2') 27)).heap.size := by simp
  clear hal hb2 hb2' ho2 HB1 K1 CP
  have hne := HO2.out.ne
  have x1 := K2.out.1.cell 1 _ rfl
  have y0 := K2.out.2.2.cell 0 _ rfl
  have y1 := K2.out.2.2.cell 1 _ rfl
  by_cases h8 : m = 0
  · have hn8' : (m : Int) = 0 := by omega
    have HEE : Hid (ls = zs ∧ ms = ys ∧ x = 0 ∧ cd = 1) := HE1.out (by first | rfl | trivial) h8
    have K2z := K2.out.2.1
    obtain ⟨_, _, hx0, hx1⟩ := HEE.out
    subst hx0 hx1
    clear h8 HE1 HE2
    have z0 := K2z.cell 0 _ rfl
    have z1 := K2z.cell 1 _ rfl
    have zf := K2z.free
    have ht9 : Betw (w.heap.size + 1) (w.heap.size + 2) (w2.alloc (.cells (dsr (some ⟨g1, 0, none⟩) n c1' (some ⟨g2, 0, none⟩) m c2') 27)) (((w2.alloc (.cells (dsr (some ⟨g1, 0, none⟩) n c1' (some ⟨g2, 0, none⟩) m c2') 27)).setCell ⟨w.heap.size + 1, 0, none⟩ (.slice (some ⟨g1, 0, none⟩) n c1')).setCell ⟨w.heap.size + 1, 1, none⟩ (.slice (some ⟨g2, 0, none⟩) m c2')) := ((Betw.refl _ _ (w2.alloc (.cells (dsr (some ⟨g1, 0, none⟩) n c1' (some ⟨g2, 0, none⟩) m c2') 27))).setCell (p := ⟨w.heap.size + 1, 0, none⟩) (Nat.le_refl _) (by simp) _).setCell (p := ⟨w.heap.size + 1, 1, none⟩) (Nat.le_refl _) (by simp) _
    have k9 : Bk (((w2.alloc (.cells (dsr (some ⟨g1, 0, none⟩) n c1' (some ⟨g2, 0, none⟩) m c2') 27)).setCell ⟨w.heap.size + 1, 0, none⟩ (.slice (some ⟨g1, 0, none⟩) n c1')).setCell ⟨w.heap.size + 1, 1, none⟩ (.slice (some ⟨g2, 0, none⟩) m c2')) (w.heap.size + 1) (dsr (some ⟨g1, 0, none⟩) n c1' (some ⟨g2, 0, none⟩) m c2') := (K2z.set 0 (.slice (some ⟨g1, 0, none⟩) n c1') (by simp) (cs' := dsr (some ⟨g1, 0, none⟩) n c1' none 0 0) rfl).set 1 (.slice (some ⟨g2, 0, none⟩) m c2') (by simp) rfl
    have hb9 := HB2.out.trans (ht9.below (B := w.heap.size) (by omega) HB2.out.size)
    have ho9 : DE (((w2.alloc (.cells (dsr (some ⟨g1, 0, none⟩) n c1' (some ⟨g2, 0, none⟩) m c2') 27)).setCell ⟨w.heap.size + 1, 0, none⟩ (.slice (some ⟨g1, 0, none⟩) n c1')).setCell ⟨w.heap.size + 1, 1, none⟩ (.slice (some ⟨g2, 0, none⟩) m c2')) w.heap.size (((w2.alloc (.cells (dsr (some ⟨g1, 0, none⟩) n c1' (some ⟨g2, 0, none⟩) m c2') 27)).setCell ⟨w.heap.size + 1, 0, none⟩ (.slice (some ⟨g1, 0, none⟩) n c1')).setCell ⟨w.heap.size + 1, 1, none⟩ (.slice (some ⟨g2, 0, none⟩) m c2')).heap.size (some ⟨g1, 0, none⟩) zs (some ⟨g2, 0, none⟩) ys := (HO2.out.betw ht9 (.inl (by omega))).de.wide (by omega) (Nat.le_refl _)
    go_wp2
    clear ht9 z0 z1 zf K2z x1 y0 y1
    revert k9 hb9 ho9
    generalize (((w2.alloc (.cells (dsr (some ⟨g1, 0, none⟩) n c1' (some ⟨g2, 0, none⟩) m c2') 27)).setCell ⟨w.heap.size + 1, 0, none⟩ (.slice (some ⟨g1, 0, none⟩) n c1')).setCell ⟨w.heap.size + 1, 1, none⟩ (.slice (some ⟨g2, 0, none⟩) m c2')) = Wf
    intro k9 hb9 ho9
    have q0 := k9.cell 0 _ rfl
    have q1 := k9.cell 1 _ rfl
    exact bodyPost_ret (v := .tuple #[dst (some ⟨g1, 0, none⟩) n c1' (some ⟨g2, 0, none⟩) m c2', .int .u32 0, .int .i64 1]) (by simp [results, Try.results20, go_sem, q0, q1]) rfl (by rw [HEE.out.1, HEE.out.2.1, HL.out, HM.out]; exact ⟨_, _, _, _, rfl, hb9, ho9, hg1.2.2.2, hg2.2.2.2⟩)
  have hn8' : ¬ ((m : Int) = 0) := by omega
  have HEE : Hid (ls = zs ∧ ms = ys.drop 1 ∧ x = ys.getD 0 0 ∧ cd = 0) := HE2.out (by first | rfl | trivial) h8
  have hcd := HEE.out.2.2.2
  subst hcd
  obtain ⟨bb, off, hbb0, hblt, hbc⟩ := HT.out (by have := HM.out; omega)
  subst hbb0
  have HTX : Hid (w.cell? ⟨bb, off, none⟩ = some (.int .u32 x)) := (show w.cell? ⟨bb, off, none⟩ = some (.int .u32 x) by have := hbc 0 (by have := HM.out; omega); rw [Nat.add_zero] at this; rw [this, HEE.out.2.2.1])
  obtain ⟨aS, hsl, hsg⟩ := slice_one bb off m d ys HM.out (by omega) hd
  have HLS : Hid (∀ X, Below w.heap.size w X → Calls Try.prog 42 #[.slice aS (m - 1) (d - 1)] X fun e w' => ∃ g c', e = .returned (.slice (some ⟨g, 0, none⟩) (m - 1) c') ∧ Below X.heap.size X w' ∧ OwnU w' X.heap.size (.slice (some ⟨g, 0, none⟩) (m - 1) c') (ys.drop 1)) := fun X hX => spec_listU aS (m - 1) (d - 1) (ys.drop 1) X (hsg X (HT.out.below hX)) (by have := HM.out; simp; omega) (by omega)
  clear h8 HE1 HE2 hbc hsg
  go_wp2_with fail
  refine (HLS.out _ HB2.out).mono ?_
  rintro u w3 ⟨g3, c3, rfl, hb3, ho3⟩
  have hz3 := hb3.size
  have hg3 := ho3.blk_lt
  have HB3 : Hid (Below w.heap.size w w3) := HB2.out.trans (hb3.mono HB2.out.size)
  have K3 : Hid (Bk w3 w.heap.size (dsr a n c (some ⟨bb, off, none⟩) m d) ∧ Bk w3 (w.heap.size + 1) (dsr none 0 0 none 0 0) ∧ Bk w3 w2.heap.size (dsr (some ⟨g1, 0, none⟩) n c1' (some ⟨g2, 0, none⟩) m c2')) := ⟨K2.out.1.below hb3, K2.out.2.1.below hb3, K2.out.2.2.below hb3⟩
  have HO3 : Hid (TwoU w3 w1.heap.size g1 n c1' g3 (m - 1) c3 zs (ys.drop 1)) := ⟨HO2.out.o1.below hb3, ho3.low (by omega), by omega⟩
  clear ho3 hb3 HB2 K2 HO2 x1 y0 y1
  have y1 := K3.out.2.2.cell 1 _ rfl
  have yf := K3.out.2.2.free
  have hg3n : g3 ≠ w2.heap.size := by omega
  have ht5 : Betw w2.heap.size (w2.heap.size + 1) w3 (w3.setCell ⟨w2.heap.size, 1, none⟩ (.slice (some ⟨g3, 0, none⟩) (m - 1) c3)) := (Betw.refl _ _ w3).setCell (p := ⟨w2.heap.size, 1, none⟩) (Nat.le_refl _) (by simp) _
  have HB5 : Hid (Below w.heap.size w (w3.setCell ⟨w2.heap.size, 1, none⟩ (.slice (some ⟨g3, 0, none⟩) (m - 1) c3))) := HB3.out.trans (ht5.below (B := w.heap.size) (by omega) HB3.out.size)
  have K5 : Hid (Bk (w3.setCell ⟨w2.heap.size, 1, none⟩ (.slice (some ⟨g3, 0, none⟩) (m - 1) c3)) w.heap.size (dsr a n c (some ⟨bb, off, none⟩) m d) ∧ Bk (w3.setCell ⟨w2.heap.size, 1, none⟩ (.slice (some ⟨g3, 0, none⟩) (m - 1) c3)) (w.heap.size + 1) (dsr none 0 0 none 0 0) ∧ Bk (w3.setCell ⟨w2.heap.size, 1, none⟩ (.slice (some ⟨g3, 0, none⟩) (m - 1) c3)) w2.heap.size (dsr (some ⟨g1, 0, none⟩) n c1' (some ⟨g3, 0, none⟩) (m - 1) c3)) := ⟨K3.out.1.other _ 1 _ (by omega), K3.out.2.1.other _ 1 _ (by omega), K3.out.2.2.set 1 _ (by simp) rfl⟩
  have HO5 : Hid (TwoU (w3.setCell ⟨w2.heap.size, 1, none⟩ (.slice (some ⟨g3, 0, none⟩) (m - 1) c3)) w1.heap.size g1 n c1' g3 (m - 1) c3 zs (ys.drop 1)) := ⟨HO3.out.o1.betw ht5 (by omega), HO3.out.o2.betw ht5 (by omega), HO3.out.ne⟩
  go_wp2
  clear y1 yf ht5 HB3 K3 HO3
  revert HB5 K5 HO5
  generalize (w3.setCell ⟨w2.heap.size, 1, none⟩ (.slice (some ⟨g3, 0, none⟩) (m - 1) c3)) = Y
  intro HB5 K5 HO5
  have e1 : Y.cell? ⟨bb, off, none⟩ = some (.int .u32 x) := kept_c HB5.out HTX.out
  have x1 : Y.cell? ⟨w.heap.size, 1, none⟩ = some (.slice (some ⟨bb, off, none⟩) m d) := K5.out.1.cell 1 _ rfl
  have y0 : Y.cell? ⟨w2.heap.size, 0, none⟩ = some (.slice (some ⟨g1, 0, none⟩) n c1') := K5.out.2.2.cell 0 _ rfl
  have y1 : Y.cell? ⟨w2.heap.size, 1, none⟩ = some (.slice (some ⟨g3, 0, none⟩) (m - 1) c3) := K5.out.2.2.cell 1 _ rfl
  have z0 := K5.out.2.1.cell 0 _ rfl
  have z1 := K5.out.2.1.cell 1 _ rfl
  have zf := K5.out.2.1.free
  have hm0 : (0 : Int) < (m : Int) := by omega
  go_region_held_law (fun w' => w'.cell? ⟨bb, off, none⟩ = some (.int .u32 x) ∧ w'.cell? ⟨w.heap.size, 1, none⟩ = some (.slice (some ⟨bb, off, none⟩) m d) ∧ w'.cell? ⟨w2.heap.size, 0, none⟩ = some (.slice (some ⟨g1, 0, none⟩) n c1') ∧ w'.cell? ⟨w2.heap.size, 1, none⟩ = some (.slice (some ⟨g3, 0, none⟩) (m - 1) c3)) (first | with_reducible exact ⟨e1, x1, y0, y1⟩ | with_reducible exact ⟨dr_c e1, dr_c x1, dr_c y0, dr_c y1⟩ | with_reducible exact ⟨st2 (by omega) e1, st2 (by omega) x1, st2 (by omega) y0, st2 (by omega) y1⟩ | with_reducible exact ⟨dr_c (st2 (by omega) e1), dr_c (st2 (by omega) x1), dr_c (st2 (by omega) y0), dr_c (st2 (by omega) y1)⟩) (fail)
  all_goals
    rename_i hhh
    clear hhh
    have ht0 : Betw (w.heap.size + 1) (w.heap.size + 2) Y ((Y.setCell ⟨w.heap.size + 1, 0, none⟩ (.slice (some ⟨g1, 0, none⟩) n c1')).setCell ⟨w.heap.size + 1, 1, none⟩ (.slice (some ⟨g3, 0, none⟩) (m - 1) c3)) := ((Betw.refl _ _ Y).setCell (p := ⟨w.heap.size + 1, 0, none⟩) (Nat.le_refl _) (by simp) _).setCell (p := ⟨w.heap.size + 1, 1, none⟩) (Nat.le_refl _) (by simp) _
    have ht9 : Betw (w.heap.size + 1) (w.heap.size + 2) Y ((Y.setCell ⟨w.heap.size + 1, 0, none⟩ (.slice (some ⟨g1, 0, none⟩) n c1')).setCell ⟨w.heap.size + 1, 1, none⟩ (.slice (some ⟨g3, 0, none⟩) (m - 1) c3)).drew := ht0.trans (Below.betw ((Below.refl _ _).drew))
    have k0 : Bk ((Y.setCell ⟨w.heap.size + 1, 0, none⟩ (.slice (some ⟨g1, 0, none⟩) n c1')).setCell ⟨w.heap.size + 1, 1, none⟩ (.slice (some ⟨g3, 0, none⟩) (m - 1) c3)) (w.heap.size + 1) (dsr (some ⟨g1, 0, none⟩) n c1' (some ⟨g3, 0, none⟩) (m - 1) c3) := (K5.out.2.1.set 0 (.slice (some ⟨g1, 0, none⟩) n c1') (by simp) (cs' := dsr (some ⟨g1, 0, none⟩) n c1' none 0 0) rfl).set 1 (.slice (some ⟨g3, 0, none⟩) (m - 1) c3) (by simp) rfl
    have k9 := k0.below ((Below.refl _ _).drew)
    have hb9 := HB5.out.trans (ht9.below (B := w.heap.size) (by omega) HB5.out.size)
    have ho9 : DE ((Y.setCell ⟨w.heap.size + 1, 0, none⟩ (.slice (some ⟨g1, 0, none⟩) n c1')).setCell ⟨w.heap.size + 1, 1, none⟩ (.slice (some ⟨g3, 0, none⟩) (m - 1) c3)).drew w.heap.size ((Y.setCell ⟨w.heap.size + 1, 0, none⟩ (.slice (some ⟨g1, 0, none⟩) n c1')).setCell ⟨w.heap.size + 1, 1, none⟩ (.slice (some ⟨g3, 0, none⟩) (m - 1) c3)).drew.heap.size (some ⟨g1, 0, none⟩) zs (some ⟨g3, 0, none⟩) (ys.drop 1) := (HO5.out.betw ht9 (.inl (by omega))).de.wide (by omega) (Nat.le_refl _)
    clear ht0 ht9 k0 e1 x1 y0 y1 z0 z1 zf
    revert k9 hb9 ho9
    generalize ((Y.setCell ⟨w.heap.size + 1, 0, none⟩ (.slice (some ⟨g1, 0, none⟩) n c1')).setCell ⟨w.heap.size + 1, 1, none⟩ (.slice (some ⟨g3, 0, none⟩) (m - 1) c3)).drew = Wf
    intro k9 hb9 ho9
    have HB9 : Hid _ := hb9
    have HO9 : Hid _ := ho9
    have q0 := k9.cell 0 _ rfl
    have q1 := k9.cell 1 _ rfl
    clear hb9 ho9 k9
    go_wp2
    refine bodyPost_ret (v := .tuple #[dst (some ⟨g1, 0, none⟩) n c1' (some ⟨g3, 0, none⟩) (m - 1) c3, .int .u32 x, .int .i64 0]) (by simp [results, Try.results20, go_sem, q0, q1]) rfl ?_
    have hdl : (ys.drop 1).length = m - 1 := by have := HM.out; simp; omega
    rw [HEE.out.1, HEE.out.2.1, HL.out, hdl]
    exact ⟨_, _, _, _, rfl, HB9.out, HO9.out, hg1.2.2.2, hg3.2.2.2⟩
end Go.Proofs.Ythfmggfohegpnaa
