
/-
  The lists of the program's device handed out again. Conditions: at most 8 words in each list, that read as words.
-/
import Derived.Test.YthfmggfohegpnaaRows
import Derived.Test.YthfmggfohegpnaaDvf
namespace Go.Proofs.Ythfmggfohegpnaa
open Go.ChangeShapes Go.WideShapes Go.ChangeAt Go.RowKit Go.Deep
set_option linter.unusedVariables false

theorem DvM.seg0 {w : World} {B : Nat} {zs ys : List Int} (h : DvM w B zs ys) : Seg .u32 w (some ⟨B, 0, none⟩) zs := fun _ => by
  obtain ⟨cur, h1, h2, h3, h4⟩ := h
  exact ⟨B, 0, rfl, h1.lt, fun i hi => by rw [h1.cell]; exact h3.at_ i (by have := h3.len; omega)⟩
theorem DvM.seg9 {w : World} {B : Nat} {zs ys : List Int} (h : DvM w B zs ys) : Seg .u32 w (some ⟨B, 9, none⟩) ys := fun _ => by
  obtain ⟨cur, h1, h2, h3, h4⟩ := h
  exact ⟨B, 9, rfl, h1.lt, fun i hi => by rw [h1.cell]; exact h4.at_ i (by have := h4.len; omega)⟩
set_option maxRecDepth 20000 in
set_option maxHeartbeats 2000000 in
theorem dv_state (B : Nat) (zs ys : List Int) (n m : Nat) (w : World) (h : DvM w B zs ys) (hl : zs.length = n) (hlm : ys.length = m) :
    Calls Try.prog 39 #[.pointer (some ⟨B, 0, none⟩)] w fun e w' => ∃ g1 g2, e = .returned (dst (some ⟨g1, 0, none⟩) n n (some ⟨g2, 0, none⟩) m m) ∧ Below w.heap.size w w' ∧ TwoU w' w.heap.size g1 n n g2 m m zs ys := by
  have hn8 : n ≤ 8 := by have := h.few; omega
  have hm8 : m ≤ 8 := by have := h.few; omega
  have HE1 : Hid (∀ X, DvM X B zs ys → Calls Try.prog 60 #[.pointer (some ⟨B, 0, none⟩)] X fun e w' => e = .returned (.slice (some ⟨B, 0, none⟩) n 8) ∧ Below X.heap.size X w') := fun X hX => by obtain ⟨cur, h1, h2, h3, h4⟩ := hX; exact (impl_held B 0 65 cur zs n X h1 h3 hl).mono fun e w' g => ⟨g.1, g.2.1⟩
  have HE2 : Hid (∀ X, DvM X B zs ys → Calls Try.prog 60 #[.pointer (some ⟨B, 9, none⟩)] X fun e w' => e = .returned (.slice (some ⟨B, 9, none⟩) m 8) ∧ Below X.heap.size X w') := fun X hX => by obtain ⟨cur, h1, h2, h3, h4⟩ := hX; exact (impl_held B 9 65 cur ys m X h1 h4 hlm).mono fun e w' g => ⟨g.1, g.2.1⟩
  have HC1 : Hid (∀ X, DvM X B zs ys → Calls Try.prog 59 #[.slice (some ⟨B, 0, none⟩) n 8] X fun e w' => ∃ g, e = .returned (.slice (some ⟨g, 0, none⟩) n n) ∧ Below X.heap.size X w' ∧ OwnU w' X.heap.size (.slice (some ⟨g, 0, none⟩) n n) zs) := fun X hX => impl_copied _ n 8 zs X hX.seg0 hl (by omega)
  have HC2 : Hid (∀ X, DvM X B zs ys → Calls Try.prog 59 #[.slice (some ⟨B, 9, none⟩) m 8] X fun e w' => ∃ g, e = .returned (.slice (some ⟨g, 0, none⟩) m m) ∧ Below X.heap.size X w' ∧ OwnU w' X.heap.size (.slice (some ⟨g, 0, none⟩) m m) ys) := fun X hX => impl_copied _ m 8 ys X hX.seg9 hlm (by omega)
  have HB : Hid (Below w.heap.size w (w.alloc (.cells (dsr none 0 0 none 0 0) 27))) := (Below.refl _ w).alloc (Nat.le_refl _) _
  have HZ : Hid (Bk (w.alloc (.cells (dsr none 0 0 none 0 0) 27)) w.heap.size (dsr none 0 0 none 0 0)) := Bk.new w _ _ _ rfl
  have HD : Hid (DvM (w.alloc (.cells (dsr none 0 0 none 0 0) 27)) B zs ys) := h.below HB.out
  clear h hl hlm
  go_enter Try.func39, Try.ntmps39
  go_wp2
  revert HB HZ HD
  generalize hW : w.alloc (.cells (dsr none 0 0 none 0 0) 27) = W0
  have hz0 : w.heap.size + 1 ≤ W0.heap.size := by rw [← hW]; simp
  clear hW
  intro HB HZ HD
  have hb : Below W0.heap.size W0 W0 := Below.refl _ _
  have ph1 : Hid (0 = 0) := rfl
  have ph2 : Hid (0 = 0) := rfl
  have HDX : Hid (∀ X, Below W0.heap.size W0 X → DvM X B zs ys) := fun X hX => HD.out.below hX
  go_region_held_law (fun w' => True) (exact True.intro)
    (first
      | (go_at_call 60; clear ph1; refine Calls.mono (HE1.out _ (HDX.out _ (by first | exact hb | exact hb.drew))) ?_; rintro u w1 ⟨rfl, hbb⟩; have hbn := (by first | exact hb.trans (hbb.mono hb.size) | exact hb.drew.trans (hbb.mono hb.drew.size)); replace hb := hbn; clear hbn hbb)
      | (go_at_call 60; refine Calls.mono (HE2.out _ (HDX.out _ (by first | exact hb | exact hb.drew))) ?_; rintro u w3 ⟨rfl, hbb⟩; have hz3 := hbb.size; have O3 : Hid (OwnU w3 W0.heap.size (.slice (some ⟨g1, 0, none⟩) n n) zs) := (by first | exact O1.out.below hbb | exact (O1.out.below (Below.refl _ _).drew).below hbb); have hbn := (by first | exact hb.trans (hbb.mono hb.size) | exact hb.drew.trans (hbb.mono hb.drew.size)); replace hb := hbn; clear hbn hbb hz3 O1)
      | (go_at_call 59; clear ph2; refine Calls.mono (HC1.out _ (HDX.out _ (by first | exact hb | exact hb.drew))) ?_; rintro u w2 ⟨g1, rfl, hbb, ho1⟩; have O1 : Hid (OwnU w2 W0.heap.size (.slice (some ⟨g1, 0, none⟩) n n) zs) := ho1.low (by first | exact hb.size | exact hb.drew.size); have hbn := (by first | exact hb.trans (hbb.mono hb.size) | exact hb.drew.trans (hbb.mono hb.drew.size)); replace hb := hbn; clear hbn hbb ho1)
      | (go_at_call 59; refine Calls.mono (HC2.out _ (HDX.out _ (by first | exact hb | exact hb.drew))) ?_; rintro u w4 ⟨g2, rfl, hbb, ho2⟩; have O4 : Hid (TwoU w4 W0.heap.size g1 n n g2 m m zs ys) := ⟨(by first | exact O3.out.below hbb | exact (O3.out.below (Below.refl _ _).drew).below hbb), ho2.low (by first | exact hb.size | exact hb.drew.size), by have h1 := O3.out.blk_lt; have h2 := ho2.blk_lt; have h3 : w3.drew.heap.size = w3.heap.size := rfl; omega⟩; have hbn := (by first | exact hb.trans (hbb.mono hb.size) | exact hb.drew.trans (hbb.mono hb.drew.size)); replace hb := hbn; have z0 := (HZ.out.below hb).cell 0 _ rfl; have z1 := (HZ.out.below hb).cell 1 _ rfl; have zf := (HZ.out.below hb).free; clear hbn hbb ho2))
  all_goals
    rename_i hhh
    clear hhh
    have hz4 := hb.size
    have hbt : Betw w.heap.size (w.heap.size + 1) w4 ((w4.setCell ⟨w.heap.size, 0, none⟩ (.slice (some ⟨g1, 0, none⟩) n n)).setCell ⟨w.heap.size, 1, none⟩ (.slice (some ⟨g2, 0, none⟩) m m)) := ((Betw.refl _ _ w4).setCell (p := ⟨w.heap.size, 0, none⟩) (Nat.le_refl _) (by simp) _).setCell (p := ⟨w.heap.size, 1, none⟩) (Nat.le_refl _) (by simp) _
    have k9 : Bk ((w4.setCell ⟨w.heap.size, 0, none⟩ (.slice (some ⟨g1, 0, none⟩) n n)).setCell ⟨w.heap.size, 1, none⟩ (.slice (some ⟨g2, 0, none⟩) m m)) w.heap.size (dsr (some ⟨g1, 0, none⟩) n n (some ⟨g2, 0, none⟩) m m) := ((HZ.out.below hb).set 0 (.slice (some ⟨g1, 0, none⟩) n n) (by simp) (cs' := dsr (some ⟨g1, 0, none⟩) n n none 0 0) rfl).set 1 _ (by simp) rfl
    have hb9 := (HB.out.trans (hb.mono HB.out.size)).trans (hbt.below (B := w.heap.size) (by omega) (by omega))
    have ho9 := (O4.out.betw hbt (.inl (by omega))).low (b' := w.heap.size) (by omega)
    clear hbt z0 z1 zf hb O3 O4 HZ HB hz4 HD HDX
    revert k9 hb9 ho9
    generalize (w4.setCell ⟨w.heap.size, 0, none⟩ (.slice (some ⟨g1, 0, none⟩) n n)).setCell ⟨w.heap.size, 1, none⟩ (.slice (some ⟨g2, 0, none⟩) m m) = Wf
    intro k9 hb9 ho9
    have HB9 : Hid _ := hb9
    have HO9 : Hid _ := ho9
    have q0 := k9.cell 0 _ rfl
    have q1 := k9.cell 1 _ rfl
    clear hb9 ho9 k9
    go_wp2
    exact bodyPost_ret (v := dst (some ⟨g1, 0, none⟩) n n (some ⟨g2, 0, none⟩) m m) (by simp [results, Try.results39, go_sem, q0, q1]) rfl ⟨_, _, rfl, HB9.out, HO9.out⟩
end Go.Proofs.Ythfmggfohegpnaa
