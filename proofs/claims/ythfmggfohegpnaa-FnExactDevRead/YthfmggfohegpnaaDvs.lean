
/-
  The specification's copy of a device, its DevInput: what the plain functions say, in memory of its own. Conditions: the words read as words, at most 1048576 of them.
-/
import Derived.Test.YthfmggfohegpnaaRows
import Derived.Test.YthfmggfohegpnaaDvo
import Derived.Deep.RegionHeldLaw
namespace Go.Proofs.Ythfmggfohegpnaa
open Go.ChangeShapes Go.WideShapes Go.ChangeAt Go.RowKit Go.Deep
set_option linter.unusedVariables false

/-- Two lists that the call owns, apart from each other. -/
structure TwoU (w : World) (base : Nat) (g1 n c1 g2 m c2 : Nat) (zs ys : List Int) : Prop where
  o1 : OwnU w base (.slice (some ⟨g1, 0, none⟩) n c1) zs
  o2 : OwnU w base (.slice (some ⟨g2, 0, none⟩) m c2) ys
  ne : g1 ≠ g2
theorem OwnU.blk_lt {w : World} {base g n c : Nat} {zs : List Int} (h : OwnU w base (.slice (some ⟨g, 0, none⟩) n c) zs) : base ≤ g ∧ g < w.heap.size ∧ zs.length = n ∧ n ≤ c := by
  rcases h.2 with ⟨h0, _⟩ | ⟨g', cap, cur, e, hb, hg, h1, r⟩
  · cases h0
  · injection e with e1 e2 e3
    injection e1 with e1
    injection e1 with e1
    subst e1 e2 e3
    refine ⟨hb, ?_, rfl, h1⟩
    rcases Nat.lt_or_ge g w.heap.size with hlt | hge
    · exact hlt
    · rw [Array.getElem?_eq_none hge] at hg; cases hg
theorem OwnU.onu {w : World} {base g n c : Nat} {zs : List Int} (h : OwnU w base (.slice (some ⟨g, 0, none⟩) n c) zs) : ON .u32 w base w.heap.size (some ⟨g, 0, none⟩) zs g := by
  obtain ⟨hb, hlt, hl, hc⟩ := h.blk_lt
  rcases h.2 with ⟨h0, _⟩ | ⟨g', cap, cur, e, hb, hg, h1, h2, h3, h4⟩
  · cases h0
  · injection e with e1 e2 e3
    injection e1 with e1
    injection e1 with e1
    subst e1 e2 e3
    intro h0
    refine ⟨0, rfl, hb, hlt, hlt, fun i hi => ?_, fun i => by simp [World.frozen?, hg]⟩
    rw [Nat.zero_add]
    have e : cur[i]? = some (.int .u32 (zs.getD i 0)) := by
      have := congrArg (·[i]?) h4
      simp only [Nat.mul_one] at this
      rw [List.getElem?_take, if_pos hi] at this
      simpa [hi, List.getD] using this
    simp [World.cell?, hg, e]
theorem TwoU.de {w : World} {base g1 n c1 g2 m c2 : Nat} {zs ys : List Int} (h : TwoU w base g1 n c1 g2 m c2 zs ys) : DE w base w.heap.size (some ⟨g1, 0, none⟩) zs (some ⟨g2, 0, none⟩) ys :=
  ⟨g1, g2, h.o1.onu, h.o2.onu, fun _ _ => h.ne⟩
theorem TwoU.below {w w' : World} {base g1 n c1 g2 m c2 : Nat} {zs ys : List Int} (h : TwoU w base g1 n c1 g2 m c2 zs ys) (hb : Below w.heap.size w w') : TwoU w' base g1 n c1 g2 m c2 zs ys := ⟨h.o1.below hb, h.o2.below hb, h.ne⟩
theorem OwnU.betw {w w' : World} {base lo hi g n c : Nat} {zs : List Int} (h : OwnU w base (.slice (some ⟨g, 0, none⟩) n c) zs) (hb : Betw lo hi w w') (ho : g < lo ∨ hi ≤ g) : OwnU w' base (.slice (some ⟨g, 0, none⟩) n c) zs := by
  refine ⟨h.1, ?_⟩
  rcases h.2 with hn | ⟨g', cap, cur, e, hbs, hgg, rest⟩
  · exact .inl hn
  · refine .inr ⟨g', cap, cur, e, hbs, ?_, rest⟩
    have hlt := h.blk_lt.2.1
    injection e with e1 e2 e3
    injection e1 with e1
    injection e1 with e1
    subst e1
    rw [hb.block g hlt (by omega)]
    exact hgg
theorem TwoU.betw {w w' : World} {base lo hi g1 n c1 g2 m c2 : Nat} {zs ys : List Int} (h : TwoU w base g1 n c1 g2 m c2 zs ys) (hb : Betw lo hi w w') (ho : hi ≤ base ∨ w.heap.size ≤ lo) : TwoU w' base g1 n c1 g2 m c2 zs ys := by
  have := h.o1.blk_lt
  have := h.o2.blk_lt
  exact ⟨h.o1.betw hb (by omega), h.o2.betw hb (by omega), h.ne⟩
theorem TwoU.low {w : World} {base b' g1 n c1 g2 m c2 : Nat} {zs ys : List Int} (h : TwoU w base g1 n c1 g2 m c2 zs ys) (hle : b' ≤ base) : TwoU w b' g1 n c1 g2 m c2 zs ys := ⟨h.o1.low hle, h.o2.low hle, h.ne⟩
theorem spec_listU (a : Option Addr) (n c : Nat) (zs : List Int) (w : World) (hs : Seg .u32 w a zs) (hl : zs.length = n) (hn : n ≤ 1048576) :
    Calls Try.prog 42 #[.slice a n c] w fun e w' => ∃ g c', e = .returned (.slice (some ⟨g, 0, none⟩) n c') ∧ Below w.heap.size w w' ∧ OwnU w' w.heap.size (.slice (some ⟨g, 0, none⟩) n c') zs := by
  refine (spec_list a n c zs w hs hl hn).mono ?_
  rintro e w' ⟨v, rfl, hb, ho, hv⟩
  obtain ⟨g, cap, rfl, _⟩ := ho.shape hv hl
  exact ⟨g, cap, rfl, hb, ho⟩
set_option maxRecDepth 20000 in
set_option maxHeartbeats 2000000 in
theorem spec_copy (a : Option Addr) (n c : Nat) (b : Option Addr) (m d : Nat) (zs ys : List Int) (w : World) (hs : Seg .u32 w a zs) (hl : zs.length = n) (hn : n ≤ 1048576) (ht : Seg .u32 w b ys) (hlm : ys.length = m) (hm : m ≤ 1048576) :
    Calls Try.prog 36 #[dst a n c b m d] w fun e w' => ∃ g1 c1 g2 c2, e = .returned (dst (some ⟨g1, 0, none⟩) n c1 (some ⟨g2, 0, none⟩) m c2) ∧ Below w.heap.size w w' ∧ TwoU w' w.heap.size g1 n c1 g2 m c2 zs ys := by
  have HB : Hid (Below w.heap.size w ((w.alloc (.cells (dsr a n c b m d) 27)).alloc (.cells (dsr none 0 0 none 0 0) 27))) := ((Below.refl _ w).alloc (Nat.le_refl _) _).alloc (by simp) _
  have HK : Hid (Bk ((w.alloc (.cells (dsr a n c b m d) 27)).alloc (.cells (dsr none 0 0 none 0 0) 27)) w.heap.size (dsr a n c b m d) ∧ Bk ((w.alloc (.cells (dsr a n c b m d) 27)).alloc (.cells (dsr none 0 0 none 0 0) 27)) (w.heap.size + 1) (dsr none 0 0 none 0 0)) := ⟨(Bk.new w _ _ _ rfl).alloc _, Bk.new _ _ _ _ (by simp)⟩
  have L1 : Hid (∀ X, Below w.heap.size w X → Calls Try.prog 42 #[.slice a n c] X fun e w' => ∃ g c', e = .returned (.slice (some ⟨g, 0, none⟩) n c') ∧ Below X.heap.size X w' ∧ OwnU w' X.heap.size (.slice (some ⟨g, 0, none⟩) n c') zs) := fun X hX => spec_listU a n c zs X (hs.below hX) hl hn
  have L2 : Hid (∀ X, Below w.heap.size w X → Calls Try.prog 42 #[.slice b m d] X fun e w' => ∃ g c', e = .returned (.slice (some ⟨g, 0, none⟩) m c') ∧ Below X.heap.size X w' ∧ OwnU w' X.heap.size (.slice (some ⟨g, 0, none⟩) m c') ys) := fun X hX => spec_listU b m d ys X (ht.below hX) hlm hm
  clear hs hl ht hlm
  go_enter Try.func36, Try.ntmps36
  go_wp2
  revert HB HK
  generalize hW : (w.alloc (.cells (dsr a n c b m d) 27)).alloc (.cells (dsr none 0 0 none 0 0) 27) = W0
  have hz0 : w.heap.size + 2 ≤ W0.heap.size := by rw [← hW]; simp
  clear hW
  intro HB HK
  have hb : Below W0.heap.size W0 W0 := Below.refl _ _
  have HBX : Hid (∀ X, Below W0.heap.size W0 X → Below w.heap.size w X) := fun X hX => HB.out.trans (hX.mono HB.out.size)
  have C0 : Hid (W0.cell? ⟨w.heap.size, 0, none⟩ = some (.slice a n c)) := HK.out.1.cell 0 _ rfl
  have C1 : Hid (W0.cell? ⟨w.heap.size, 1, none⟩ = some (.slice b m d)) := HK.out.1.cell 1 _ rfl
  have c0 := C0.out
  have c1 := C1.out
  have HZ : Hid (Bk W0 (w.heap.size + 1) (dsr none 0 0 none 0 0)) := HK.out.2
  clear HK
  go_region_held_law (fun w' => w'.cell? ⟨w.heap.size, 0, none⟩ = some (.slice a n c) ∧ w'.cell? ⟨w.heap.size, 1, none⟩ = some (.slice b m d)) (first | with_reducible exact ⟨c0, c1⟩ | with_reducible exact ⟨dr_c c0, dr_c c1⟩ | with_reducible exact ⟨st2 (by omega) c0, st2 (by omega) c1⟩)
    (first
      | (go_at_call 42; refine Calls.mono (L1.out _ (HBX.out _ (by first | exact hb | exact hb.drew))) ?_; rintro u w3 ⟨g1, k1, rfl, hbb, ho1⟩; have hbn := (by first | exact hb.trans (hbb.mono hb.size) | exact hb.drew.trans (hbb.mono hb.drew.size)); replace hb := hbn; clear hbn; replace c0 := kept_c hb C0.out; replace c1 := kept_c hb C1.out; have O1 : Hid (OwnU w3 W0.heap.size (.slice (some ⟨g1, 0, none⟩) n k1) zs) := ho1; clear ho1 hbb)
      | (go_at_call 42; refine Calls.mono (L2.out _ (HBX.out _ (by first | exact hb | exact hb.drew))) ?_; rintro u w4 ⟨g2, k2, rfl, hbb, ho2⟩; have hz3 := hb.size; have O2 : Hid (TwoU w4 W0.heap.size g1 n k1 g2 m k2 zs ys) := ⟨(by first | exact O1.out.below hbb | exact (O1.out.below (Below.refl _ _).drew).below hbb), ho2.low (by first | exact hz3 | exact hb.drew.size), by have h1 := O1.out.blk_lt; have h2 := ho2.blk_lt; have h3 : w3.drew.heap.size = w3.heap.size := rfl; omega⟩; have hbn := (by first | exact hb.trans (hbb.mono hb.size) | exact hb.drew.trans (hbb.mono hb.drew.size)); replace hb := hbn; clear hbn; replace c0 := kept_c hb C0.out; replace c1 := kept_c hb C1.out; have z0 := (HZ.out.below hb).cell 0 _ rfl; have z1 := (HZ.out.below hb).cell 1 _ rfl; have zf := (HZ.out.below hb).free; clear ho2 hbb hz3))
  all_goals
    rename_i hhh
    clear hhh
    have hz4 := hb.size
    have hbt : Betw (w.heap.size + 1) (w.heap.size + 2) w4 ((w4.setCell ⟨w.heap.size + 1, 0, none⟩ (.slice (some ⟨g1, 0, none⟩) n k1)).setCell ⟨w.heap.size + 1, 1, none⟩ (.slice (some ⟨g2, 0, none⟩) m k2)) := ((Betw.refl _ _ w4).setCell (p := ⟨w.heap.size + 1, 0, none⟩) (Nat.le_refl _) (by simp) _).setCell (p := ⟨w.heap.size + 1, 1, none⟩) (Nat.le_refl _) (by simp) _
    have k9 : Bk ((w4.setCell ⟨w.heap.size + 1, 0, none⟩ (.slice (some ⟨g1, 0, none⟩) n k1)).setCell ⟨w.heap.size + 1, 1, none⟩ (.slice (some ⟨g2, 0, none⟩) m k2)) (w.heap.size + 1) (dsr (some ⟨g1, 0, none⟩) n k1 (some ⟨g2, 0, none⟩) m k2) := ((HZ.out.below hb).set 0 (.slice (some ⟨g1, 0, none⟩) n k1) (by simp) (cs' := dsr (some ⟨g1, 0, none⟩) n k1 none 0 0) rfl).set 1 _ (by simp) rfl
    have hb9 := (HBX.out _ hb).trans (hbt.below (B := w.heap.size) (by omega) (by omega))
    have ho9 := (O2.out.betw hbt (.inl (by omega))).low (b' := w.heap.size) (by omega)
    clear hbt c0 c1 z0 z1 zf hb O1 O2 HBX C0 C1 HZ HB hz4
    revert k9 hb9 ho9
    generalize (w4.setCell ⟨w.heap.size + 1, 0, none⟩ (.slice (some ⟨g1, 0, none⟩) n k1)).setCell ⟨w.heap.size + 1, 1, none⟩ (.slice (some ⟨g2, 0, none⟩) m k2) = Wf
    intro k9 hb9 ho9
    have HB9 : Hid _ := hb9
    have HO9 : Hid _ := ho9
    have q0 := k9.cell 0 _ rfl
    have q1 := k9.cell 1 _ rfl
    clear hb9 ho9 k9
    go_wp2
    exact bodyPost_ret (v := dst (some ⟨g1, 0, none⟩) n k1 (some ⟨g2, 0, none⟩) m k2) (by simp [results, Try.results36, go_sem, q0, q1]) rfl ⟨_, _, _, _, rfl, HB9.out, HO9.out⟩
end Go.Proofs.Ythfmggfohegpnaa
