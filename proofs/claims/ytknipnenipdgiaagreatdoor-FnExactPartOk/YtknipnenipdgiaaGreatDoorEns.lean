
/-
  Ends of channels and states of devices, as values that hold lists of words: what the laws' helpers do with one of them. Conditions: lengths are at most 1048576.
-/
import Derived.Test.YtknipnenipdgiaaGreatDoorBas
import Derived.Test.YtknipnenipdgiaaGreatDoorProg
import Derived.Test.YtknipnenipdgiaaGreatDoorGnm
namespace Go.Proofs.YtknipnenipdgiaaGreatDoor
open Go.ChangeShapes Go.WideShapes Go.ChangeAt Go.RowKit Go.Deep
set_option linter.unusedVariables false

theorem sz_out (h : Int) (a : Option Addr) (c n L : Nat) (w : World) (hn : n ≤ 9223372036854775807) (hL : L ≤ 1048576) :
    Calls Tryz.prog 118 #[.agg #[.int .i64 h, .slice a n c], .int .i64 (L : Int)] w fun e w' => (∃ r : Int, e = .returned (.int .i64 r) ∧ (r < 0 ∨ (r = ((L - n : Nat) : Int) ∧ n ≤ L))) ∧ Below w.heap.size w w' := by
  have HB : Hid (Below w.heap.size w (w.alloc (.cells #[.int .i64 h, .slice a n c] 183))) := (Below.refl _ _).alloc (Nat.le_refl _) _
  go_enter Tryz.func118, Tryz.ntmps118
  go_wp2_with fail
  refine (sz_regs a c n L _ hn hL).mono ?_
  rintro e w1 ⟨⟨r, rfl, hr⟩, rfl⟩
  rcases hr with hr | ⟨rfl, hr⟩
  · go_wp2
    go_ret
    exact ⟨⟨_, rfl, .inl (by omega)⟩, HB.out⟩
  · have h0 : ¬ (((L - n : Nat) : Int) < 0) := by omega
    go_wp2
    go_ret
    exact ⟨⟨_, rfl, .inr ⟨rfl, hr⟩⟩, HB.out⟩
theorem sz_in (a : Option Addr) (c n L : Nat) (w : World) (hn : n ≤ 9223372036854775807) (hL : L ≤ 1048576) :
    Calls Tryz.prog 119 #[.agg #[.slice a n c], .int .i64 (L : Int)] w fun e w' => (∃ r : Int, e = .returned (.int .i64 r) ∧ (r < 0 ∨ (r = ((L - n : Nat) : Int) ∧ n ≤ L))) ∧ Below w.heap.size w w' := by
  have HB : Hid (Below w.heap.size w (w.alloc (.cells #[.slice a n c] 186))) := (Below.refl _ _).alloc (Nat.le_refl _) _
  go_enter Tryz.func119, Tryz.ntmps119
  go_wp2_with fail
  refine (sz_regs a c n L _ hn hL).mono ?_
  rintro e w1 ⟨⟨r, rfl, hr⟩, rfl⟩
  rcases hr with hr | ⟨rfl, hr⟩
  · go_wp2
    go_ret
    exact ⟨⟨_, rfl, .inl (by omega)⟩, HB.out⟩
  · have h0 : ¬ (((L - n : Nat) : Int) < 0) := by omega
    go_wp2
    go_ret
    exact ⟨⟨_, rfl, .inr ⟨rfl, hr⟩⟩, HB.out⟩
theorem sz_dev (a b : Option Addr) (c n d m L : Nat) (w : World) (hn : n ≤ 9223372036854775807) (hm : m ≤ 9223372036854775807) (hL : L ≤ 1048576) :
    Calls Tryz.prog 120 #[.agg #[.slice a n c, .slice b m d], .int .i64 (L : Int)] w fun e w' => (∃ r : Int, e = .returned (.int .i64 r) ∧ (r < 0 ∨ (r = ((L - n - m : Nat) : Int) ∧ n + m ≤ L))) ∧ Below w.heap.size w w' := by
  have HB : Hid (Below w.heap.size w (w.alloc (.cells #[.slice a n c, .slice b m d] 188))) := (Below.refl _ _).alloc (Nat.le_refl _) _
  go_enter Tryz.func120, Tryz.ntmps120
  go_wp2_with fail
  refine (sz_regs a c n L _ hn hL).mono ?_
  rintro e w1 ⟨⟨r, rfl, hr⟩, rfl⟩
  rcases hr with hr | ⟨rfl, hr⟩
  · go_wp2
    go_ret
    exact ⟨⟨_, rfl, .inl (by omega)⟩, HB.out⟩
  have h0 : ¬ (((L - n : Nat) : Int) < 0) := by omega
  go_wp2_with fail
  refine (sz_regs b d m (L - n) _ hm (by omega)).mono ?_
  rintro e w1 ⟨⟨r, rfl, hr2⟩, rfl⟩
  rcases hr2 with hr2 | ⟨rfl, hr2⟩
  · go_wp2
    go_ret
    exact ⟨⟨_, rfl, .inl (by omega)⟩, HB.out⟩
  · have h1 : ¬ (((L - n - m : Nat) : Int) < 0) := by omega
    go_wp2
    go_ret
    exact ⟨⟨_, rfl, .inr ⟨rfl, by omega⟩⟩, HB.out⟩
theorem eq_out (h : Int) (a b : Option Addr) (ca cb n : Nat) (zs : List Int) (w : World) (ha : Seg .u32 w a zs) (hb : Seg .u32 w b zs) (hl : zs.length = n) (hn : n ≤ 1048576) :
    Calls Tryz.prog 162 #[.agg #[.int .i64 h, .slice a n ca], .agg #[.int .i64 h, .slice b n cb]] w fun e w' => e = .returned (.bool true) ∧ Below w.heap.size w w' := by
  have HB : Hid (Below w.heap.size w ((w.alloc (.cells #[.int .i64 h, .slice a n ca] 200)).alloc (.cells #[.int .i64 h, .slice b n cb] 200))) := ((Below.refl _ _).alloc (Nat.le_refl _) _).alloc (by simp) _
  have HE : Hid _ := eq_regs a b ca cb n zs _ (ha.below HB.out) (hb.below HB.out) hl hn
  have hne : (h != h) = false := by simp
  clear ha hb hl hn
  go_enter Tryz.func162, Tryz.ntmps162
  go_wp2_with fail
  refine Calls.mono HE.out ?_
  rintro e w1 ⟨rfl, hb1⟩
  have HB1 : Hid (Below w.heap.size w w1) := HB.out.trans (hb1.mono HB.out.size)
  clear hb1 HB HE
  go_wp2
  go_ret
  exact ⟨rfl, HB1.out⟩
theorem eq_in (a b : Option Addr) (ca cb n : Nat) (zs : List Int) (w : World) (ha : Seg .u32 w a zs) (hb : Seg .u32 w b zs) (hl : zs.length = n) (hn : n ≤ 1048576) :
    Calls Tryz.prog 163 #[.agg #[.slice a n ca], .agg #[.slice b n cb]] w fun e w' => e = .returned (.bool true) ∧ Below w.heap.size w w' := by
  have HB : Hid (Below w.heap.size w ((w.alloc (.cells #[.slice a n ca] 202)).alloc (.cells #[.slice b n cb] 202))) := ((Below.refl _ _).alloc (Nat.le_refl _) _).alloc (by simp) _
  have HE : Hid _ := eq_regs a b ca cb n zs _ (ha.below HB.out) (hb.below HB.out) hl hn
  clear ha hb hl hn
  go_enter Tryz.func163, Tryz.ntmps163
  go_wp2_with fail
  refine Calls.mono HE.out ?_
  rintro e w1 ⟨rfl, hb1⟩
  have HB1 : Hid (Below w.heap.size w w1) := HB.out.trans (hb1.mono HB.out.size)
  clear hb1 HB HE
  go_wp2
  go_ret
  exact ⟨rfl, HB1.out⟩
theorem to_out (h : Int) (a : Option Addr) (c n : Nat) (zs : List Int) (w : World) (hs : Seg .u32 w a zs) (hl : zs.length = n) (hn : n ≤ 1048576) :
    Calls Tryz.prog 133 #[.agg #[.int .i64 h, .slice a n c]] w fun e w' => ∃ g, e = .returned (.agg #[.int .i64 h, .slice (some ⟨g, 0, none⟩) n n]) ∧ Below w.heap.size w w' ∧ ON .u32 w' w.heap.size w'.heap.size (some ⟨g, 0, none⟩) zs g := by
  have B1 := (Bk.new (w.alloc (.cells #[.int .i64 h, .slice a n c] 183)) #[.int .i64 0, .slice none 0 0] 200 (w.heap.size + 1) (by simp)).alloc (.cells #[.int .i64 h, .slice none 0 0] 200)
  have B2 := Bk.new ((w.alloc (.cells #[.int .i64 h, .slice a n c] 183)).alloc (.cells #[.int .i64 0, .slice none 0 0] 200)) #[.int .i64 h, .slice none 0 0] 200 (w.heap.size + 1 + 1) (by simp)
  have HB : Hid _ := (((Below.refl _ w).alloc (Nat.le_refl _) (.cells #[.int .i64 h, .slice a n c] 183)).alloc (by simp) (.cells #[.int .i64 0, .slice none 0 0] 200)).alloc (by simp; omega) (.cells #[.int .i64 h, .slice none 0 0] 200)
  have HC : Hid _ := to_regs a c n zs _ (hs.below HB.out) hl hn
  clear hs
  go_enter Tryz.func133, Tryz.ntmps133
  go_wp2_with fail
  refine Calls.mono HC.out ?_
  rintro u w1 ⟨rfl, hb1, how⟩
  have e1 : (((w.alloc (.cells #[.int .i64 h, .slice a n c] 183)).alloc (.cells #[.int .i64 0, .slice none 0 0] 200)).alloc (.cells #[.int .i64 h, .slice none 0 0] 200)).heap.size = w.heap.size + 1 + 1 + 1 := by simp
  rw [e1] at how hb1
  replace B1 := B1.below (e1 ▸ hb1)
  replace B2 := B2.below (e1 ▸ hb1)
  have hbw : Below w.heap.size w w1 := HB.out.trans (hb1.mono (by omega))
  obtain ⟨B, HBB⟩ : ∃ B, Hid (w.heap.size + 1 + 1 + 1 = B) := ⟨_, rfl⟩
  simp only [e1, HBB.out] at how ⊢
  have hBl : w.heap.size + 1 + 1 < B := by have := HBB.out; omega
  clear HB HC hb1 e1
  have E2 := B2.set 1 (.slice (some ⟨B, 0, none⟩) n n) (by simp) rfl
  have E1 := B1.other (w.heap.size + 1 + 1) 1 (.slice (some ⟨B, 0, none⟩) n n) (by omega)
  have F1 := E1.set 0 (.int .i64 h) (by simp) rfl
  have F2 := F1.set 1 (.slice (some ⟨B, 0, none⟩) n n) (by simp) rfl
  have q1 := B2.cell 1 _ rfl
  have g2 := B2.free
  have g1 := B1.free
  have e0 := E2.cell 0 _ rfl
  have e1 := E2.cell 1 _ rfl
  have m0 := E1.cell 0 _ rfl
  have m1 := F1.cell 1 _ rfl
  have n0 := F2.cell 0 _ rfl
  have n1 := F2.cell 1 _ rfl
  have hbt : Betw (w.heap.size + 1) (w.heap.size + 1 + 1 + 1) w1 (((w1.setCell ⟨w.heap.size + 1 + 1, 1, none⟩ (.slice (some ⟨B, 0, none⟩) n n)).setCell ⟨w.heap.size + 1, 0, none⟩ (.int .i64 h)).setCell ⟨w.heap.size + 1, 1, none⟩ (.slice (some ⟨B, 0, none⟩) n n)) :=
    (((Betw.refl _ _ w1).setCell (p := ⟨w.heap.size + 1 + 1, 1, none⟩) (by simp) (by simp) _).setCell (p := ⟨w.heap.size + 1, 0, none⟩) (by simp) (by simp) _).setCell (p := ⟨w.heap.size + 1, 1, none⟩) (by simp) (by simp) _
  have hon : ON .u32 w1 w.heap.size w1.heap.size (some ⟨B, 0, none⟩) zs B := ON.own how (by omega) how.lt
  have HN : Hid (ON _ _ _ _ _ _ _) := hon.betw hbt (fun _ => .inr (by have := HBB.out; omega))
  have HZ : Hid (Below _ _ _) := hbw
  clear B1 B2 E1 E2 F1 F2 hbw how hon hbt
  go_wp2
  refine bodyPost_ret (v := .agg #[.int .i64 h, .slice (some ⟨B, 0, none⟩) n n]) (by simp [results, Tryz.results133, go_sem, n0, n1]) rfl ⟨B, rfl, ?_, ?_⟩
  · exact ((HZ.out.setCell (p := ⟨w.heap.size + 1 + 1, 1, none⟩) (by simp; omega) _).setCell (p := ⟨w.heap.size + 1, 0, none⟩) (by simp) _).setCell (p := ⟨w.heap.size + 1, 1, none⟩) (by simp) _
  · simpa using HN.out
theorem to_in (a : Option Addr) (c n : Nat) (zs : List Int) (w : World) (hs : Seg .u32 w a zs) (hl : zs.length = n) (hn : n ≤ 1048576) :
    Calls Tryz.prog 134 #[.agg #[.slice a n c]] w fun e w' => ∃ g, e = .returned (.agg #[.slice (some ⟨g, 0, none⟩) n n]) ∧ Below w.heap.size w w' ∧ ON .u32 w' w.heap.size w'.heap.size (some ⟨g, 0, none⟩) zs g := by
  have B1 := (Bk.new (w.alloc (.cells #[.slice a n c] 186)) #[.slice none 0 0] 202 (w.heap.size + 1) (by simp)).alloc (.cells #[.slice none 0 0] 202)
  have B2 := Bk.new ((w.alloc (.cells #[.slice a n c] 186)).alloc (.cells #[.slice none 0 0] 202)) #[.slice none 0 0] 202 (w.heap.size + 1 + 1) (by simp)
  have HB : Hid _ := (((Below.refl _ w).alloc (Nat.le_refl _) (.cells #[.slice a n c] 186)).alloc (by simp) (.cells #[.slice none 0 0] 202)).alloc (by simp; omega) (.cells #[.slice none 0 0] 202)
  have HC : Hid _ := to_regs a c n zs _ (hs.below HB.out) hl hn
  clear hs
  go_enter Tryz.func134, Tryz.ntmps134
  go_wp2_with fail
  refine Calls.mono HC.out ?_
  rintro u w1 ⟨rfl, hb1, how⟩
  have e1 : (((w.alloc (.cells #[.slice a n c] 186)).alloc (.cells #[.slice none 0 0] 202)).alloc (.cells #[.slice none 0 0] 202)).heap.size = w.heap.size + 1 + 1 + 1 := by simp
  rw [e1] at how hb1
  replace B1 := B1.below (e1 ▸ hb1)
  replace B2 := B2.below (e1 ▸ hb1)
  have hbw : Below w.heap.size w w1 := HB.out.trans (hb1.mono (by omega))
  obtain ⟨B, HBB⟩ : ∃ B, Hid (w.heap.size + 1 + 1 + 1 = B) := ⟨_, rfl⟩
  simp only [e1, HBB.out] at how ⊢
  have hBl : w.heap.size + 1 + 1 < B := by have := HBB.out; omega
  clear HB HC hb1 e1
  have E2 := B2.set 0 (.slice (some ⟨B, 0, none⟩) n n) (by simp) rfl
  have E1 := B1.other (w.heap.size + 1 + 1) 0 (.slice (some ⟨B, 0, none⟩) n n) (by omega)
  have F1 := E1.set 0 (.slice (some ⟨B, 0, none⟩) n n) (by simp) rfl
  have q0 := B2.cell 0 _ rfl
  have g2 := B2.free
  have g1 := B1.free
  have e0 := E2.cell 0 _ rfl
  have m0 := E1.cell 0 _ rfl
  have n0 := F1.cell 0 _ rfl
  have hbt : Betw (w.heap.size + 1) (w.heap.size + 1 + 1 + 1) w1 ((w1.setCell ⟨w.heap.size + 1 + 1, 0, none⟩ (.slice (some ⟨B, 0, none⟩) n n)).setCell ⟨w.heap.size + 1, 0, none⟩ (.slice (some ⟨B, 0, none⟩) n n)) :=
    ((Betw.refl _ _ w1).setCell (p := ⟨w.heap.size + 1 + 1, 0, none⟩) (by simp) (by simp) _).setCell (p := ⟨w.heap.size + 1, 0, none⟩) (by simp) (by simp) _
  have hon : ON .u32 w1 w.heap.size w1.heap.size (some ⟨B, 0, none⟩) zs B := ON.own how (by omega) how.lt
  have HN : Hid (ON _ _ _ _ _ _ _) := hon.betw hbt (fun _ => .inr (by have := HBB.out; omega))
  have HZ : Hid (Below _ _ _) := hbw
  clear B1 B2 E1 E2 F1 hbw how hon hbt
  go_wp2
  refine bodyPost_ret (v := .agg #[.slice (some ⟨B, 0, none⟩) n n]) (by simp [results, Tryz.results134, go_sem, n0]) rfl ⟨B, rfl, ?_, ?_⟩
  · exact (HZ.out.setCell (p := ⟨w.heap.size + 1 + 1, 0, none⟩) (by simp; omega) _).setCell (p := ⟨w.heap.size + 1, 0, none⟩) (by simp) _
  · simpa using HN.out
theorem eq_dev (a b a' b' : Option Addr) (ca cb ca' cb' n m : Nat) (zs ys : List Int) (w : World) (ha : Seg .u32 w a zs) (hb : Seg .u32 w b zs) (ha' : Seg .u32 w a' ys) (hb' : Seg .u32 w b' ys) (hl : zs.length = n) (hn : n ≤ 1048576) (hl' : ys.length = m) (hm : m ≤ 1048576) :
    Calls Tryz.prog 164 #[.agg #[.slice a n ca, .slice a' m ca'], .agg #[.slice b n cb, .slice b' m cb']] w fun e w' => e = .returned (.bool true) ∧ Below w.heap.size w w' := by
  have HB : Hid (Below w.heap.size w ((w.alloc (.cells #[.slice a n ca, .slice a' m ca'] 163)).alloc (.cells #[.slice b n cb, .slice b' m cb'] 163))) := ((Below.refl _ _).alloc (Nat.le_refl _) _).alloc (by simp) _
  have B0 := (Bk.new w #[.slice a n ca, .slice a' m ca'] 163 w.heap.size rfl).alloc (.cells #[.slice b n cb, .slice b' m cb'] 163)
  have B1 := Bk.new (w.alloc (.cells #[.slice a n ca, .slice a' m ca'] 163)) #[.slice b n cb, .slice b' m cb'] 163 (w.heap.size + 1) (by simp)
  have HE : Hid _ := eq_regs a b ca cb n zs _ (ha.below HB.out) (hb.below HB.out) hl hn
  have HS : Hid _ := And.intro ha' hb'
  clear ha hb hl hn ha' hb'
  go_enter Tryz.func164, Tryz.ntmps164
  go_wp2_with fail
  refine Calls.mono HE.out ?_
  rintro e w1 ⟨rfl, hb1⟩
  have hbw : Below w.heap.size w w1 := HB.out.trans (hb1.mono HB.out.size)
  have C0 := (B0.below hb1).cell 1 _ rfl
  have C1 := (B1.below hb1).cell 1 _ rfl
  have HF : Hid _ := eq_regs a' b' ca' cb' m ys _ (HS.out.1.below hbw) (HS.out.2.below hbw) hl' hm
  have HB1 : Hid (Below w.heap.size w w1) := hbw
  clear hb1 HB HE HS B0 B1 hl' hm hbw
  go_wp2_with fail
  refine Calls.mono HF.out ?_
  rintro e w2 ⟨rfl, hb2⟩
  have HB2 : Hid (Below w.heap.size w w2) := HB1.out.trans (hb2.mono HB1.out.size)
  clear hb2 HB1 HF C0 C1
  go_wp2
  go_ret
  exact ⟨rfl, HB2.out⟩
set_option maxHeartbeats 400000 in
theorem to_dev (a b : Option Addr) (c n d m : Nat) (zs ys : List Int) (w : World) (hs : Seg .u32 w a zs) (hs' : Seg .u32 w b ys) (hl : zs.length = n) (hn : n ≤ 1048576) (hl' : ys.length = m) (hm : m ≤ 1048576) :
    Calls Tryz.prog 135 #[.agg #[.slice a n c, .slice b m d]] w fun e w' => ∃ g k, e = .returned (.agg #[.slice (some ⟨g, 0, none⟩) n n, .slice (some ⟨k, 0, none⟩) m m]) ∧ Below w.heap.size w w' ∧ g < k ∧ w.heap.size ≤ g ∧ k < w'.heap.size ∧ ON .u32 w' w.heap.size k (some ⟨g, 0, none⟩) zs g ∧ ON .u32 w' k w'.heap.size (some ⟨k, 0, none⟩) ys k := by
  have HS : Hid _ := And.intro hs' (And.intro hl' hm)
  have B0 := ((Bk.new w #[.slice a n c, .slice b m d] 188 w.heap.size rfl).alloc (.cells #[.slice none 0 0, .slice none 0 0] 163)).alloc (.cells #[.slice none 0 0, .slice none 0 0] 163)
  have B1 := (Bk.new (w.alloc (.cells #[.slice a n c, .slice b m d] 188)) #[.slice none 0 0, .slice none 0 0] 163 (w.heap.size + 1) (by simp)).alloc (.cells #[.slice none 0 0, .slice none 0 0] 163)
  have B2 := Bk.new ((w.alloc (.cells #[.slice a n c, .slice b m d] 188)).alloc (.cells #[.slice none 0 0, .slice none 0 0] 163)) #[.slice none 0 0, .slice none 0 0] 163 (w.heap.size + 1 + 1) (by simp)
  have HB : Hid _ := (((Below.refl _ w).alloc (Nat.le_refl _) (.cells #[.slice a n c, .slice b m d] 188)).alloc (by simp) (.cells #[.slice none 0 0, .slice none 0 0] 163)).alloc (by simp; omega) (.cells #[.slice none 0 0, .slice none 0 0] 163)
  have HC : Hid _ := to_regs a c n zs _ (hs.below HB.out) hl hn
  clear hs hs' hl' hm
  go_enter Tryz.func135, Tryz.ntmps135
  go_wp2_with fail
  refine Calls.mono HC.out ?_
  rintro u w1 ⟨rfl, hb1, how⟩
  have e1 : (((w.alloc (.cells #[.slice a n c, .slice b m d] 188)).alloc (.cells #[.slice none 0 0, .slice none 0 0] 163)).alloc (.cells #[.slice none 0 0, .slice none 0 0] 163)).heap.size = w.heap.size + 1 + 1 + 1 := by simp
  rw [e1] at how hb1
  replace B0 := B0.below (e1 ▸ hb1)
  replace B1 := B1.below (e1 ▸ hb1)
  replace B2 := B2.below (e1 ▸ hb1)
  have hbw : Below w.heap.size w w1 := HB.out.trans (hb1.mono (by omega))
  have hz1 : w.heap.size + 1 + 1 + 1 < w1.heap.size := how.lt
  obtain ⟨B, HBB⟩ : ∃ B, Hid (w.heap.size + 1 + 1 + 1 = B) := ⟨_, rfl⟩
  simp only [e1, HBB.out] at how hz1 ⊢
  have hBl : w.heap.size + 1 + 1 < B := by have := HBB.out; omega
  clear HB HC hb1 e1
  have k0 := B2.cell 0 _ rfl
  have kf := B2.free
  have E2 := B2.set 0 (.slice (some ⟨B, 0, none⟩) n n) (by simp) rfl
  have E1 := B1.other (w.heap.size + 1 + 1) 0 (.slice (some ⟨B, 0, none⟩) n n) (by omega)
  have p1 := (B0.other (w.heap.size + 1 + 1) 0 (.slice (some ⟨B, 0, none⟩) n n) (by omega)).cell 1 _ rfl
  have hbt : Betw (w.heap.size + 1 + 1) (w.heap.size + 1 + 1 + 1) w1 (w1.setCell ⟨w.heap.size + 1 + 1, 0, none⟩ (.slice (some ⟨B, 0, none⟩) n n)) :=
    (Betw.refl _ _ w1).setCell (p := ⟨w.heap.size + 1 + 1, 0, none⟩) (Nat.le_refl _) (by simp) _
  have hon : ON .u32 w1 w.heap.size w1.heap.size (some ⟨B, 0, none⟩) zs B := ON.own how (by omega) how.lt
  have HN : Hid (ON _ _ _ _ _ _ _) := hon.betw hbt (fun _ => .inr (by have := HBB.out; omega))
  have HK : Hid _ := And.intro E1 (And.intro E2 (hbw.trans (hbt.below (by omega) hbw.size)))
  clear B0 B1 B2 E1 E2 hbt hon how hbw
  go_wp2_with fail
  refine Calls.mono (to_regs b d m ys _ (HS.out.1.below HK.out.2.2) HS.out.2.1 HS.out.2.2) ?_
  rintro u w2 ⟨rfl, hb2, how2⟩
  obtain ⟨C1, C2, hbw2⟩ := HK.out
  have hz : (w1.setCell ⟨w.heap.size + 1 + 1, 0, none⟩ (.slice (some ⟨B, 0, none⟩) n n)).heap.size = w1.heap.size := by simp
  have hN2 := ON.below HN.out hb2
  rw [hz] at how2 hb2
  have hsz2 := hb2.size
  rw [hz] at hsz2
  have D1 := C1.below (hz ▸ hb2)
  have D2 := C2.below (hz ▸ hb2)
  have hbw3 := hbw2.trans (hb2.mono (by omega))
  simp only [hz]
  obtain ⟨B', HB'⟩ : ∃ B', Hid (w1.heap.size = B') := ⟨_, rfl⟩
  simp only [HB'.out] at how2 hz1 hsz2 hN2 ⊢
  have E2 := D2.set 1 (.slice (some ⟨B', 0, none⟩) m m) (by simp) rfl
  have E1 := D1.other (w.heap.size + 1 + 1) 1 (.slice (some ⟨B', 0, none⟩) m m) (by omega)
  have F1 := E1.set 0 (.slice (some ⟨B, 0, none⟩) n n) (by simp) rfl
  have F2 := F1.set 1 (.slice (some ⟨B', 0, none⟩) m m) (by simp) rfl
  have q1 := D2.cell 1 _ rfl
  have g2 := D2.free
  have g1 := D1.free
  have e0 := E2.cell 0 _ rfl
  have e1 := E2.cell 1 _ rfl
  have m0 := E1.cell 0 _ rfl
  have m1 := F1.cell 1 _ rfl
  have n0 := F2.cell 0 _ rfl
  have n1 := F2.cell 1 _ rfl
  have hbt : Betw (w.heap.size + 1) (w.heap.size + 1 + 1 + 1) w2 (((w2.setCell ⟨w.heap.size + 1 + 1, 1, none⟩ (.slice (some ⟨B', 0, none⟩) m m)).setCell ⟨w.heap.size + 1, 0, none⟩ (.slice (some ⟨B, 0, none⟩) n n)).setCell ⟨w.heap.size + 1, 1, none⟩ (.slice (some ⟨B', 0, none⟩) m m)) :=
    (((Betw.refl _ _ w2).setCell (p := ⟨w.heap.size + 1 + 1, 1, none⟩) (by simp) (by simp) _).setCell (p := ⟨w.heap.size + 1, 0, none⟩) (by simp) (by simp) _).setCell (p := ⟨w.heap.size + 1, 1, none⟩) (by simp) (by simp) _
  have hon : ON .u32 w2 B' w2.heap.size (some ⟨B', 0, none⟩) ys B' := ON.own how2 (Nat.le_refl _) how2.lt
  have HN1 : Hid (ON _ _ _ _ _ _ _) := hN2.betw hbt (fun _ => .inr (by have := HBB.out; omega))
  have HN2 : Hid (ON _ _ _ _ _ _ _) := hon.betw hbt (fun _ => .inr (by have := HBB.out; omega))
  have HZ : Hid (Below _ _ _) := hbw3
  have HQ : Hid (B' < w2.heap.size) := how2.lt
  clear C1 C2 hbw2 hb2 D1 D2 E1 E2 F1 F2 HK how2 hbw3 hz k0 kf hN2 p1 HN hon hbt HS
  go_wp2
  refine bodyPost_ret (v := .agg #[.slice (some ⟨B, 0, none⟩) n n, .slice (some ⟨B', 0, none⟩) m m]) (by simp [results, Tryz.results135, go_sem, n0, n1]) rfl ⟨B, B', rfl, ?_, hz1, by omega, by simpa using HQ.out, HN1.out, ?_⟩
  · exact ((HZ.out.setCell (p := ⟨w.heap.size + 1 + 1, 1, none⟩) (by simp; omega) _).setCell (p := ⟨w.heap.size + 1, 0, none⟩) (by simp) _).setCell (p := ⟨w.heap.size + 1, 1, none⟩) (by simp) _
  · simpa using HN2.out
end Go.Proofs.YtknipnenipdgiaaGreatDoor
