
/-
  Virtual registers, health and tables of pages as values: turned into the program's own, measured and held against one another. Conditions: pages are at most 1048576.
-/
import Derived.Test.YtknipnenipdgiaaGreatDoorBas
import Derived.Test.YtknipnenipdgiaaGreatDoorProg
import Derived.Test.YtknipnenipdgiaaGreatDoorEns
namespace Go.Proofs.YtknipnenipdgiaaGreatDoor
open Go.ChangeShapes Go.WideShapes Go.ChangeAt Go.RowKit Go.Deep
set_option linter.unusedVariables false

abbrev vrt (o : Bool) (v s c k : Int) (t n : Bool) (p : Int) : Value := .agg #[.bool o, .int .u32 v, .int .u32 s, .int .u32 c, .int .u32 k, .bool t, .bool n, .int .u32 p]
abbrev vrow (o : Bool) (v s c k : Int) (t n : Bool) (p : Int) : Array Value := #[.bool o, .int .u32 v, .int .u32 s, .int .u32 c, .int .u32 k, .bool t, .bool n, .int .u32 p]
set_option maxHeartbeats 400000 in
theorem to_virt (o : Bool) (v s c k : Int) (t n : Bool) (p : Int) (w : World) : Calls Tryz.prog 55 #[vrt o v s c k t n p] w fun x w' => x = .returned (vrt o v s c k t n p) ∧ Below w.heap.size w w' := by
  go_enter Tryz.func55, Tryz.ntmps55
  go_wp2
  exact bodyPost_ret (v := vrt o v s c k t n p) (by simp [results, Tryz.results55, go_sem]) rfl ⟨rfl, (((Below.refl _ _).alloc (Nat.le_refl _) _).alloc (by simp) _).alloc (by simp; omega) _⟩
set_option maxHeartbeats 400000 in
theorem eq_virt (o : Bool) (v s c k : Int) (t n : Bool) (p : Int) (w : World) : Calls Tryz.prog 75 #[vrt o v s c k t n p, vrt o v s c k t n p] w fun x w' => x = .returned (.bool true) ∧ Below w.heap.size w w' := by
  go_enter Tryz.func75, Tryz.ntmps75
  go_wp2
  go_ret
  exact ⟨rfl, ((Below.refl _ _).alloc (Nat.le_refl _) _).alloc (by simp) _⟩
abbrev hlt (f r l : Int) (h : Bool) : Value := .agg #[.int .i64 f, .int .i64 r, .int .i64 l, .bool h]
abbrev hrow (f r l : Int) (h : Bool) : Array Value := #[.int .i64 f, .int .i64 r, .int .i64 l, .bool h]
set_option maxHeartbeats 400000 in
theorem to_health (f r l : Int) (h : Bool) (w : World) : Calls Tryz.prog 56 #[hlt f r l h] w fun x w' => x = .returned (hlt f r l h) ∧ Below w.heap.size w w' := by
  go_enter Tryz.func56, Tryz.ntmps56
  go_wp2
  exact bodyPost_ret (v := hlt f r l h) (by simp [results, Tryz.results56, go_sem]) rfl ⟨rfl, (((Below.refl _ _).alloc (Nat.le_refl _) _).alloc (by simp) _).alloc (by simp; omega) _⟩
set_option maxHeartbeats 400000 in
theorem eq_health (f r l : Int) (h : Bool) (w : World) : Calls Tryz.prog 76 #[hlt f r l h, hlt f r l h] w fun x w' => x = .returned (.bool true) ∧ Below w.heap.size w w' := by
  go_enter Tryz.func76, Tryz.ntmps76
  go_wp2
  go_ret
  exact ⟨rfl, ((Below.refl _ _).alloc (Nat.le_refl _) _).alloc (by simp) _⟩
theorem infoJ : (Tryz.prog.info? 3).map (fun i => (i.zero, i.size, i.bytes)) = some (some (.int .i64 0), 1, 8) := by kernel_rfl
set_option maxHeartbeats 1000000 in
theorem run_make_ints (n : Nat) (hn : n ≤ 1048576) (w : World) : (Instr.makeSlice 27 (.int .i64 (n : Int)) (.int .i64 (n : Int))).run Tryz.prog w = .ok (.slice (some ⟨w.heap.size, 0, none⟩) n n) (w.alloc (.cells (madeCells #[.int .i64 0] n) 3)) :=
  run_make_row' (P := Tryz.prog) 27 3 (.int .i64 0) 8 Tryz.underlying27 infoJ rfl .i64 .i64 n (by omega) (by omega) w
set_option maxHeartbeats 1000000 in
theorem sz_ints (a : Option Addr) (cap n L : Nat) (w : World) (hn : n ≤ 9223372036854775807) (hL : L ≤ 1048576) :
    Calls Tryz.prog 32 #[.slice a n cap, .int .i64 (L : Int)] w fun e w' => (∃ r : Int, e = .returned (.int .i64 r) ∧ (r < 0 ∨ (r = ((L - n : Nat) : Int) ∧ n ≤ L))) ∧ w' = w := by
  by_cases h : n ≤ L
  · obtain ⟨d, rfl⟩ : ∃ d, L = n + d := ⟨L - n, by omega⟩
    have hw : IntKind.i64.wrap (((n + d : Nat) : Int) - (n : Int)) = (d : Int) := by rw [show ((n + d : Nat) : Int) - (n : Int) = (d : Int) by omega, IntKind.wrap_i64]; omega
    have h0 : ¬ ((d : Int) < 0) := by omega
    go_enter Tryz.func32, Tryz.ntmps32
    go_wp2
    go_ret
    exact ⟨⟨_, rfl, by omega⟩, rfl⟩
  · have hw : IntKind.i64.wrap ((L : Int) - (n : Int)) = (L : Int) - (n : Int) := by rw [IntKind.wrap_i64]; omega
    have h0 : (L : Int) - (n : Int) < 0 := by omega
    go_enter Tryz.func32, Tryz.ntmps32
    go_wp2
    go_ret
    exact ⟨⟨_, rfl, .inl (by omega)⟩, rfl⟩
set_option maxHeartbeats 1000000 in
theorem to_ints (a : Option Addr) (cap n : Nat) (zs : List Int) (w : World) (hs : Seg .i64 w a zs) (hl : zs.length = n) (hn : n ≤ 1048576) :
    Calls Tryz.prog 51 #[.slice a n cap] w fun e w' => e = .returned (.slice (some ⟨w.heap.size, 0, none⟩) n n) ∧ Below w.heap.size w w' ∧ Own .i64 w' w.heap.size zs := by
  have hmk := run_make_ints n hn
  have HS : Hid _ := And.intro hs hl
  clear hs hl
  go_enter Tryz.func51, Tryz.ntmps51
  go_wp2
  go_loopw [4] (fun i wr => ∃ k : Nat, k ≤ n ∧ i = .int .i64 k ∧ Hid (Below w.heap.size w wr ∧ Own .i64 wr w.heap.size (zs.take k ++ List.replicate (n - k) 0))) (fun i _ => n - (intOf i).toNat)
  case atStart => exact ⟨0, by omega, rfl, (Below.refl _ _).alloc (Nat.le_refl _) _, by simpa using Own.made .i64 w n 3 0⟩
  case round =>
    obtain ⟨k, hk, rfl, HB⟩ := hrel
    by_cases hlt : k < n
    · have hlt' : (k : Int) < (n : Int) := by omega
      have hkl : k < zs.length := by have := HS.out.2; omega
      obtain ⟨b1, o1, rfl, hbl1, c1⟩ := Seg.at (w := w) HS.out.1 k hkl
      have hb := HB.out.1
      have ho := HB.out.2
      replace c1 := (hb.cell (p := ⟨b1, o1 + k, none⟩) hbl1).trans c1
      have hl2 : (zs.take k ++ List.replicate (n - k) (0 : Int)).length = n := by rw [← HS.out.2]; exact copy_len zs k (by omega)
      have hu := ho.cell k (by omega)
      have hf := ho.free k
      have hset := ho.set k (zs.getD k 0) (by omega)
      rw [← HS.out.2, copy_step zs k hkl, HS.out.2] at hset
      have HB3 : Hid (Below w.heap.size w (wr.setCell ⟨w.heap.size, k, none⟩ (.int .i64 (zs.getD k 0))) ∧ Own .i64 (wr.setCell ⟨w.heap.size, k, none⟩ (.int .i64 (zs.getD k 0))) w.heap.size (zs.take (k + 1) ++ List.replicate (n - (k + 1)) 0)) :=
        ⟨hb.setCell (p := ⟨w.heap.size, k, none⟩) (Nat.le_refl _) _, hset⟩
      generalize zs.getD k 0 = z at c1 HB3
      generalize (zs.take k ++ List.replicate (n - k) (0 : Int)).getD k 0 = z0 at hu
      clear hbl1 hb ho hl2 hset HB hkl
      go_wp2
      go_roundw
      case rel => exact ⟨k + 1, by omega, by go_num, HB3⟩
      case measure => simp [intOf]; omega
    · obtain rfl : k = n := by omega
      go_wp2
      go_ret
      refine ⟨rfl, HB.out.1, ?_⟩
      have := HB.out.2
      have hl := HS.out.2
      subst hl
      simpa using this
set_option maxHeartbeats 1000000 in
theorem eq_ints (a b : Option Addr) (ca cb n : Nat) (zs : List Int) (w : World) (ha : Seg .i64 w a zs) (hb : Seg .i64 w b zs) (hl : zs.length = n) (hn : n ≤ 1048576) :
    Calls Tryz.prog 71 #[.slice a n ca, .slice b n cb] w fun e w' => e = .returned (.bool true) ∧ Below w.heap.size w w' := by
  have HS : Hid _ := And.intro ha (And.intro hb hl)
  clear ha hb hl
  go_enter Tryz.func71, Tryz.ntmps71
  go_wp2
  go_loopw [5] (fun i wr => ∃ k m : Nat, k ≤ n ∧ i = .int .i64 k ∧ wr = w.drewN m) (fun i _ => n - (intOf i).toNat)
  case atStart => exact ⟨0, 0, by omega, rfl, rfl⟩
  case round =>
    obtain ⟨k, m, hk, rfl, rfl⟩ := hrel
    by_cases hlt : k < n
    · have hl : k < zs.length := by have := HS.out.2.2; omega
      obtain ⟨b1, o1, rfl, hbl1, hc1⟩ := Seg.at (w := w) HS.out.1 k hl
      obtain ⟨b2, o2, rfl, hbl2, hc2⟩ := Seg.at (w := w) HS.out.2.1 k hl
      generalize zs.getD k 0 = z at hc1 hc2
      clear hl hbl1 hbl2
      go_wp2
      go_quiet (fail)
      go_wp2
      go_roundw
      case rel => exact ⟨k + 1, _, by omega, by go_num, rfl⟩
      case measure => simp [intOf]; omega
    · go_wp2
      go_ret
      exact ⟨rfl, below_drewN (Below.refl _ _) _⟩
set_option maxHeartbeats 1000000 in
theorem sz_tlb (h : Int) (a : Option Addr) (c n L : Nat) (w : World) (hn : n ≤ 9223372036854775807) (hL : L ≤ 1048576) :
    Calls Tryz.prog 37 #[.agg #[.int .i64 h, .slice a n c], .int .i64 (L : Int)] w fun e w' => (∃ r : Int, e = .returned (.int .i64 r) ∧ (r < 0 ∨ (r = ((L - n : Nat) : Int) ∧ n ≤ L))) ∧ Below w.heap.size w w' := by
  have HB : Hid (Below w.heap.size w (w.alloc (.cells #[.int .i64 h, .slice a n c] 45))) := (Below.refl _ _).alloc (Nat.le_refl _) _
  go_enter Tryz.func37, Tryz.ntmps37
  go_wp2_with fail
  refine (sz_ints a c n L _ hn hL).mono ?_
  rintro e w1 ⟨⟨r, rfl, hr⟩, rfl⟩
  rcases hr with hr | ⟨rfl, hr⟩
  · go_wp2
    go_ret
    exact ⟨⟨_, rfl, .inl (by omega)⟩, HB.out⟩
  · have h0 : ¬ (((L - n : Nat) : Int) < 0) := by omega
    go_wp2
    go_ret
    exact ⟨⟨_, rfl, .inr ⟨rfl, hr⟩⟩, HB.out⟩
set_option maxHeartbeats 1000000 in
theorem to_tlb (h : Int) (a : Option Addr) (c n : Nat) (zs : List Int) (w : World) (hs : Seg .i64 w a zs) (hl : zs.length = n) (hn : n ≤ 1048576) :
    Calls Tryz.prog 58 #[.agg #[.int .i64 h, .slice a n c]] w fun e w' => ∃ g, e = .returned (.agg #[.int .i64 h, .slice (some ⟨g, 0, none⟩) n n]) ∧ Below w.heap.size w w' ∧ ON .i64 w' w.heap.size w'.heap.size (some ⟨g, 0, none⟩) zs g := by
  have B1 := (Bk.new (w.alloc (.cells #[.int .i64 h, .slice a n c] 45)) #[.int .i64 0, .slice none 0 0] 68 (w.heap.size + 1) (by simp)).alloc (.cells #[.int .i64 h, .slice none 0 0] 68)
  have B2 := Bk.new ((w.alloc (.cells #[.int .i64 h, .slice a n c] 45)).alloc (.cells #[.int .i64 0, .slice none 0 0] 68)) #[.int .i64 h, .slice none 0 0] 68 (w.heap.size + 1 + 1) (by simp)
  have HB : Hid _ := (((Below.refl _ w).alloc (Nat.le_refl _) (.cells #[.int .i64 h, .slice a n c] 45)).alloc (by simp) (.cells #[.int .i64 0, .slice none 0 0] 68)).alloc (by simp; omega) (.cells #[.int .i64 h, .slice none 0 0] 68)
  have HC : Hid _ := to_ints a c n zs _ (hs.below HB.out) hl hn
  clear hs
  go_enter Tryz.func58, Tryz.ntmps58
  go_wp2_with fail
  refine Calls.mono HC.out ?_
  rintro u w1 ⟨rfl, hb1, how⟩
  have e1 : (((w.alloc (.cells #[.int .i64 h, .slice a n c] 45)).alloc (.cells #[.int .i64 0, .slice none 0 0] 68)).alloc (.cells #[.int .i64 h, .slice none 0 0] 68)).heap.size = w.heap.size + 1 + 1 + 1 := by simp
  rw [e1] at how hb1
  replace B1 := B1.below (e1 ▸ hb1)
  replace B2 := B2.below (e1 ▸ hb1)
  have hbw : Below w.heap.size w w1 := HB.out.trans (hb1.mono (by omega))
  obtain ⟨B, HBB⟩ : ∃ B, Hid (w.heap.size + 1 + 1 + 1 = B) := ⟨_, rfl⟩
  simp only [e1, HBB.out] at how ⊢
  have hBl : w.heap.size + 1 + 1 < B := by have := HBB.out; omega
  clear HB HC hb1 e1
  have E2 := B2.set 1 (.slice (some ⟨B, 0, none⟩) n n) (by simp) rfl
  have E1 := B1.other (w.heap.size + 1 + 1) 1 (.slice (some ⟨B, 0, none⟩) n n) (by omega)
  have F1 := E1.set 0 (.int .i64 h) (by simp) rfl
  have F2 := F1.set 1 (.slice (some ⟨B, 0, none⟩) n n) (by simp) rfl
  have q1 := B2.cell 1 _ rfl
  have g2 := B2.free
  have g1 := B1.free
  have e0 := E2.cell 0 _ rfl
  have e1 := E2.cell 1 _ rfl
  have m0 := E1.cell 0 _ rfl
  have m1 := F1.cell 1 _ rfl
  have n0 := F2.cell 0 _ rfl
  have n1 := F2.cell 1 _ rfl
  have hbt : Betw (w.heap.size + 1) (w.heap.size + 1 + 1 + 1) w1 (((w1.setCell ⟨w.heap.size + 1 + 1, 1, none⟩ (.slice (some ⟨B, 0, none⟩) n n)).setCell ⟨w.heap.size + 1, 0, none⟩ (.int .i64 h)).setCell ⟨w.heap.size + 1, 1, none⟩ (.slice (some ⟨B, 0, none⟩) n n)) :=
    (((Betw.refl _ _ w1).setCell (p := ⟨w.heap.size + 1 + 1, 1, none⟩) (by simp) (by simp) _).setCell (p := ⟨w.heap.size + 1, 0, none⟩) (by simp) (by simp) _).setCell (p := ⟨w.heap.size + 1, 1, none⟩) (by simp) (by simp) _
  have hon : ON .i64 w1 w.heap.size w1.heap.size (some ⟨B, 0, none⟩) zs B := ON.own how (by omega) how.lt
  have HN : Hid (ON _ _ _ _ _ _ _) := hon.betw hbt (fun _ => .inr (by have := HBB.out; omega))
  have HZ : Hid (Below _ _ _) := hbw
  clear B1 B2 E1 E2 F1 F2 hbw how hon hbt
  go_wp2
  refine bodyPost_ret (v := .agg #[.int .i64 h, .slice (some ⟨B, 0, none⟩) n n]) (by simp [results, Tryz.results58, go_sem, n0, n1]) rfl ⟨B, rfl, ?_, ?_⟩
  · exact ((HZ.out.setCell (p := ⟨w.heap.size + 1 + 1, 1, none⟩) (by simp; omega) _).setCell (p := ⟨w.heap.size + 1, 0, none⟩) (by simp) _).setCell (p := ⟨w.heap.size + 1, 1, none⟩) (by simp) _
  · simpa using HN.out
set_option maxHeartbeats 1000000 in
theorem eq_tlb (h : Int) (a b : Option Addr) (ca cb n : Nat) (zs : List Int) (w : World) (ha : Seg .i64 w a zs) (hb : Seg .i64 w b zs) (hl : zs.length = n) (hn : n ≤ 1048576) :
    Calls Tryz.prog 78 #[.agg #[.int .i64 h, .slice a n ca], .agg #[.int .i64 h, .slice b n cb]] w fun e w' => e = .returned (.bool true) ∧ Below w.heap.size w w' := by
  have HB : Hid (Below w.heap.size w ((w.alloc (.cells #[.int .i64 h, .slice a n ca] 68)).alloc (.cells #[.int .i64 h, .slice b n cb] 68))) := ((Below.refl _ _).alloc (Nat.le_refl _) _).alloc (by simp) _
  have HE : Hid _ := eq_ints a b ca cb n zs _ (ha.below HB.out) (hb.below HB.out) hl hn
  have hne : (h != h) = false := by simp
  clear ha hb hl hn
  go_enter Tryz.func78, Tryz.ntmps78
  go_wp2_with fail
  refine Calls.mono HE.out ?_
  rintro e w1 ⟨rfl, hb1⟩
  have HB1 : Hid (Below w.heap.size w w1) := HB.out.trans (hb1.mono HB.out.size)
  clear hb1 HB HE
  go_wp2
  go_ret
  exact ⟨rfl, HB1.out⟩
end Go.Proofs.YtknipnenipdgiaaGreatDoor
