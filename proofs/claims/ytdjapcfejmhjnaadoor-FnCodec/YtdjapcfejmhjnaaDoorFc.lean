/-
  The walk of the law FnCodec: what it asks of a drawn instruction and of a word, answered as it should. Conditions: the tables lie in memory as their texts lay them, the library's own variable holds a number; the bytes drawn from are at most 1048576.
-/
import Derived.Test.YtdjapcfejmhjnaaDoorDraw
import Derived.Test.YtdjapcfejmhjnaaDoorCd
import Derived.Test.YtdjapcfejmhjnaaDoorDis
namespace Go.Proofs.YtdjapcfejmhjnaaDoor
open Go.ChangeShapes Go.WideShapes Go.ChangeAt Go.RowKit Go.Deep
set_option linter.unusedVariables false
set_option maxRecDepth 20000

theorem kept_cell {w w' : World} {b i : Nat} {v : Value} (hb : Below w.heap.size w w') (h : w.cell? ⟨b, i, none⟩ = some v) : w'.cell? ⟨b, i, none⟩ = some v :=
  (hb.cell (p := ⟨b, i, none⟩) (World.block_lt_of_cell? w _ h)).trans h
/-- All that the laws want of memory. -/
def Tabs4 (w : World) : Prop := Tabs w ∧ TabM w
theorem Tabs4.below {w w' : World} (h : Tabs4 w) (hb : Below w.heap.size w w') : Tabs4 w' := ⟨h.1.below hb, h.2.below hb⟩
theorem big_no (a : Option Addr) (n cap : Nat) (w : World) (h : n ≤ 1048576) : Calls Tryd.prog 9 #[.slice a n cap] w fun e w' => e = .returned (.bool false) ∧ w' = w := by
  have h1 : decide (1048576 < (n : Int)) = false := decide_eq_false (by omega)
  go_enter Tryd.func9, Tryd.ntmps9
  go_wp2
  go_ret
  exact ⟨rfl, rfl⟩
theorem big_yes (a : Option Addr) (n cap : Nat) (w : World) (h : ¬ n ≤ 1048576) : Calls Tryd.prog 9 #[.slice a n cap] w fun e w' => e = .returned (.bool true) ∧ w' = w := by
  have h1 : decide (1048576 < (n : Int)) = true := decide_eq_true (by omega)
  go_enter Tryd.func9, Tryd.ntmps9
  go_wp2
  go_ret
  exact ⟨rfl, rfl⟩
set_option maxHeartbeats 400000 in
theorem at_any (a : Option Addr) (n cap k : Nat) (zs : List Int) (w : World) (Hn : Hid (n = zs.length)) (hs : Seg .u8 w a zs) (hb : ∀ z ∈ zs, (Lit.int .u8 z).wf = true) (h : n ≤ 1048576) (hk : k ≤ 100) :
    Calls Tryd.prog 38 #[.slice a n cap, .int .i64 k] w fun e w' => ∃ x : Int, e = .returned (.int .i64 x) ∧ 0 ≤ x ∧ x ≤ 255 ∧ w' = w := by
  by_cases hlt : k < n
  · have hl : k < zs.length := by rw [← Hn.out]; exact hlt
    obtain ⟨b, off, rfl, hbl, hc⟩ := hs.at k hl
    obtain ⟨h0, h1⟩ := bounds_u8 (hb _ (getD_mem zs k hl))
    generalize zs.getD k 0 = z at hc h0 h1
    clear hs hb hl
    go_enter Tryd.func38, Tryd.ntmps38
    go_wp2
    go_ret
    exact ⟨z, rfl, h0, h1, rfl⟩
  · have hlt' : ¬ (k : Int) < (n : Int) := by omega
    clear hs hb
    go_enter Tryd.func38, Tryd.ntmps38
    go_wp2
    go_ret
    exact ⟨_, rfl, Int.emod_nonneg _ (by decide), Int.le_of_lt_add_one (Int.emod_lt_of_pos _ (by decide)), rfl⟩
set_option maxHeartbeats 400000 in
theorem word_any (a : Option Addr) (n cap : Nat) (zs : List Int) (w : World) (Hn : Hid (n = zs.length)) (hs : Seg .u8 w a zs) (hb : ∀ z ∈ zs, (Lit.int .u8 z).wf = true) (h : n ≤ 1048576) :
    Calls Tryd.prog 13 #[.slice a n cap, .int .i64 5] w fun e w' => ∃ x : Int, e = .returned (.int .u32 x) ∧ 0 ≤ x ∧ x ≤ 4294967295 ∧ w' = w := by
  have HA : Hid (∀ k : Nat, k ≤ 100 → Calls Tryd.prog 38 #[.slice a n cap, .int .i64 k] w fun e w' => ∃ x : Int, e = .returned (.int .i64 x) ∧ 0 ≤ x ∧ x ≤ 255 ∧ w' = w) := fun k hk => at_any a n cap k zs w Hn hs hb h hk
  clear hs hb
  go_enter Tryd.func13, Tryd.ntmps13
  go_wp2_with fail
  refine (HA.out 5 (by omega)).mono ?_
  rintro e w1 ⟨x, rfl, hx0, hx1, rfl⟩
  go_wp2_with fail
  refine (HA.out 6 (by omega)).mono ?_
  rintro e w1 ⟨y, rfl, hy0, hy1, rfl⟩
  go_wp2_with fail
  refine (HA.out 7 (by omega)).mono ?_
  rintro e w1 ⟨z, rfl, hz0, hz1, rfl⟩
  go_wp2_with fail
  refine (HA.out 8 (by omega)).mono ?_
  rintro e w1 ⟨t, rfl, ht0, ht1, rfl⟩
  go_wp2
  go_ret
  exact ⟨_, rfl, by omega, by omega, rfl⟩
theorem dec_code (op a b c m : Int) (h : instrOk op a b c m = true) : code op a b c m / 67108864 = op ∧ code op a b c m / 4194304 % 16 = a ∧ code op a b c m / 262144 % 16 = b ∧ code op a b c m / 16384 % 16 = c ∧ sx (code op a b c m % 16384) = m ∧ 0 ≤ code op a b c m ∧ code op a b c m ≤ 4294967295 := by
  obtain ⟨h1, h2, h3, h4, h5, h6, h7, h8, h9, h10⟩ := instrOk_bounds op a b c m h
  have e : code op a b c m % 16384 = m % 16384 := by unfold code; omega
  refine ⟨by unfold code; omega, by unfold code; omega, by unfold code; omega, by unfold code; omega, ?_, by unfold code; omega, by unfold code; omega⟩
  rw [e]
  unfold sx
  split <;> omega
set_option maxHeartbeats 8000000 in
theorem codec_walk (w : World) (ad : Option Addr) (n cap : Nat) (zs : List Int) (Hn : Hid (n = zs.length)) (hs : Seg .u8 w ad zs) (hbz : ∀ z ∈ zs, (Lit.int .u8 z).wf = true) (hn : n ≤ 1048576) (hT : Tabs4 w)
    (HDR : Hid (Calls Tryd.prog 10 #[.slice ad n cap] w fun e w' => ∃ op a b c m, e = .returned (ins op a b c m) ∧ Below w.heap.size w w')) :
    Calls Tryd.prog 3 #[.slice ad n cap] w fun e w' => e = .returned (.bool true) ∧ Below w.heap.size w w' := by
  have HT : Hid _ := hT
  have HW : Hid (∀ X, Below w.heap.size w X → Calls Tryd.prog 13 #[.slice ad n cap, .int .i64 5] X fun e w' => ∃ x : Int, e = .returned (.int .u32 x) ∧ 0 ≤ x ∧ x ≤ 4294967295 ∧ w' = X) := fun X hX => word_any ad n cap zs X Hn (hs.below hX) hbz hn
  clear hT hs hbz
  go_enter Tryd.func3, Tryd.ntmps3
  go_wp2_with fail
  refine (big_no ad n cap _ hn).mono ?_
  rintro e w0 ⟨rfl, hw0⟩
  subst hw0
  go_wp2_with fail
  refine Calls.mono HDR.out ?_
  rintro e w1 ⟨op, a, b, c, m, rfl, hb1⟩
  have hb2 := hb1.alloc hb1.size (.cells #[.int .i64 op, .int .i64 a, .int .i64 b, .int .i64 c, .int .i64 m] 25)
  have HT2 : Hid _ := Tabs4.below HT.out hb2
  obtain ⟨cw, hcw⟩ : ∃ x, code op a b c m = x := ⟨_, rfl⟩
  cases hok : instrOk op a b c m with
  | false =>
    have HENC : Hid (∀ X, Tab X → Calls Tryd.prog 11 #[ins op a b c m] X fun e w' => e = .returned (.tuple #[.int .u32 0, .bool false]) ∧ Below X.heap.size X w') := fun X hX => by
      exact impl_enc_no op a b c m X hX hok
    have HOK : Hid (∀ X, Calls Tryd.prog 12 #[ins op a b c m] X fun e w' => e = .returned (.bool false) ∧ Below X.heap.size X w') := fun X => by
      have h1 := spec_ok op a b c m X
      rw [hok] at h1
      exact h1
    have HSI : Hid (∀ X, Tabs X → Calls Tryd.prog 17 #[ins op a b c m] X fun e w' => e = .returned (.string ⟨#[]⟩) ∧ Below X.heap.size X w') := fun X hX => impl_show_no op a b c m X hX.1 hok
    clear hok hcw
    go_wp2_with fail
    refine (HENC.out _ HT2.out.1.1).mono ?_
    rintro e w3 ⟨rfl, hk3⟩
    have hb3 := bhop hb2 hk3
    have i0 := kept_cell hk3 (new_cell w1 #[.int .i64 op, .int .i64 a, .int .i64 b, .int .i64 c, .int .i64 m] 25 0 (.int .i64 op) rfl)
    have i1 := kept_cell hk3 (new_cell w1 #[.int .i64 op, .int .i64 a, .int .i64 b, .int .i64 c, .int .i64 m] 25 1 (.int .i64 a) rfl)
    have i2 := kept_cell hk3 (new_cell w1 #[.int .i64 op, .int .i64 a, .int .i64 b, .int .i64 c, .int .i64 m] 25 2 (.int .i64 b) rfl)
    have i3 := kept_cell hk3 (new_cell w1 #[.int .i64 op, .int .i64 a, .int .i64 b, .int .i64 c, .int .i64 m] 25 3 (.int .i64 c) rfl)
    have i4 := kept_cell hk3 (new_cell w1 #[.int .i64 op, .int .i64 a, .int .i64 b, .int .i64 c, .int .i64 m] 25 4 (.int .i64 m) rfl)
    clear hk3
    go_wp2_with fail
    refine (HOK.out _).mono ?_
    rintro e w4 ⟨rfl, hk4⟩
    have hb4 := bhop hb3 hk4
    replace i0 := kept_cell hk4 i0
    replace i1 := kept_cell hk4 i1
    replace i2 := kept_cell hk4 i2
    replace i3 := kept_cell hk4 i3
    replace i4 := kept_cell hk4 i4
    clear hk4
    go_wp2_with fail
    refine (HW.out _ hb4).mono ?_
    rintro e w4' ⟨v, rfl, hv0, hv1, hw4⟩
    subst hw4
    cases hfi : wOk v with
    | false =>
      have HRL : Hid (∀ X, Tabs4 X → Calls Tryd.prog 14 #[.string (wordLine v)] X fun e w' => e = .returned (.agg #[.int .i64 2, .int .i64 0, .int .i64 0, .int .i64 0, .int .i64 0, .int .i64 0, .int .u32 v, .string ⟨#[]⟩]) ∧ Below X.heap.size X w') := fun X hX => by
        have h1 := impl_rl (wordLine v) X (Nat.le_trans (Dz.word_size v) (by omega)) hX.2 hX.1.1 hX.1.2.1
        have h2 : wordLine v = dotWord v := by unfold wordLine; rw [if_neg (by rw [hfi]; decide)]
        rw [h2, Cd.dot_back v hv0 hv1] at h1
        rw [h2]
        exact h1
      have HDE : Hid (∀ X, Tab X → Calls Tryd.prog 16 #[.int .u32 v] X fun e w' => e = .returned (.tuple #[ins 0 0 0 0 0, .bool false]) ∧ Below X.heap.size X w') := fun X hX => impl_dec v false X hX hv0 hv1 hfi
      have HSW : Hid (∀ X, Tabs X → Calls Tryd.prog 15 #[.int .u32 v] X fun e w' => e = .returned (.string (wordLine v)) ∧ Below X.heap.size X w') := fun X hX => impl_sw v X hX hv0 hv1
      clear hfi
      generalize wordLine v = L at HRL HSW
      have HT4 : Hid _ := Tabs4.below HT.out hb4
      go_wp2_with fail
      refine (HSW.out _ HT4.out.1).mono ?_
      rintro e w5 ⟨rfl, hk5⟩
      have hb5 := bhop hb4 hk5
      replace i0 := kept_cell hk5 i0
      replace i1 := kept_cell hk5 i1
      replace i2 := kept_cell hk5 i2
      replace i3 := kept_cell hk5 i3
      replace i4 := kept_cell hk5 i4
      clear hk5
      have HT5 : Hid _ := Tabs4.below HT.out hb5
      go_wp2_with fail
      refine (HRL.out _ HT5.out).mono ?_
      rintro e w6 ⟨rfl, hk6⟩
      have hb6 := bhop hb5 hk6
      replace i0 := kept_cell hk6 i0
      replace i1 := kept_cell hk6 i1
      replace i2 := kept_cell hk6 i2
      replace i3 := kept_cell hk6 i3
      replace i4 := kept_cell hk6 i4
      clear hk6
      have hb7 := hb6.alloc hb6.size (.cells #[.int .i64 2, .int .i64 0, .int .i64 0, .int .i64 0, .int .i64 0, .int .i64 0, .int .u32 v, .string ⟨#[]⟩] 33)
      have HT7 : Hid _ := Tabs4.below HT.out hb7
      go_wp2_with fail
      refine (HDE.out _ HT7.out.1.1).mono ?_
      rintro e w8 ⟨rfl, hk8⟩
      have hb8 := bhop hb7 hk8
      replace i0 := kept_cell hk8 (cell_alloc i0)
      replace i1 := kept_cell hk8 (cell_alloc i1)
      replace i2 := kept_cell hk8 (cell_alloc i2)
      replace i3 := kept_cell hk8 (cell_alloc i3)
      replace i4 := kept_cell hk8 (cell_alloc i4)
      have x0 := kept_cell hk8 (new_cell w6 #[.int .i64 2, .int .i64 0, .int .i64 0, .int .i64 0, .int .i64 0, .int .i64 0, .int .u32 v, .string ⟨#[]⟩] 33 0 (.int .i64 2) rfl)
      have x1 := kept_cell hk8 (new_cell w6 #[.int .i64 2, .int .i64 0, .int .i64 0, .int .i64 0, .int .i64 0, .int .i64 0, .int .u32 v, .string ⟨#[]⟩] 33 1 (.int .i64 0) rfl)
      have x2 := kept_cell hk8 (new_cell w6 #[.int .i64 2, .int .i64 0, .int .i64 0, .int .i64 0, .int .i64 0, .int .i64 0, .int .u32 v, .string ⟨#[]⟩] 33 2 (.int .i64 0) rfl)
      have x3 := kept_cell hk8 (new_cell w6 #[.int .i64 2, .int .i64 0, .int .i64 0, .int .i64 0, .int .i64 0, .int .i64 0, .int .u32 v, .string ⟨#[]⟩] 33 3 (.int .i64 0) rfl)
      have x4 := kept_cell hk8 (new_cell w6 #[.int .i64 2, .int .i64 0, .int .i64 0, .int .i64 0, .int .i64 0, .int .i64 0, .int .u32 v, .string ⟨#[]⟩] 33 4 (.int .i64 0) rfl)
      have x5 := kept_cell hk8 (new_cell w6 #[.int .i64 2, .int .i64 0, .int .i64 0, .int .i64 0, .int .i64 0, .int .i64 0, .int .u32 v, .string ⟨#[]⟩] 33 5 (.int .i64 0) rfl)
      have x6 := kept_cell hk8 (new_cell w6 #[.int .i64 2, .int .i64 0, .int .i64 0, .int .i64 0, .int .i64 0, .int .i64 0, .int .u32 v, .string ⟨#[]⟩] 33 6 (.int .u32 v) rfl)
      have x7 := kept_cell hk8 (new_cell w6 #[.int .i64 2, .int .i64 0, .int .i64 0, .int .i64 0, .int .i64 0, .int .i64 0, .int .u32 v, .string ⟨#[]⟩] 33 7 (.string ⟨#[]⟩) rfl)
      replace x0 := fun o => cell_alloc (o := o) x0
      replace x1 := fun o => cell_alloc (o := o) x1
      replace x2 := fun o => cell_alloc (o := o) x2
      replace x3 := fun o => cell_alloc (o := o) x3
      replace x4 := fun o => cell_alloc (o := o) x4
      replace x5 := fun o => cell_alloc (o := o) x5
      replace x6 := fun o => cell_alloc (o := o) x6
      replace x7 := fun o => cell_alloc (o := o) x7
      replace i0 := fun o => cell_alloc (o := o) i0
      replace i1 := fun o => cell_alloc (o := o) i1
      replace i2 := fun o => cell_alloc (o := o) i2
      replace i3 := fun o => cell_alloc (o := o) i3
      replace i4 := fun o => cell_alloc (o := o) i4
      clear hk8
      have hb9 := hb8.alloc hb8.size (.cells #[.int .i64 0, .int .i64 0, .int .i64 0, .int .i64 0, .int .i64 0] 25)
      have HT9 : Hid _ := Tabs4.below HT.out hb9
      go_wp2_with fail
      refine (HSI.out _ HT9.out.1).mono ?_
      rintro e w10 ⟨rfl, hk10⟩
      have hb10 := bhop hb9 hk10
      go_wp2
      go_ret
      exact ⟨rfl, hb10⟩
    | true =>
      obtain ⟨o1, ho1⟩ : ∃ x, v / 67108864 = x := ⟨_, rfl⟩
      obtain ⟨a1, ha1⟩ : ∃ x, v / 4194304 % 16 = x := ⟨_, rfl⟩
      obtain ⟨b1, hb1'⟩ : ∃ x, v / 262144 % 16 = x := ⟨_, rfl⟩
      obtain ⟨c1, hc1'⟩ : ∃ x, v / 16384 % 16 = x := ⟨_, rfl⟩
      obtain ⟨m1, hm1'⟩ : ∃ x, sx (v % 16384) = x := ⟨_, rfl⟩
      have HRL : Hid (∀ X, Tabs4 X → Calls Tryd.prog 14 #[.string (wordLine v)] X fun e w' => e = .returned (.agg #[.int .i64 3, .int .i64 o1, .int .i64 a1, .int .i64 b1, .int .i64 c1, .int .i64 m1, .int .u32 0, .string ⟨#[]⟩]) ∧ Below X.heap.size X w') := fun X hX => by
        have h1 := impl_rl (wordLine v) X (Nat.le_trans (Dz.word_size v) (by omega)) hX.2 hX.1.1 hX.1.2.1
        have h2 : wordLine v = lineOf (v / 67108864) (v / 4194304 % 16) (v / 262144 % 16) (v / 16384 % 16) (sx (v % 16384)) := by unfold wordLine; rw [if_pos hfi]
        rw [h2, Cd.line_back _ _ _ _ _ hfi, ho1, ha1, hb1', hc1', hm1'] at h1
        rw [h2, ho1, ha1, hb1', hc1', hm1']
        exact h1
      have HDE : Hid (∀ X, Tab X → Calls Tryd.prog 16 #[.int .u32 v] X fun e w' => e = .returned (.tuple #[ins o1 a1 b1 c1 m1, .bool true]) ∧ Below X.heap.size X w') := fun X hX => by
        have h1 := impl_dec v true X hX hv0 hv1 hfi
        rw [ho1, ha1, hb1', hc1', hm1'] at h1
        exact h1
      clear ho1 ha1 hb1' hc1' hm1'
      have HSW : Hid (∀ X, Tabs X → Calls Tryd.prog 15 #[.int .u32 v] X fun e w' => e = .returned (.string (wordLine v)) ∧ Below X.heap.size X w') := fun X hX => impl_sw v X hX hv0 hv1
      clear hfi
      generalize wordLine v = L at HRL HSW
      have HT4 : Hid _ := Tabs4.below HT.out hb4
      go_wp2_with fail
      refine (HSW.out _ HT4.out.1).mono ?_
      rintro e w5 ⟨rfl, hk5⟩
      have hb5 := bhop hb4 hk5
      replace i0 := kept_cell hk5 i0
      replace i1 := kept_cell hk5 i1
      replace i2 := kept_cell hk5 i2
      replace i3 := kept_cell hk5 i3
      replace i4 := kept_cell hk5 i4
      clear hk5
      have HT5 : Hid _ := Tabs4.below HT.out hb5
      go_wp2_with fail
      refine (HRL.out _ HT5.out).mono ?_
      rintro e w6 ⟨rfl, hk6⟩
      have hb6 := bhop hb5 hk6
      replace i0 := kept_cell hk6 i0
      replace i1 := kept_cell hk6 i1
      replace i2 := kept_cell hk6 i2
      replace i3 := kept_cell hk6 i3
      replace i4 := kept_cell hk6 i4
      clear hk6
      have hb7 := hb6.alloc hb6.size (.cells #[.int .i64 3, .int .i64 o1, .int .i64 a1, .int .i64 b1, .int .i64 c1, .int .i64 m1, .int .u32 0, .string ⟨#[]⟩] 33)
      have HT7 : Hid _ := Tabs4.below HT.out hb7
      go_wp2_with fail
      refine (HDE.out _ HT7.out.1.1).mono ?_
      rintro e w8 ⟨rfl, hk8⟩
      have hb8 := bhop hb7 hk8
      replace i0 := kept_cell hk8 (cell_alloc i0)
      replace i1 := kept_cell hk8 (cell_alloc i1)
      replace i2 := kept_cell hk8 (cell_alloc i2)
      replace i3 := kept_cell hk8 (cell_alloc i3)
      replace i4 := kept_cell hk8 (cell_alloc i4)
      have x0 := kept_cell hk8 (new_cell w6 #[.int .i64 3, .int .i64 o1, .int .i64 a1, .int .i64 b1, .int .i64 c1, .int .i64 m1, .int .u32 0, .string ⟨#[]⟩] 33 0 (.int .i64 3) rfl)
      have x1 := kept_cell hk8 (new_cell w6 #[.int .i64 3, .int .i64 o1, .int .i64 a1, .int .i64 b1, .int .i64 c1, .int .i64 m1, .int .u32 0, .string ⟨#[]⟩] 33 1 (.int .i64 o1) rfl)
      have x2 := kept_cell hk8 (new_cell w6 #[.int .i64 3, .int .i64 o1, .int .i64 a1, .int .i64 b1, .int .i64 c1, .int .i64 m1, .int .u32 0, .string ⟨#[]⟩] 33 2 (.int .i64 a1) rfl)
      have x3 := kept_cell hk8 (new_cell w6 #[.int .i64 3, .int .i64 o1, .int .i64 a1, .int .i64 b1, .int .i64 c1, .int .i64 m1, .int .u32 0, .string ⟨#[]⟩] 33 3 (.int .i64 b1) rfl)
      have x4 := kept_cell hk8 (new_cell w6 #[.int .i64 3, .int .i64 o1, .int .i64 a1, .int .i64 b1, .int .i64 c1, .int .i64 m1, .int .u32 0, .string ⟨#[]⟩] 33 4 (.int .i64 c1) rfl)
      have x5 := kept_cell hk8 (new_cell w6 #[.int .i64 3, .int .i64 o1, .int .i64 a1, .int .i64 b1, .int .i64 c1, .int .i64 m1, .int .u32 0, .string ⟨#[]⟩] 33 5 (.int .i64 m1) rfl)
      have x6 := kept_cell hk8 (new_cell w6 #[.int .i64 3, .int .i64 o1, .int .i64 a1, .int .i64 b1, .int .i64 c1, .int .i64 m1, .int .u32 0, .string ⟨#[]⟩] 33 6 (.int .u32 0) rfl)
      have x7 := kept_cell hk8 (new_cell w6 #[.int .i64 3, .int .i64 o1, .int .i64 a1, .int .i64 b1, .int .i64 c1, .int .i64 m1, .int .u32 0, .string ⟨#[]⟩] 33 7 (.string ⟨#[]⟩) rfl)
      replace x0 := fun o => cell_alloc (o := o) x0
      replace x1 := fun o => cell_alloc (o := o) x1
      replace x2 := fun o => cell_alloc (o := o) x2
      replace x3 := fun o => cell_alloc (o := o) x3
      replace x4 := fun o => cell_alloc (o := o) x4
      replace x5 := fun o => cell_alloc (o := o) x5
      replace x6 := fun o => cell_alloc (o := o) x6
      replace x7 := fun o => cell_alloc (o := o) x7
      replace i0 := fun o => cell_alloc (o := o) i0
      replace i1 := fun o => cell_alloc (o := o) i1
      replace i2 := fun o => cell_alloc (o := o) i2
      replace i3 := fun o => cell_alloc (o := o) i3
      replace i4 := fun o => cell_alloc (o := o) i4
      clear hk8
      have hb9 := hb8.alloc hb8.size (.cells #[.int .i64 o1, .int .i64 a1, .int .i64 b1, .int .i64 c1, .int .i64 m1] 25)
      have HT9 : Hid _ := Tabs4.below HT.out hb9
      go_wp2_with fail
      refine (HSI.out _ HT9.out.1).mono ?_
      rintro e w10 ⟨rfl, hk10⟩
      have hb10 := bhop hb9 hk10
      go_wp2
      go_ret
      exact ⟨rfl, hb10⟩
  | true =>
    have HENC : Hid (∀ X, Tab X → Calls Tryd.prog 11 #[ins op a b c m] X fun e w' => e = .returned (.tuple #[.int .u32 cw, .bool true]) ∧ Below X.heap.size X w') := fun X hX => by
      have h1 := impl_enc op a b c m X hX hok; rw [hcw] at h1; exact h1
    have HOK : Hid (∀ X, Calls Tryd.prog 12 #[ins op a b c m] X fun e w' => e = .returned (.bool true) ∧ Below X.heap.size X w') := fun X => by
      have h1 := spec_ok op a b c m X
      rw [hok] at h1
      exact h1
    have HSI : Hid (∀ X, Tabs X → Calls Tryd.prog 17 #[ins op a b c m] X fun e w' => e = .returned (.string (lineOf op a b c m)) ∧ Below X.heap.size X w') := fun X hX => impl_show op a b c m X hX.1 hX.2.1 hX.2.2 hok
    obtain ⟨d1, d2, d3, d4, d5, d6, d7⟩ := dec_code op a b c m hok
    obtain ⟨k, hkk, hk33⟩ := ok_nat op a b c m hok
    obtain ⟨nmo, hnm⟩ : ∃ x, nm k = x := ⟨_, rfl⟩
    have HRL2 : Hid (∀ X, Tabs4 X → Calls Tryd.prog 14 #[.string (lineOf op a b c m)] X fun e w' => e = .returned (.agg #[.int .i64 3, .int .i64 op, .int .i64 a, .int .i64 b, .int .i64 c, .int .i64 m, .int .u32 0, .string ⟨#[]⟩]) ∧ Below X.heap.size X w') := fun X hX => by
      have h1 := impl_rl (lineOf op a b c m) X (Nat.le_trans (Dz.line_size op a b c m) (by omega)) hX.2 hX.1.1 hX.1.2.1
      rw [Cd.line_back _ _ _ _ _ hok] at h1
      exact h1
    have HDE2 : Hid (∀ X, Tab X → Calls Tryd.prog 16 #[.int .u32 cw] X fun e w' => e = .returned (.tuple #[ins op a b c m, .bool true]) ∧ Below X.heap.size X w') := fun X hX => by
      have h1 := impl_dec cw true X hX (by rw [← hcw]; exact d6) (by rw [← hcw]; exact d7) (by show _ = _; rw [← hcw, d1, d2, d3, d4, d5]; exact hok)
      rw [← hcw, d1, d2, d3, d4, d5, hcw] at h1
      exact h1
    have HON : Hid (∀ X, TabN X → Calls Tryd.prog 19 #[.int .i64 op] X fun e w' => e = .returned (.string nmo) ∧ w' = X) := fun X hX => by
      rw [hkk]
      exact impl_name k nmo X hk33 (by rw [← hnm]; exact hX k hk33)
    have HOO : Hid (∀ X, TabN X → Calls Tryd.prog 18 #[.string nmo] X fun e w' => e = .returned (.int .i64 op) ∧ w' = X) := fun X hX => by
      obtain ⟨o2, h1, h2⟩ := of_any nmo
      have h3 := Cd.opN_nm ⟨k, hk33⟩
      simp only [hnm] at h3
      rcases h2 with ⟨_, h2⟩ | ⟨k2, _, h4, h2⟩
      · rw [h2] at h3; cases h3
      · rw [h2] at h3
        injection h3 with h3
        subst h3
        rw [hkk, ← h4]
        exact h1 X hX
    clear d1 d2 d3 d4 d5 d6 d7 hkk hk33 hnm
    generalize lineOf op a b c m = L2 at HSI HRL2
    clear hok hcw
    go_wp2_with fail
    refine (HENC.out _ HT2.out.1.1).mono ?_
    rintro e w3 ⟨rfl, hk3⟩
    have hb3 := bhop hb2 hk3
    have i0 := kept_cell hk3 (new_cell w1 #[.int .i64 op, .int .i64 a, .int .i64 b, .int .i64 c, .int .i64 m] 25 0 (.int .i64 op) rfl)
    have i1 := kept_cell hk3 (new_cell w1 #[.int .i64 op, .int .i64 a, .int .i64 b, .int .i64 c, .int .i64 m] 25 1 (.int .i64 a) rfl)
    have i2 := kept_cell hk3 (new_cell w1 #[.int .i64 op, .int .i64 a, .int .i64 b, .int .i64 c, .int .i64 m] 25 2 (.int .i64 b) rfl)
    have i3 := kept_cell hk3 (new_cell w1 #[.int .i64 op, .int .i64 a, .int .i64 b, .int .i64 c, .int .i64 m] 25 3 (.int .i64 c) rfl)
    have i4 := kept_cell hk3 (new_cell w1 #[.int .i64 op, .int .i64 a, .int .i64 b, .int .i64 c, .int .i64 m] 25 4 (.int .i64 m) rfl)
    clear hk3
    go_wp2_with fail
    refine (HOK.out _).mono ?_
    rintro e w4 ⟨rfl, hk4⟩
    have hb4 := bhop hb3 hk4
    replace i0 := kept_cell hk4 i0
    replace i1 := kept_cell hk4 i1
    replace i2 := kept_cell hk4 i2
    replace i3 := kept_cell hk4 i3
    replace i4 := kept_cell hk4 i4
    clear hk4
    go_wp2_with fail
    refine (HW.out _ hb4).mono ?_
    rintro e w4' ⟨v, rfl, hv0, hv1, hw4⟩
    subst hw4
    cases hfi : wOk v with
    | false =>
      have HRL : Hid (∀ X, Tabs4 X → Calls Tryd.prog 14 #[.string (wordLine v)] X fun e w' => e = .returned (.agg #[.int .i64 2, .int .i64 0, .int .i64 0, .int .i64 0, .int .i64 0, .int .i64 0, .int .u32 v, .string ⟨#[]⟩]) ∧ Below X.heap.size X w') := fun X hX => by
        have h1 := impl_rl (wordLine v) X (Nat.le_trans (Dz.word_size v) (by omega)) hX.2 hX.1.1 hX.1.2.1
        have h2 : wordLine v = dotWord v := by unfold wordLine; rw [if_neg (by rw [hfi]; decide)]
        rw [h2, Cd.dot_back v hv0 hv1] at h1
        rw [h2]
        exact h1
      have HDE : Hid (∀ X, Tab X → Calls Tryd.prog 16 #[.int .u32 v] X fun e w' => e = .returned (.tuple #[ins 0 0 0 0 0, .bool false]) ∧ Below X.heap.size X w') := fun X hX => impl_dec v false X hX hv0 hv1 hfi
      have HSW : Hid (∀ X, Tabs X → Calls Tryd.prog 15 #[.int .u32 v] X fun e w' => e = .returned (.string (wordLine v)) ∧ Below X.heap.size X w') := fun X hX => impl_sw v X hX hv0 hv1
      clear hfi
      generalize wordLine v = L at HRL HSW
      have HT4 : Hid _ := Tabs4.below HT.out hb4
      go_wp2_with fail
      refine (HSW.out _ HT4.out.1).mono ?_
      rintro e w5 ⟨rfl, hk5⟩
      have hb5 := bhop hb4 hk5
      replace i0 := kept_cell hk5 i0
      replace i1 := kept_cell hk5 i1
      replace i2 := kept_cell hk5 i2
      replace i3 := kept_cell hk5 i3
      replace i4 := kept_cell hk5 i4
      clear hk5
      have HT5 : Hid _ := Tabs4.below HT.out hb5
      go_wp2_with fail
      refine (HRL.out _ HT5.out).mono ?_
      rintro e w6 ⟨rfl, hk6⟩
      have hb6 := bhop hb5 hk6
      replace i0 := kept_cell hk6 i0
      replace i1 := kept_cell hk6 i1
      replace i2 := kept_cell hk6 i2
      replace i3 := kept_cell hk6 i3
      replace i4 := kept_cell hk6 i4
      clear hk6
      have hb7 := hb6.alloc hb6.size (.cells #[.int .i64 2, .int .i64 0, .int .i64 0, .int .i64 0, .int .i64 0, .int .i64 0, .int .u32 v, .string ⟨#[]⟩] 33)
      have HT7 : Hid _ := Tabs4.below HT.out hb7
      go_wp2_with fail
      refine (HDE.out _ HT7.out.1.1).mono ?_
      rintro e w8 ⟨rfl, hk8⟩
      have hb8 := bhop hb7 hk8
      replace i0 := kept_cell hk8 (cell_alloc i0)
      replace i1 := kept_cell hk8 (cell_alloc i1)
      replace i2 := kept_cell hk8 (cell_alloc i2)
      replace i3 := kept_cell hk8 (cell_alloc i3)
      replace i4 := kept_cell hk8 (cell_alloc i4)
      have x0 := kept_cell hk8 (new_cell w6 #[.int .i64 2, .int .i64 0, .int .i64 0, .int .i64 0, .int .i64 0, .int .i64 0, .int .u32 v, .string ⟨#[]⟩] 33 0 (.int .i64 2) rfl)
      have x1 := kept_cell hk8 (new_cell w6 #[.int .i64 2, .int .i64 0, .int .i64 0, .int .i64 0, .int .i64 0, .int .i64 0, .int .u32 v, .string ⟨#[]⟩] 33 1 (.int .i64 0) rfl)
      have x2 := kept_cell hk8 (new_cell w6 #[.int .i64 2, .int .i64 0, .int .i64 0, .int .i64 0, .int .i64 0, .int .i64 0, .int .u32 v, .string ⟨#[]⟩] 33 2 (.int .i64 0) rfl)
      have x3 := kept_cell hk8 (new_cell w6 #[.int .i64 2, .int .i64 0, .int .i64 0, .int .i64 0, .int .i64 0, .int .i64 0, .int .u32 v, .string ⟨#[]⟩] 33 3 (.int .i64 0) rfl)
      have x4 := kept_cell hk8 (new_cell w6 #[.int .i64 2, .int .i64 0, .int .i64 0, .int .i64 0, .int .i64 0, .int .i64 0, .int .u32 v, .string ⟨#[]⟩] 33 4 (.int .i64 0) rfl)
      have x5 := kept_cell hk8 (new_cell w6 #[.int .i64 2, .int .i64 0, .int .i64 0, .int .i64 0, .int .i64 0, .int .i64 0, .int .u32 v, .string ⟨#[]⟩] 33 5 (.int .i64 0) rfl)
      have x6 := kept_cell hk8 (new_cell w6 #[.int .i64 2, .int .i64 0, .int .i64 0, .int .i64 0, .int .i64 0, .int .i64 0, .int .u32 v, .string ⟨#[]⟩] 33 6 (.int .u32 v) rfl)
      have x7 := kept_cell hk8 (new_cell w6 #[.int .i64 2, .int .i64 0, .int .i64 0, .int .i64 0, .int .i64 0, .int .i64 0, .int .u32 v, .string ⟨#[]⟩] 33 7 (.string ⟨#[]⟩) rfl)
      replace x0 := fun o => cell_alloc (o := o) x0
      replace x1 := fun o => cell_alloc (o := o) x1
      replace x2 := fun o => cell_alloc (o := o) x2
      replace x3 := fun o => cell_alloc (o := o) x3
      replace x4 := fun o => cell_alloc (o := o) x4
      replace x5 := fun o => cell_alloc (o := o) x5
      replace x6 := fun o => cell_alloc (o := o) x6
      replace x7 := fun o => cell_alloc (o := o) x7
      replace i0 := fun o => cell_alloc (o := o) i0
      replace i1 := fun o => cell_alloc (o := o) i1
      replace i2 := fun o => cell_alloc (o := o) i2
      replace i3 := fun o => cell_alloc (o := o) i3
      replace i4 := fun o => cell_alloc (o := o) i4
      clear hk8
      have hb9 := hb8.alloc hb8.size (.cells #[.int .i64 0, .int .i64 0, .int .i64 0, .int .i64 0, .int .i64 0] 25)
      have HT9 : Hid _ := Tabs4.below HT.out hb9
      go_wp2_with fail
      refine (HDE2.out _ HT9.out.1.1).mono ?_
      rintro e w10 ⟨rfl, hk10⟩
      have hb10 := bhop hb9 hk10
      have j0 := kept_cell hk10 (i0 _)
      have j1 := kept_cell hk10 (i1 _)
      have j2 := kept_cell hk10 (i2 _)
      have j3 := kept_cell hk10 (i3 _)
      have j4 := kept_cell hk10 (i4 _)
      clear hk10 i0 i1 i2 i3 i4 x0 x1 x2 x3 x4 x5 x6 x7
      have hb11 := hb10.alloc hb10.size (.cells #[.int .i64 op, .int .i64 a, .int .i64 b, .int .i64 c, .int .i64 m] 25)
      replace j0 := fun o => cell_alloc (o := o) j0
      replace j1 := fun o => cell_alloc (o := o) j1
      replace j2 := fun o => cell_alloc (o := o) j2
      replace j3 := fun o => cell_alloc (o := o) j3
      replace j4 := fun o => cell_alloc (o := o) j4
      have HT11 : Hid _ := Tabs4.below HT.out hb11
      go_wp2_with fail
      refine (HSI.out _ HT11.out.1).mono ?_
      rintro e w12 ⟨rfl, hk12⟩
      have hb12 := bhop hb11 hk12
      replace j0 := kept_cell hk12 (j0 _)
      replace j1 := kept_cell hk12 (j1 _)
      replace j2 := kept_cell hk12 (j2 _)
      replace j3 := kept_cell hk12 (j3 _)
      replace j4 := kept_cell hk12 (j4 _)
      have k0 := kept_cell hk12 (new_cell w10 #[.int .i64 op, .int .i64 a, .int .i64 b, .int .i64 c, .int .i64 m] 25 0 (.int .i64 op) rfl)
      have k1 := kept_cell hk12 (new_cell w10 #[.int .i64 op, .int .i64 a, .int .i64 b, .int .i64 c, .int .i64 m] 25 1 (.int .i64 a) rfl)
      have k2 := kept_cell hk12 (new_cell w10 #[.int .i64 op, .int .i64 a, .int .i64 b, .int .i64 c, .int .i64 m] 25 2 (.int .i64 b) rfl)
      have k3 := kept_cell hk12 (new_cell w10 #[.int .i64 op, .int .i64 a, .int .i64 b, .int .i64 c, .int .i64 m] 25 3 (.int .i64 c) rfl)
      have k4 := kept_cell hk12 (new_cell w10 #[.int .i64 op, .int .i64 a, .int .i64 b, .int .i64 c, .int .i64 m] 25 4 (.int .i64 m) rfl)
      clear hk12
      have HT12 : Hid _ := Tabs4.below HT.out hb12
      go_wp2_with fail
      refine (HRL2.out _ HT12.out).mono ?_
      rintro e w13 ⟨rfl, hk13⟩
      have hb13 := bhop hb12 hk13
      replace j0 := kept_cell hk13 j0
      replace k0 := kept_cell hk13 k0
      replace j1 := kept_cell hk13 j1
      replace k1 := kept_cell hk13 k1
      replace j2 := kept_cell hk13 j2
      replace k2 := kept_cell hk13 k2
      replace j3 := kept_cell hk13 j3
      replace k3 := kept_cell hk13 k3
      replace j4 := kept_cell hk13 j4
      replace k4 := kept_cell hk13 k4
      replace j0 := fun o => cell_alloc (o := o) j0
      replace k0 := fun o => cell_alloc (o := o) k0
      replace j1 := fun o => cell_alloc (o := o) j1
      replace k1 := fun o => cell_alloc (o := o) k1
      replace j2 := fun o => cell_alloc (o := o) j2
      replace k2 := fun o => cell_alloc (o := o) k2
      replace j3 := fun o => cell_alloc (o := o) j3
      replace k3 := fun o => cell_alloc (o := o) k3
      replace j4 := fun o => cell_alloc (o := o) j4
      replace k4 := fun o => cell_alloc (o := o) k4
      clear hk13
      have hb14 := hb13.alloc hb13.size (.cells #[.int .i64 3, .int .i64 op, .int .i64 a, .int .i64 b, .int .i64 c, .int .i64 m, .int .u32 0, .string ⟨#[]⟩] 33)
      have HT14 : Hid _ := Tabs4.below HT.out hb14
      have HN2 : Hid (∀ X, Below ((w13.alloc (.cells #[.int .i64 3, .int .i64 op, .int .i64 a, .int .i64 b, .int .i64 c, .int .i64 m, .int .u32 0, .string ⟨#[]⟩] 33))).heap.size (w13.alloc (.cells #[.int .i64 3, .int .i64 op, .int .i64 a, .int .i64 b, .int .i64 c, .int .i64 m, .int .u32 0, .string ⟨#[]⟩] 33)) X → Calls Tryd.prog 19 #[.int .i64 op] X fun e w' => e = .returned (.string nmo) ∧ w' = X) := fun X hX => HON.out X (TabN.below HT14.out.1.2.1 hX)
      have HO2 : Hid (∀ X, Below ((w13.alloc (.cells #[.int .i64 3, .int .i64 op, .int .i64 a, .int .i64 b, .int .i64 c, .int .i64 m, .int .u32 0, .string ⟨#[]⟩] 33))).heap.size (w13.alloc (.cells #[.int .i64 3, .int .i64 op, .int .i64 a, .int .i64 b, .int .i64 c, .int .i64 m, .int .u32 0, .string ⟨#[]⟩] 33)) X → Calls Tryd.prog 18 #[.string nmo] X fun e w' => e = .returned (.int .i64 op) ∧ w' = X) := fun X hX => HOO.out X (TabN.below HT14.out.1.2.1 hX)
      go_wp2
      go_quiet (first | (go_at_call 19; refine Calls.quiet_of_same (HN2.out _ (below_drewN (Below.refl _ _) _))) | (go_at_call 18; refine Calls.quiet_of_same (HO2.out _ (below_drewN (Below.refl _ _) _))))
      go_wp2
      go_ret
      exact ⟨rfl, below_drewN hb14 _⟩
    | true =>
      obtain ⟨o1, ho1⟩ : ∃ x, v / 67108864 = x := ⟨_, rfl⟩
      obtain ⟨a1, ha1⟩ : ∃ x, v / 4194304 % 16 = x := ⟨_, rfl⟩
      obtain ⟨b1, hb1'⟩ : ∃ x, v / 262144 % 16 = x := ⟨_, rfl⟩
      obtain ⟨c1, hc1'⟩ : ∃ x, v / 16384 % 16 = x := ⟨_, rfl⟩
      obtain ⟨m1, hm1'⟩ : ∃ x, sx (v % 16384) = x := ⟨_, rfl⟩
      have HRL : Hid (∀ X, Tabs4 X → Calls Tryd.prog 14 #[.string (wordLine v)] X fun e w' => e = .returned (.agg #[.int .i64 3, .int .i64 o1, .int .i64 a1, .int .i64 b1, .int .i64 c1, .int .i64 m1, .int .u32 0, .string ⟨#[]⟩]) ∧ Below X.heap.size X w') := fun X hX => by
        have h1 := impl_rl (wordLine v) X (Nat.le_trans (Dz.word_size v) (by omega)) hX.2 hX.1.1 hX.1.2.1
        have h2 : wordLine v = lineOf (v / 67108864) (v / 4194304 % 16) (v / 262144 % 16) (v / 16384 % 16) (sx (v % 16384)) := by unfold wordLine; rw [if_pos hfi]
        rw [h2, Cd.line_back _ _ _ _ _ hfi, ho1, ha1, hb1', hc1', hm1'] at h1
        rw [h2, ho1, ha1, hb1', hc1', hm1']
        exact h1
      have HDE : Hid (∀ X, Tab X → Calls Tryd.prog 16 #[.int .u32 v] X fun e w' => e = .returned (.tuple #[ins o1 a1 b1 c1 m1, .bool true]) ∧ Below X.heap.size X w') := fun X hX => by
        have h1 := impl_dec v true X hX hv0 hv1 hfi
        rw [ho1, ha1, hb1', hc1', hm1'] at h1
        exact h1
      clear ho1 ha1 hb1' hc1' hm1'
      have HSW : Hid (∀ X, Tabs X → Calls Tryd.prog 15 #[.int .u32 v] X fun e w' => e = .returned (.string (wordLine v)) ∧ Below X.heap.size X w') := fun X hX => impl_sw v X hX hv0 hv1
      clear hfi
      generalize wordLine v = L at HRL HSW
      have HT4 : Hid _ := Tabs4.below HT.out hb4
      go_wp2_with fail
      refine (HSW.out _ HT4.out.1).mono ?_
      rintro e w5 ⟨rfl, hk5⟩
      have hb5 := bhop hb4 hk5
      replace i0 := kept_cell hk5 i0
      replace i1 := kept_cell hk5 i1
      replace i2 := kept_cell hk5 i2
      replace i3 := kept_cell hk5 i3
      replace i4 := kept_cell hk5 i4
      clear hk5
      have HT5 : Hid _ := Tabs4.below HT.out hb5
      go_wp2_with fail
      refine (HRL.out _ HT5.out).mono ?_
      rintro e w6 ⟨rfl, hk6⟩
      have hb6 := bhop hb5 hk6
      replace i0 := kept_cell hk6 i0
      replace i1 := kept_cell hk6 i1
      replace i2 := kept_cell hk6 i2
      replace i3 := kept_cell hk6 i3
      replace i4 := kept_cell hk6 i4
      clear hk6
      have hb7 := hb6.alloc hb6.size (.cells #[.int .i64 3, .int .i64 o1, .int .i64 a1, .int .i64 b1, .int .i64 c1, .int .i64 m1, .int .u32 0, .string ⟨#[]⟩] 33)
      have HT7 : Hid _ := Tabs4.below HT.out hb7
      go_wp2_with fail
      refine (HDE.out _ HT7.out.1.1).mono ?_
      rintro e w8 ⟨rfl, hk8⟩
      have hb8 := bhop hb7 hk8
      replace i0 := kept_cell hk8 (cell_alloc i0)
      replace i1 := kept_cell hk8 (cell_alloc i1)
      replace i2 := kept_cell hk8 (cell_alloc i2)
      replace i3 := kept_cell hk8 (cell_alloc i3)
      replace i4 := kept_cell hk8 (cell_alloc i4)
      have x0 := kept_cell hk8 (new_cell w6 #[.int .i64 3, .int .i64 o1, .int .i64 a1, .int .i64 b1, .int .i64 c1, .int .i64 m1, .int .u32 0, .string ⟨#[]⟩] 33 0 (.int .i64 3) rfl)
      have x1 := kept_cell hk8 (new_cell w6 #[.int .i64 3, .int .i64 o1, .int .i64 a1, .int .i64 b1, .int .i64 c1, .int .i64 m1, .int .u32 0, .string ⟨#[]⟩] 33 1 (.int .i64 o1) rfl)
      have x2 := kept_cell hk8 (new_cell w6 #[.int .i64 3, .int .i64 o1, .int .i64 a1, .int .i64 b1, .int .i64 c1, .int .i64 m1, .int .u32 0, .string ⟨#[]⟩] 33 2 (.int .i64 a1) rfl)
      have x3 := kept_cell hk8 (new_cell w6 #[.int .i64 3, .int .i64 o1, .int .i64 a1, .int .i64 b1, .int .i64 c1, .int .i64 m1, .int .u32 0, .string ⟨#[]⟩] 33 3 (.int .i64 b1) rfl)
      have x4 := kept_cell hk8 (new_cell w6 #[.int .i64 3, .int .i64 o1, .int .i64 a1, .int .i64 b1, .int .i64 c1, .int .i64 m1, .int .u32 0, .string ⟨#[]⟩] 33 4 (.int .i64 c1) rfl)
      have x5 := kept_cell hk8 (new_cell w6 #[.int .i64 3, .int .i64 o1, .int .i64 a1, .int .i64 b1, .int .i64 c1, .int .i64 m1, .int .u32 0, .string ⟨#[]⟩] 33 5 (.int .i64 m1) rfl)
      have x6 := kept_cell hk8 (new_cell w6 #[.int .i64 3, .int .i64 o1, .int .i64 a1, .int .i64 b1, .int .i64 c1, .int .i64 m1, .int .u32 0, .string ⟨#[]⟩] 33 6 (.int .u32 0) rfl)
      have x7 := kept_cell hk8 (new_cell w6 #[.int .i64 3, .int .i64 o1, .int .i64 a1, .int .i64 b1, .int .i64 c1, .int .i64 m1, .int .u32 0, .string ⟨#[]⟩] 33 7 (.string ⟨#[]⟩) rfl)
      replace x0 := fun o => cell_alloc (o := o) x0
      replace x1 := fun o => cell_alloc (o := o) x1
      replace x2 := fun o => cell_alloc (o := o) x2
      replace x3 := fun o => cell_alloc (o := o) x3
      replace x4 := fun o => cell_alloc (o := o) x4
      replace x5 := fun o => cell_alloc (o := o) x5
      replace x6 := fun o => cell_alloc (o := o) x6
      replace x7 := fun o => cell_alloc (o := o) x7
      replace i0 := fun o => cell_alloc (o := o) i0
      replace i1 := fun o => cell_alloc (o := o) i1
      replace i2 := fun o => cell_alloc (o := o) i2
      replace i3 := fun o => cell_alloc (o := o) i3
      replace i4 := fun o => cell_alloc (o := o) i4
      clear hk8
      have hb9 := hb8.alloc hb8.size (.cells #[.int .i64 o1, .int .i64 a1, .int .i64 b1, .int .i64 c1, .int .i64 m1] 25)
      have HT9 : Hid _ := Tabs4.below HT.out hb9
      go_wp2_with fail
      refine (HDE2.out _ HT9.out.1.1).mono ?_
      rintro e w10 ⟨rfl, hk10⟩
      have hb10 := bhop hb9 hk10
      have j0 := kept_cell hk10 (i0 _)
      have j1 := kept_cell hk10 (i1 _)
      have j2 := kept_cell hk10 (i2 _)
      have j3 := kept_cell hk10 (i3 _)
      have j4 := kept_cell hk10 (i4 _)
      clear hk10 i0 i1 i2 i3 i4 x0 x1 x2 x3 x4 x5 x6 x7
      have hb11 := hb10.alloc hb10.size (.cells #[.int .i64 op, .int .i64 a, .int .i64 b, .int .i64 c, .int .i64 m] 25)
      replace j0 := fun o => cell_alloc (o := o) j0
      replace j1 := fun o => cell_alloc (o := o) j1
      replace j2 := fun o => cell_alloc (o := o) j2
      replace j3 := fun o => cell_alloc (o := o) j3
      replace j4 := fun o => cell_alloc (o := o) j4
      have HT11 : Hid _ := Tabs4.below HT.out hb11
      go_wp2_with fail
      refine (HSI.out _ HT11.out.1).mono ?_
      rintro e w12 ⟨rfl, hk12⟩
      have hb12 := bhop hb11 hk12
      replace j0 := kept_cell hk12 (j0 _)
      replace j1 := kept_cell hk12 (j1 _)
      replace j2 := kept_cell hk12 (j2 _)
      replace j3 := kept_cell hk12 (j3 _)
      replace j4 := kept_cell hk12 (j4 _)
      have k0 := kept_cell hk12 (new_cell w10 #[.int .i64 op, .int .i64 a, .int .i64 b, .int .i64 c, .int .i64 m] 25 0 (.int .i64 op) rfl)
      have k1 := kept_cell hk12 (new_cell w10 #[.int .i64 op, .int .i64 a, .int .i64 b, .int .i64 c, .int .i64 m] 25 1 (.int .i64 a) rfl)
      have k2 := kept_cell hk12 (new_cell w10 #[.int .i64 op, .int .i64 a, .int .i64 b, .int .i64 c, .int .i64 m] 25 2 (.int .i64 b) rfl)
      have k3 := kept_cell hk12 (new_cell w10 #[.int .i64 op, .int .i64 a, .int .i64 b, .int .i64 c, .int .i64 m] 25 3 (.int .i64 c) rfl)
      have k4 := kept_cell hk12 (new_cell w10 #[.int .i64 op, .int .i64 a, .int .i64 b, .int .i64 c, .int .i64 m] 25 4 (.int .i64 m) rfl)
      clear hk12
      have HT12 : Hid _ := Tabs4.below HT.out hb12
      go_wp2_with fail
      refine (HRL2.out _ HT12.out).mono ?_
      rintro e w13 ⟨rfl, hk13⟩
      have hb13 := bhop hb12 hk13
      replace j0 := kept_cell hk13 j0
      replace k0 := kept_cell hk13 k0
      replace j1 := kept_cell hk13 j1
      replace k1 := kept_cell hk13 k1
      replace j2 := kept_cell hk13 j2
      replace k2 := kept_cell hk13 k2
      replace j3 := kept_cell hk13 j3
      replace k3 := kept_cell hk13 k3
      replace j4 := kept_cell hk13 j4
      replace k4 := kept_cell hk13 k4
      replace j0 := fun o => cell_alloc (o := o) j0
      replace k0 := fun o => cell_alloc (o := o) k0
      replace j1 := fun o => cell_alloc (o := o) j1
      replace k1 := fun o => cell_alloc (o := o) k1
      replace j2 := fun o => cell_alloc (o := o) j2
      replace k2 := fun o => cell_alloc (o := o) k2
      replace j3 := fun o => cell_alloc (o := o) j3
      replace k3 := fun o => cell_alloc (o := o) k3
      replace j4 := fun o => cell_alloc (o := o) j4
      replace k4 := fun o => cell_alloc (o := o) k4
      clear hk13
      have hb14 := hb13.alloc hb13.size (.cells #[.int .i64 3, .int .i64 op, .int .i64 a, .int .i64 b, .int .i64 c, .int .i64 m, .int .u32 0, .string ⟨#[]⟩] 33)
      have HT14 : Hid _ := Tabs4.below HT.out hb14
      have HN2 : Hid (∀ X, Below ((w13.alloc (.cells #[.int .i64 3, .int .i64 op, .int .i64 a, .int .i64 b, .int .i64 c, .int .i64 m, .int .u32 0, .string ⟨#[]⟩] 33))).heap.size (w13.alloc (.cells #[.int .i64 3, .int .i64 op, .int .i64 a, .int .i64 b, .int .i64 c, .int .i64 m, .int .u32 0, .string ⟨#[]⟩] 33)) X → Calls Tryd.prog 19 #[.int .i64 op] X fun e w' => e = .returned (.string nmo) ∧ w' = X) := fun X hX => HON.out X (TabN.below HT14.out.1.2.1 hX)
      have HO2 : Hid (∀ X, Below ((w13.alloc (.cells #[.int .i64 3, .int .i64 op, .int .i64 a, .int .i64 b, .int .i64 c, .int .i64 m, .int .u32 0, .string ⟨#[]⟩] 33))).heap.size (w13.alloc (.cells #[.int .i64 3, .int .i64 op, .int .i64 a, .int .i64 b, .int .i64 c, .int .i64 m, .int .u32 0, .string ⟨#[]⟩] 33)) X → Calls Tryd.prog 18 #[.string nmo] X fun e w' => e = .returned (.int .i64 op) ∧ w' = X) := fun X hX => HOO.out X (TabN.below HT14.out.1.2.1 hX)
      go_wp2
      go_quiet (first | (go_at_call 19; refine Calls.quiet_of_same (HN2.out _ (below_drewN (Below.refl _ _) _))) | (go_at_call 18; refine Calls.quiet_of_same (HO2.out _ (below_drewN (Below.refl _ _) _))))
      go_wp2
      go_ret
      exact ⟨rfl, below_drewN hb14 _⟩
end Go.Proofs.YtdjapcfejmhjnaaDoor
