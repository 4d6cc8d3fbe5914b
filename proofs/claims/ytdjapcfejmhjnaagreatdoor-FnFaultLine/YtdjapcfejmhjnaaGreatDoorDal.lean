/-
  What the draw of a text returns: a text of at most 8000 bytes. Conditions: the bytes drawn from are at most 1048576.
-/
import Derived.Test.YtdjapcfejmhjnaaGreatDoorDd
import Derived.Test.YtdjapcfejmhjnaaGreatDoorText
namespace Go.Proofs.YtdjapcfejmhjnaaGreatDoor
open Go.ChangeShapes Go.WideShapes Go.ChangeAt Go.RowKit Go.Deep
set_option linter.unusedVariables false
set_option maxRecDepth 20000

theorem spec_show_any (op a b c m : Int) (w : World) : Calls Tryz.prog 82 #[ins op a b c m] w fun e w' => ∃ s : ByteArray, e = .returned (.string s) ∧ s.size ≤ 96 ∧ Below w.heap.size w w' := by
  cases h : instrOk op a b c m with
  | true => exact (spec_show op a b c m w h).mono (fun e w' ⟨h1, h2⟩ => ⟨_, h1, Dz.line_size op a b c m, h2⟩)
  | false => exact (spec_show_no op a b c m w h).mono (fun e w' ⟨h1, h2⟩ => ⟨_, h1, by decide, h2⟩)
theorem draw_str (w : World) (B g n : Nat) (a : Option Addr) (zs : List Int) (cap : Nat) (hc : Cur w B a zs cap) (hlt : g < w.heap.size) (hg : g ≠ B) (h1 : 1 ≤ n) (h2 : n ≤ 100) (hs : ∀ i, i < n → ∃ s : ByteArray, w.cell? ⟨g, i, none⟩ = some (.string s) ∧ s.size ≤ 16) :
    Calls Tryz.prog 81 #[.pointer (some ⟨B, 0, none⟩), .slice (some ⟨g, 0, none⟩) n n] w fun e w' => ∃ s : ByteArray, e = .returned (.string s) ∧ s.size ≤ 16 ∧ Cur w' B a zs cap ∧ Turn B w w' := by
  go_enter Tryz.func81, Tryz.ntmps81
  go_wp2_with fail
  refine (draw_below _ _ _ _ _ _ hc (by omega) (by omega)).mono ?_
  rintro e w1 ⟨x, rfl, hx0, hx1, hc1, ht1⟩
  obtain ⟨k, rfl⟩ := Int.eq_ofNat_of_zero_le hx0
  have hk : k < n := by omega
  obtain ⟨s, hcl0, hsz⟩ := hs k hk
  have hcl : w1.cell? ⟨g, k, none⟩ = some (.string s) := (ht1.cell hlt hg).trans hcl0
  clear hs hcl0
  go_wp2
  go_ret
  exact ⟨_, rfl, hsz, hc1, ht1⟩
theorem strs4 (w : World) (T : TypeId) (s0 s1 s2 s3 : ByteArray) (h0 : s0.size ≤ 16) (h1 : s1.size ≤ 16) (h2 : s2.size ≤ 16) (h3 : s3.size ≤ 16) : ∀ i, i < 4 → ∃ s : ByteArray, (w.alloc (.cells #[.string s0, .string s1, .string s2, .string s3] T)).cell? ⟨w.heap.size, i, none⟩ = some (.string s) ∧ s.size ≤ 16 := by
  intro i hi
  match i, hi with
  | 0, _ => exact ⟨s0, by simp, h0⟩
  | 1, _ => exact ⟨s1, by simp, h1⟩
  | 2, _ => exact ⟨s2, by simp, h2⟩
  | 3, _ => exact ⟨s3, by simp, h3⟩
theorem strs3 (w : World) (T : TypeId) (s0 s1 s2 : ByteArray) (h0 : s0.size ≤ 16) (h1 : s1.size ≤ 16) (h2 : s2.size ≤ 16) : ∀ i, i < 3 → ∃ s : ByteArray, (w.alloc (.cells #[.string s0, .string s1, .string s2] T)).cell? ⟨w.heap.size, i, none⟩ = some (.string s) ∧ s.size ≤ 16 := by
  intro i hi
  match i, hi with
  | 0, _ => exact ⟨s0, by simp, h0⟩
  | 1, _ => exact ⟨s1, by simp, h1⟩
  | 2, _ => exact ⟨s2, by simp, h2⟩
set_option maxHeartbeats 1000000 in
theorem draw_line (w : World) (B : Nat) (a : Option Addr) (zs : List Int) (cap : Nat) (hc : Cur w B a zs cap) :
    Calls Tryz.prog 56 #[.pointer (some ⟨B, 0, none⟩)] w fun e w' => ∃ s : ByteArray, e = .returned (.string s) ∧ s.size ≤ 96 ∧ Cur w' B a zs cap ∧ Turn B w w' := by
  go_enter Tryz.func56, Tryz.ntmps56
  go_wp2_with fail
  refine (draw_below _ _ _ _ _ _ hc (by omega) (by omega)).mono ?_
  rintro e w1 ⟨x, rfl, hx0, hx1, hc1, ht1⟩
  by_cases x0 : x = 0
  · have hb : (x == 0) = true := by simp [x0]
    clear x0
    go_wp2_with fail
    refine (draw_word _ _ _ _ _ hc1).mono ?_
    rintro e w2 ⟨y, rfl, hy0, hy1, hc2, ht2⟩
    go_wp2_with fail
    refine (spec_text y _ (by omega) (by omega)).mono ?_
    rintro e w3 ⟨rfl, hw3⟩
    subst hw3
    have hd := Sh.dect_size y
    generalize Tx.txt (Dc.dect y) = t at hd
    go_wp2
    go_ret
    exact ⟨_, rfl, by rw [ByteArray.size_append]; have : (⟨#[46, 119, 111, 114, 100, 32]⟩ : ByteArray).size = 6 := rfl; omega, hc2, ht1.trans ht2⟩
  · have hb : (x == 0) = false := beq_eq_false_iff_ne.2 x0
    clear x0
    by_cases x1 : x = 1
    · have hb1 : (x == 1) = true := by simp [x1]
      clear x1
      have HC1 : Hid _ := hc1
      have hlt1 := hc1.lt
      clear hc1
      go_wp2_with fail
      refine (draw_str _ B w1.heap.size 4 _ _ _ (HC1.out.below ((Below.refl _ _).alloc (Nat.le_refl _) _)) (by simp) (by omega) (by omega) (by omega) (strs4 w1 _ _ _ _ _ (by decide) (by decide) (by decide) (by decide))).mono ?_
      rintro e w2 ⟨s, rfl, hs, hc2, ht2⟩
      have HC2 : Hid _ := hc2
      have hlt2 := hc2.lt
      clear hc2
      go_wp2_with fail
      refine (draw_str _ B w2.heap.size 3 _ _ _ (HC2.out.below ((Below.refl _ _).alloc (Nat.le_refl _) _)) (by simp) (by omega) (by omega) (by omega) (strs3 w2 _ _ _ _ (by decide) (by decide) (by decide))).mono ?_
      rintro e w3 ⟨s2, rfl, hs2, hc3, ht3⟩
      go_wp2
      go_ret
      exact ⟨_, rfl, by rw [ByteArray.size_append]; omega, hc3, (ht1.alloc _).trans ((ht2.alloc _).trans ht3)⟩
    · have hb1 : (x == 1) = false := beq_eq_false_iff_ne.2 x1
      clear x1
      go_wp2_with fail
      refine (draw_ins _ _ _ _ _ hc1).mono ?_
      rintro e w2 ⟨op, ia, ib, ic, im, rfl, hc2, ht2⟩
      go_wp2_with fail
      refine (spec_show_any op ia ib ic im _).mono ?_
      rintro e w3 ⟨s, rfl, hs, hb3⟩
      go_wp2
      go_ret
      exact ⟨_, rfl, hs, hc2.below hb3, (ht1.trans ht2).trans (Turn.of_below hb3)⟩
theorem draw_size30 (a : Option Addr) (n cap : Nat) (w : World) (h : n ≤ 1048576) : Calls Tryz.prog 20 #[.slice a n cap, .int .i64 30] w fun e w' => ∃ x : Int, e = .returned (.int .i64 x) ∧ 1 ≤ x ∧ x ≤ 30 ∧ w' = w := by
  by_cases hx : 30 < 2 + (n : Int) / 20
  · have h1 : decide (30 < 2 + (n : Int) / 20) = true := decide_eq_true hx
    go_enter Tryz.func20, Tryz.ntmps20
    go_wp2
    go_ret
    exact ⟨_, rfl, by omega, by omega, rfl⟩
  · have h1 : decide (30 < 2 + (n : Int) / 20) = false := decide_eq_false hx
    go_enter Tryz.func20, Tryz.ntmps20
    go_wp2
    go_ret
    exact ⟨_, rfl, by omega, by omega, rfl⟩
set_option maxHeartbeats 1000000 in
theorem draw_text (w : World) (B : Nat) (a : Option Addr) (zs : List Int) (cap : Nat) (n : Int) (hc : Cur w B a zs cap) (h0 : 0 ≤ n) (h1 : n ≤ 30) :
    Calls Tryz.prog 55 #[.pointer (some ⟨B, 0, none⟩), .int .i64 n] w fun e w' => ∃ s : ByteArray, e = .returned (.string s) ∧ s.size ≤ 6000 ∧ Cur w' B a zs cap ∧ Turn B w w' := by
  have HC : Hid _ := hc
  clear hc
  go_enter Tryz.func55, Tryz.ntmps55
  go_wp2
  go_loopw [5, 6] (fun o i wr => ∃ (k : Nat) (out : ByteArray), (k : Int) ≤ n ∧ o = .string out ∧ i = .int .i64 k ∧ out.size ≤ 10 + 110 * k ∧ Hid (Cur wr B a zs cap ∧ Turn B w wr)) (fun _ i _ => n.toNat - (intOf i).toNat)
  case atStart => exact ⟨0, _, by omega, rfl, rfl, by decide, HC.out, Turn.refl _ _⟩
  case round =>
    obtain ⟨k, out, hk, rfl, rfl, hsz, HR⟩ := hrel
    by_cases hlt : (k : Int) < n
    · go_wp2_with fail
      refine (draw_line _ _ _ _ _ HR.out.1).mono ?_
      rintro e w1 ⟨s, rfl, hs, hc1, ht1⟩
      have HR1 : Hid _ := And.intro hc1 (HR.out.2.trans ht1)
      clear hc1 ht1 HR
      have hn1 : (⟨#[10]⟩ : ByteArray).size = 1 := rfl
      have hn6 : (⟨#[108, 111, 111, 112, 58, 10]⟩ : ByteArray).size = 6 := rfl
      by_cases hh : (k : Int) = n / 2
      · have hd : ((k : Int) == n / 2) = true := by simp [hh]
        clear hh
        go_wp2
        go_roundw
        case rel => exact ⟨k + 1, _, by omega, rfl, by go_num, by simp only [ByteArray.size_append]; omega, HR1⟩
        case measure => simp [intOf]; omega
      · have hd : ((k : Int) == n / 2) = false := beq_eq_false_iff_ne.2 hh
        clear hh
        go_wp2
        go_roundw
        case rel => exact ⟨k + 1, _, by omega, rfl, by go_num, by simp only [ByteArray.size_append]; omega, HR1⟩
        case measure => simp [intOf]; omega
    · have hn3 : (⟨#[98, 58, 10]⟩ : ByteArray).size = 3 := rfl
      have hn6 : (⟨#[108, 111, 111, 112, 58, 10]⟩ : ByteArray).size = 6 := rfl
      by_cases hz : n = 0
      · have hd : (n == 0) = true := by simp [hz]
        have hk2 : 10 + 110 * k ≤ 10 := by omega
        clear hz
        go_wp2
        go_ret
        exact ⟨_, rfl, by simp only [ByteArray.size_append]; omega, HR.out.1, HR.out.2⟩
      · have hd : (n == 0) = false := beq_eq_false_iff_ne.2 hz
        clear hz
        go_wp2
        go_ret
        exact ⟨_, rfl, by simp only [ByteArray.size_append]; omega, HR.out.1, HR.out.2⟩
set_option maxHeartbeats 2000000 in
theorem draw_any (a : Option Addr) (n cap : Nat) (zs : List Int) (w : World) (Hn : Hid (n = zs.length)) (hs : Seg .u8 w a zs) (hb : ∀ z ∈ zs, (Lit.int .u8 z).wf = true) (hn : n ≤ 1048576) :
    Calls Tryz.prog 32 #[.slice a n cap] w fun e w' => ∃ s : ByteArray, e = .returned (.string s) ∧ s.size ≤ 8000 ∧ Below w.heap.size w w' := by
  have HNW : Hid (∀ X, X = w → Calls Tryz.prog 18 #[.slice a n cap] X fun e w' => e = .returned (.pointer (some ⟨X.heap.size, 0, none⟩)) ∧ Cur w' X.heap.size a zs cap ∧ Below X.heap.size X w') := fun X hX => by
    subst hX; rw [Hn.out]; exact draw_new X a zs cap hs hb (by rw [← Hn.out]; exact hn)
  clear hs hb
  go_enter Tryz.func32, Tryz.ntmps32
  go_wp2_with fail
  refine (HNW.out _ rfl).mono ?_
  rintro e w1 ⟨rfl, hc1, hb1⟩
  have HC1 : Hid (Cur w1 w.heap.size a zs cap ∧ Below w.heap.size w w1) := ⟨hc1, hb1⟩
  clear hc1 hb1 HNW
  go_wp2_with fail
  refine (draw_size30 _ _ _ _ hn).mono ?_
  rintro e w2 ⟨m, rfl, hm0, hm1, hw2⟩
  subst hw2
  go_wp2_with fail
  refine (draw_below _ _ _ _ _ m HC1.out.1 hm0 (by omega)).mono ?_
  rintro e w3 ⟨x, rfl, hx0, hx1, hc3, ht3⟩
  have HC3 : Hid (Cur w3 w.heap.size a zs cap ∧ Below w.heap.size w w3) := ⟨hc3, HC1.out.2.trans (ht3.below (Nat.le_refl _) HC1.out.2.size)⟩
  clear hc3 ht3 HC1
  go_wp2_with fail
  refine (draw_text _ _ _ _ _ x HC3.out.1 hx0 (by omega)).mono ?_
  rintro e w4 ⟨s, rfl, hs, hc4, ht4⟩
  have HC4 : Hid (Cur w4 w.heap.size a zs cap ∧ Below w.heap.size w w4) := ⟨hc4, HC3.out.2.trans (ht4.below (Nat.le_refl _) HC3.out.2.size)⟩
  clear hc4 ht4 HC3
  go_wp2_with fail
  refine (draw_below _ _ _ _ _ 14 HC4.out.1 (by omega) (by omega)).mono ?_
  rintro e w5 ⟨y, rfl, hy0, hy1, hc5, ht5⟩
  have HC5 : Hid (Cur w5 w.heap.size a zs cap ∧ Below w.heap.size w w5) := ⟨hc5, HC4.out.2.trans (ht5.below (Nat.le_refl _) HC4.out.2.size)⟩
  clear hc5 ht5 HC4
  by_cases y0 : y = 0
  · have hy0 : (y == 0) = true := by simp [y0]
    clear y0
    have hl : (⟨#[97, 58, 10]⟩ : ByteArray).size = 3 := rfl
    go_wp2
    go_ret
    exact ⟨_, rfl, by simp only [ByteArray.size_append]; omega, HC5.out.2⟩
  have hy0 : (y == 0) = false := beq_eq_false_iff_ne.2 y0
  clear y0
  by_cases y1 : y = 1
  · have hy1 : (y == 1) = true := by simp [y1]
    clear y1
    have hl : (⟨#[106, 97, 108, 32, 114, 49, 32, 110, 111, 110, 101, 10]⟩ : ByteArray).size = 12 := rfl
    have hl1 : (⟨#[10]⟩ : ByteArray).size = 1 := rfl
    go_wp2_with fail
    refine (draw_line _ _ _ _ _ HC5.out.1).mono ?_
    rintro e w6 ⟨s6, rfl, hs6, hc6, ht6⟩
    have HC6 : Hid (Below w.heap.size w w6) := HC5.out.2.trans (ht6.below (Nat.le_refl _) HC5.out.2.size)
    clear hc6 ht6 HC5
    go_wp2
    go_ret
    exact ⟨_, rfl, by simp only [ByteArray.size_append]; omega, HC6.out⟩
  have hy1 : (y == 1) = false := beq_eq_false_iff_ne.2 y1
  clear y1
  by_cases y2 : y = 2
  · have hy2 : (y == 2) = true := by simp [y2]
    clear y2
    have hl : (⟨#[10]⟩ : ByteArray).size = 1 := rfl
    go_wp2
    go_ret
    exact ⟨_, rfl, by simp only [ByteArray.size_append]; omega, HC5.out.2⟩
  have hy2 : (y == 2) = false := beq_eq_false_iff_ne.2 y2
  clear y2
  by_cases y3 : y = 3
  · have hy3 : (y == 3) = true := by simp [y3]
    clear y3
    have hl : (⟨#[110, 111, 112]⟩ : ByteArray).size = 3 := rfl
    go_wp2
    go_ret
    exact ⟨_, rfl, by simp only [ByteArray.size_append]; omega, HC5.out.2⟩
  have hy3 : (y == 3) = false := beq_eq_false_iff_ne.2 y3
  clear y3
  by_cases y4 : y = 4
  · have hy4 : (y == 4) = true := by simp [y4]
    clear y4
    have hl : (⟨#[119, 104, 97, 116, 32, 114, 49, 10]⟩ : ByteArray).size = 8 := rfl
    go_wp2
    go_ret
    exact ⟨_, rfl, by simp only [ByteArray.size_append]; omega, HC5.out.2⟩
  have hy4 : (y == 4) = false := beq_eq_false_iff_ne.2 y4
  clear y4
  by_cases y5 : y = 5
  · have hy5 : (y == 5) = true := by simp [y5]
    clear y5
    have hl : (⟨#[110, 111, 112, 10]⟩ : ByteArray).size = 4 := rfl
    go_wp2
    go_loopw [4, 5] (fun o i wr => ∃ (k : Nat) (out : ByteArray), k ≤ 250 ∧ o = .string out ∧ i = .int .i64 k ∧ out.size ≤ 6000 + 4 * k ∧ Hid (Below w.heap.size w wr)) (fun _ i _ => 250 - (intOf i).toNat)
    case atStart => exact ⟨0, _, by omega, rfl, rfl, by omega, HC5.out.2⟩
    case round =>
      obtain ⟨k, out, hk, rfl, rfl, hsz, HR⟩ := hrel
      by_cases hlt : (k : Int) < 250
      · go_wp2
        go_roundw
        case rel => exact ⟨k + 1, _, by omega, rfl, by go_num, by simp only [ByteArray.size_append]; omega, HR⟩
        case measure => simp [intOf]; omega
      · go_wp2
        go_ret
        exact ⟨_, rfl, by omega, HR.out⟩
  have hy5 : (y == 5) = false := beq_eq_false_iff_ne.2 y5
  clear y5
  go_wp2
  go_ret
  exact ⟨_, rfl, by omega, HC5.out.2⟩
theorem draw_asm (a : Option Addr) (n cap : Nat) (zs : List Int) (w : World) (Hn : Hid (n = zs.length)) (hs : Seg .u8 w a zs) (hb : ∀ z ∈ zs, (Lit.int .u8 z).wf = true) (hn : n ≤ 1048576) :
    Calls Tryz.prog 12 #[.slice a n cap] w fun e w' => ∃ s : ByteArray, e = .returned (.string s) ∧ s.size ≤ 8000 ∧ Below w.heap.size w w' := by
  have H : Hid (∀ X, X = w → Calls Tryz.prog 32 #[.slice a n cap] X fun e w' => ∃ s : ByteArray, e = .returned (.string s) ∧ s.size ≤ 8000 ∧ Below X.heap.size X w') := fun X hX => by
    subst hX; exact draw_any a n cap zs X Hn hs hb hn
  clear hs hb
  go_enter Tryz.func12, Tryz.ntmps12
  go_wp2_with fail
  refine (H.out _ rfl).mono ?_
  rintro e w1 ⟨s, rfl, hs, hb1⟩
  go_wp2
  go_ret
  exact ⟨_, rfl, hs, hb1⟩
end Go.Proofs.YtdjapcfejmhjnaaGreatDoor
