
/-
  A flush: the specification's and the program's own functions answer alike. Conditions: the rows and their ways are at most 1048576 together.
-/
import Derived.Test.YtmbpmhmehiiiaaaRows
import Derived.Test.YtmbpmhmehiiiaaaCea
import Derived.Test.YtmbpmhmehiiiaaaCki
namespace Go.Proofs.Ytmbpmhmehiiiaaa
open Go.ChangeShapes Go.WideShapes Go.ChangeAt Go.RowKit Go.Deep
set_option linter.unusedVariables false

def dc (ws : List Wy) : Nat → Nat
  | 0 => 0
  | i + 1 => dc ws i + (if (ws.getD i wd).2 = true then 1 else 0)
def dt (D : Nat → List Wy) : Nat → Nat
  | 0 => 0
  | r + 1 => dt D r + dc (D r) (D r).length
theorem dc_le (ws : List Wy) (i : Nat) : dc ws i ≤ i := by
  induction i with
  | zero => exact Nat.le_refl _
  | succ i ih => simp only [dc]; split <;> omega
theorem dt_le (D : Nat → List Wy) (r : Nat) : dt D r ≤ tot D r := by
  induction r with
  | zero => exact Nat.le_refl _
  | succ r ih => simp only [dt, tot]; have := dc_le (D r) (D r).length; omega
/-- A cache and a number are handed back. -/
def FPost (X : World) (s y l : Int) (n : Nat) (D : Nat → List Wy) (r : Int) (e : Ending) (w' : World) : Prop :=
  ∃ a cap, e = .returned (.tuple #[cch s y l (.slice a n cap), .int .i64 r]) ∧ Below X.heap.size X w' ∧ ORows w' X.heap.size w'.heap.size a n D
theorem cem_right (n : Nat) (y l : Int) (h : shapeOk (n : Int) y l = true) : (∀ X, Calls Try.prog 23 #[shp (n : Int) y l] X (CPost X n y l n noD)) ∧ (∀ X, Calls Try.prog 8 #[shp (n : Int) y l] X (CPost X n y l n noD)) :=
  ⟨fun X => (spec_cem n y l X h).mono fun e w' h => h, fun X => (impl_cem n y l X h).mono fun e w' h => by
    obtain ⟨B, h1, h2, h3, h4⟩ := h
    exact ⟨_, _, h1, h2, rows_empty h3 h4⟩⟩
set_option maxHeartbeats 1000000 in
theorem impl_fl_no (s y l : Int) (a : Option Addr) (cap n : Nat) (D : Nat → List Wy) (w : World) (hs : RSeg w a n D) (hn : n ≤ 1048576) (ht : tot D n ≤ 1048576) (hq : ¬ CacheOkP s y l n D) :
    Calls Try.prog 12 #[cch s y l (.slice a n cap)] w (FPost w 0 0 0 0 noD 0) := by
  have hal1 : Below w.heap.size w (w.alloc (.cells #[.int .i64 s, .int .i64 y, .int .i64 l, .slice a n cap] 34)) := (Below.refl _ _).alloc (Nat.le_refl _) _
  have hal := hal1.alloc hal1.size (.cells #[.int .i64 0, .int .i64 0, .int .i64 0, .slice none 0 0] 34)
  have HC : Hid _ := impl_cachek s y l a cap n D _ (RSeg.below hs hal) hn ht false (by simp [hq])
  have HB0 : Hid _ := hal
  clear hs hal hal1 hq
  go_enter Try.func12, Try.ntmps12
  go_wp2_with fail
  refine Calls.mono HC.out ?_
  rintro u w1 ⟨rfl, hb1⟩
  have hbw := HB0.out.trans (hb1.mono HB0.out.size)
  have B1 := (Bk.new (w.alloc (.cells #[.int .i64 s, .int .i64 y, .int .i64 l, .slice a n cap] 34)) #[.int .i64 0, .int .i64 0, .int .i64 0, .slice none 0 0] 34 (w.heap.size + 1) (by simp)).below hb1
  have C0 := B1.set 0 (.int .i64 0) (by simp) rfl
  have C1 := C0.set 1 (.int .i64 0) (by simp) rfl
  have C2 := C1.set 2 (.int .i64 0) (by simp) rfl
  have C3 := C2.set 3 (.slice none 0 0) (by simp) rfl
  have f := B1.free
  have m0 := B1.cell 0 _ rfl
  have m1 := C0.cell 1 _ rfl
  have m2 := C1.cell 2 _ rfl
  have m3 := C2.cell 3 _ rfl
  have n0 := C3.cell 0 _ rfl
  have n1 := C3.cell 1 _ rfl
  have n2 := C3.cell 2 _ rfl
  have n3 := C3.cell 3 _ rfl
  have HB : Hid _ := hbw
  clear hb1 hbw B1 C0 C1 C2 C3 HC
  go_wp2
  exact bodyPost_ret (v := .tuple #[cch 0 0 0 (.slice none 0 0), .int .i64 0]) (by simp [results, Try.results12, go_sem, n0, n1, n2, n3]) rfl ⟨_, _, rfl, below_four HB.out (w.heap.size + 1) (by omega) _ _ _ _, rows_zero _ _ _ _ _⟩
set_option maxHeartbeats 4000000 in
theorem impl_fl (n : Nat) (y l : Int) (a : Option Addr) (cap : Nat) (D : Nat → List Wy) (w : World) (hs : RSeg w a n D) (hn : n ≤ 1048576) (ht : tot D n ≤ 1048576) (hq : CacheOkP (n : Int) y l n D) :
    Calls Try.prog 12 #[cch (n : Int) y l (.slice a n cap)] w (FPost w n y l n noD ((dt D n : Nat) : Int)) := by
  have hal1 : Below w.heap.size w (w.alloc (.cells #[.int .i64 n, .int .i64 y, .int .i64 l, .slice a n cap] 34)) := (Below.refl _ _).alloc (Nat.le_refl _) _
  have hal := hal1.alloc hal1.size (.cells #[.int .i64 0, .int .i64 0, .int .i64 0, .slice none 0 0] 34)
  have HC : Hid _ := impl_cachek (n : Int) y l a cap n D _ (RSeg.below hs hal) hn ht true (by simp [hq])
  have HE : Hid _ := (cem_right n y l hq.1).2
  have HB0 : Hid _ := hal
  have HT : Hid (∀ r, r ≤ n → dt D r ≤ 1048576) := fun r hr => Nat.le_trans (dt_le D r) (Nat.le_trans (tot_mono D hr) ht)
  have HT2 : Hid _ := ht
  have HS : Hid _ := RSeg.below hs hal
  clear hs hal hal1 hq ht
  go_enter Try.func12, Try.ntmps12
  go_wp2_with fail
  refine Calls.mono HC.out ?_
  rintro u w1 ⟨rfl, hb1⟩
  have hbw := HB0.out.trans (hb1.mono HB0.out.size)
  have B0 := ((Bk.new w #[.int .i64 n, .int .i64 y, .int .i64 l, .slice a n cap] 34 w.heap.size rfl).alloc (.cells #[.int .i64 0, .int .i64 0, .int .i64 0, .slice none 0 0] 34)).below hb1
  have B1 := (Bk.new (w.alloc (.cells #[.int .i64 n, .int .i64 y, .int .i64 l, .slice a n cap] 34)) #[.int .i64 0, .int .i64 0, .int .i64 0, .slice none 0 0] 34 (w.heap.size + 1) (by simp)).below hb1
  have k3 := B0.cell 3 _ rfl
  have HK : Hid _ := And.intro B0 B1
  have HR : Hid _ := RSeg.below HS.out hb1
  have HB : Hid _ := hbw
  clear hb1 hbw HC HB0 B0 B1 HS
  go_wp2
  clear k3
  go_loopw [4, 16] (fun t i wr => ∃ r d : Nat, r ≤ n ∧ i = .int .i64 r ∧ t = .int .i64 (d : Int) ∧ Hid (Below w1.heap.size w1 wr) ∧ Hid (d = dt D r)) (fun _ i _ => n - (intOf i).toNat)
  case atStart => exact ⟨0, 0, by omega, rfl, rfl, Below.refl _ _, rfl⟩
  case round =>
    obtain ⟨r, d, hr, rfl, rfl, HW, HD⟩ := hrel
    by_cases hlt : r < n
    rotate_left
    · obtain rfl : r = n := by omega
      have B0 := HK.out.1.below HW.out
      have B1 := HK.out.2.below HW.out
      have hbw := HB.out.trans (HW.out.mono HB.out.size)
      have k0 := B0.cell 0 _ rfl
      have k1 := B0.cell 1 _ rfl
      have k2 := B0.cell 2 _ rfl
      go_wp2_with fail
      refine Calls.mono (HE.out _) ?_
      rintro u w2 ⟨a2, c2, rfl, hb2, ho2⟩
      have hlt2 : w.heap.size + 1 < w2.heap.size := (B1.below hb2).lt
      have hlt1 := B1.lt
      have D1 := B1.below hb2
      have C0 := D1.set 0 (.int .i64 r) (by simp) rfl
      have C1 := C0.set 1 (.int .i64 y) (by simp) rfl
      have C2 := C1.set 2 (.int .i64 l) (by simp) rfl
      have C3 := C2.set 3 (.slice a2 r c2) (by simp) rfl
      have f := D1.free
      have m0 := D1.cell 0 _ rfl
      have m1 := C0.cell 1 _ rfl
      have m2 := C1.cell 2 _ rfl
      have m3 := C2.cell 3 _ rfl
      have n0 := C3.cell 0 _ rfl
      have n1 := C3.cell 1 _ rfl
      have n2 := C3.cell 2 _ rfl
      have n3 := C3.cell 3 _ rfl
      have HZ : Hid _ := And.intro (hbw.trans (hb2.mono hbw.size)) (And.intro ho2 hbw.size)
      clear hb2 ho2 hbw D1 B0 B1 C0 C1 C2 C3 k0 k1 k2 HK HR HE HB HW
      go_wp2
      refine bodyPost_ret (v := .tuple #[cch (r : Int) y l (.slice a2 r c2), .int .i64 (d : Int)]) (by simp [results, Try.results12, go_sem, n0, n1, n2, n3]) rfl ⟨_, _, by rw [HD.out], below_four HZ.out.1 (w.heap.size + 1) (by omega) _ _ _ _, ?_⟩
      have hbt := betw_four (Betw.refl (w.heap.size + 1) (w.heap.size + 1 + 1) w2) (w.heap.size + 1) (Nat.le_refl _) (by omega) (.int .i64 r) (.int .i64 y) (.int .i64 l) (.slice a2 r c2)
      exact (HZ.out.2.1.betw hbt (.inr (by omega))).wide HZ.out.2.2 (by simp)
    have hlt' : (r : Int) < (n : Int) := by omega
    obtain ⟨b1, o1, a1, c1, rfl, hbl1, e1, s1⟩ := RSeg.at (w := w1) HR.out r hlt
    have hlen : (D r).length ≤ 1048576 := Nat.le_trans (tot_row D hlt) HT2.out
    have HX : Hid _ := s1
    replace e1 := kept_cell HW.out e1
    have HDN : Hid (dt D (r + 1) = dt D r + dc (D r) (D r).length) := rfl
    generalize D r = ws at HX e1 hlen HDN
    clear s1 hbl1
    obtain ⟨len, Hlen⟩ : ∃ len, Hid (ws.length = len) := ⟨_, rfl⟩
    rw [Hlen.out] at e1 hlen
    go_wp2
    clear e1
    go_loopw [4, 22] (fun t i wr' => ∃ j e : Nat, j ≤ len ∧ i = .int .i64 j ∧ t = .int .i64 (e : Int) ∧ Hid (Below w1.heap.size w1 wr') ∧ Hid (e = d + dc ws j)) (fun _ i _ => len - (intOf i).toNat)
    case atStart => exact ⟨0, d, by omega, rfl, rfl, HW, rfl⟩
    case round =>
      obtain ⟨j, e, hj, rfl, rfl, HW2, HE2⟩ := hrel
      clear HW
      by_cases hjl : j < len
      rotate_left
      · obtain rfl : j = len := by omega
        go_wp2
        go_roundw
        case rel => exact ⟨r + 1, e, by omega, by go_num, rfl, HW2, by rw [HE2.out, HDN.out, HD.out, Hlen.out]; rfl⟩
        case measure => simp [intOf]; omega
      have hjl' : (j : Int) < (len : Int) := by omega
      obtain ⟨b2, o2, rfl, hbl2, c2, d2⟩ := WSeg.at (w := w1) HX.out j (by rw [Hlen.out]; exact hjl)
      replace c2 := kept_cell HW2.out c2
      replace d2 := kept_cell HW2.out d2
      have HDC : Hid (dc ws (j + 1) = dc ws j + (if (ws.getD j wd).2 = true then 1 else 0)) := rfl
      generalize (ws.getD j wd).2 = dd at d2 HDC
      generalize (ws.getD j wd).1 = zz at c2
      have he : e ≤ 3000000 := by
        have h1 := HE2.out
        have h2 := dc_le ws j
        have h3 := HT.out r (by omega)
        have h4 := HD.out
        omega
      have HW3 : Hid _ := HW2.out.alloc HW2.out.size (.cells #[.int .i64 zz, .bool dd] 61)
      clear hbl2
      cases dd
      · have HE3 : Hid (e = d + dc ws (j + 1)) := by show _ = _; rw [HDC.out, HE2.out]; rfl
        go_wp2
        go_roundw
        case rel => exact ⟨j + 1, e, by omega, by go_num, rfl, HW3, HE3⟩
        case measure => simp [intOf]; omega
      · have HE3 : Hid (e + 1 = d + dc ws (j + 1)) := by show _ = _; rw [HDC.out, HE2.out]; simp; omega
        go_wp2
        go_roundw
        case rel => exact ⟨j + 1, e + 1, by omega, by go_num, by go_num, HW3, HE3⟩
        case measure => simp [intOf]; omega
end Go.Proofs.Ytmbpmhmehiiiaaa
