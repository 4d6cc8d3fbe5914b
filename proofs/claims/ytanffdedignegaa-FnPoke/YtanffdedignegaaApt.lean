
/-
  Whether two windows lie apart: the specification's and the program's own functions answer alike. Conditions: the sizes are numbers of 64 bits.
-/
import Derived.Test.YtanffdedignegaaBas
import Derived.Test.YtanffdedignegaaProg
import Derived.Test.YtanffdedignegaaWnd
import Derived.Deep.RegionHeld3
namespace Go.Proofs.Ytanffdedignegaa
open Go.ChangeShapes Go.WideShapes Go.ChangeAt Go.RowKit Go.Deep
set_option linter.unusedVariables false

abbrev Wn := Int × Int × Int
abbrev wn0 : Wn := (0, 0, 0)
def WOk (x : Wn) : Prop := WinOk x.1 x.2.1 x.2.2
def Has (x : Wn) (a : Int) : Prop := x.1 ≤ a ∧ a < x.1 + x.2.1
def ApartP (x y : Wn) : Prop := WOk x ∧ WOk y ∧ (x.1 + x.2.1 ≤ y.1 ∨ y.1 + y.2.1 ≤ x.1)
theorem WOk.fit {x : Wn} (h : WOk x) : wrap64 (x.1 + x.2.1) = x.1 + x.2.1 := by
  obtain ⟨h1, h2, h3, h4, h5, _⟩ := h
  exact IntWalk.wrap64_in _ (by omega)
/-- No address in common just where none of the multiples of 4 is. -/
theorem apart_iff {x y : Wn} (hx : WOk x) (hy : WOk y) : ApartP x y ↔ ∀ j : Nat, j < 512 → ¬ (Has x (4 * j) ∧ Has y (4 * j)) := by
  have hx' := hx
  have hy' := hy
  obtain ⟨x1, x2, x3, x4, x5, _⟩ := hx'
  obtain ⟨y1, y2, y3, y4, y5, _⟩ := hy'
  refine ⟨fun h j hj hh => ?_, fun h => ⟨hx, hy, ?_⟩⟩
  · obtain ⟨⟨h1, h2⟩, h3, h4⟩ := hh
    rcases h.2.2 with h | h <;> omega
  · by_cases hc : x.1 ≤ y.1
    · have := h (y.1 / 4).toNat (by omega)
      have e : 4 * (((y.1 / 4).toNat : Nat) : Int) = y.1 := by omega
      rw [e] at this
      unfold Has at this
      omega
    · have := h (x.1 / 4).toNat (by omega)
      have e : 4 * (((x.1 / 4).toNat : Nat) : Int) = x.1 := by omega
      rw [e] at this
      unfold Has at this
      omega
set_option maxHeartbeats 1000000 in
theorem spec_has (b s p a : Int) (q : Bool) (w : World) (hf : wrap64 (b + s) = b + s) (hq : q = true ↔ (b ≤ a ∧ a < b + s)) : Calls Try.prog 54 #[win b s p, .int .i64 a] w fun x w' => x = .returned (.bool q) ∧ Below w.heap.size w w' := by
  have HQ : Hid _ := hq
  have hbel : ∀ o1 : Obj, Below w.heap.size w (w.alloc o1) := fun o1 => (Below.refl _ _).alloc (Nat.le_refl _) _
  clear hq
  by_cases h1 : b ≤ a
  · have HT : Hid (decide (a < b + s) = q) := by
      show _ = _
      by_cases h2 : a < b + s
      · rw [HQ.out.2 ⟨h1, h2⟩]; simpa using h2
      · rw [not_true HQ.out (fun h => h2 h.2)]; simpa using h2
    have HF : Hid _ := hf
    clear hf
    go_enter Try.func54, Try.ntmps54
    go_wp2
    go_ret
    exact ⟨ret_bool (by rw [HF.out]; exact HT.out), hbel _⟩
  · have HT : Hid (q = false) := not_true HQ.out (fun h => h1 h.1)
    go_enter Try.func54, Try.ntmps54
    go_wp2
    go_ret
    exact ⟨ret_bool HT.out.symm, hbel _⟩
theorem win_end (b s p : Int) (w : World) (hf : wrap64 (b + s) = b + s) : Calls Try.prog 59 #[win b s p] w fun x w' => x = .returned (.int .i64 (b + s)) ∧ Below w.heap.size w w' := by
  have HF : Hid _ := hf
  go_enter Try.func59, Try.ntmps59
  clear hf
  go_wp2
  go_ret
  exact ⟨ret_int HF.out, (Below.refl _ _).alloc (Nat.le_refl _) _⟩
set_option maxHeartbeats 1000000 in
theorem impl_has (b s p a : Int) (q : Bool) (w : World) (hf : wrap64 (b + s) = b + s) (hq : q = true ↔ (b ≤ a ∧ a < b + s)) : Calls Try.prog 45 #[win b s p, .int .i64 a] w fun x w' => x = .returned (.bool q) ∧ Below w.heap.size w w' := by
  have HQ : Hid _ := hq
  have HE : Hid _ := fun X => win_end b s p X hf
  have hb0 : Below w.heap.size w (w.alloc (wrow 40 b s p)) := (Below.refl _ _).alloc (Nat.le_refl _) _
  clear hq
  by_cases h1 : b ≤ a
  · have HT : Hid (decide (a < b + s) = q) := by
      show _ = _
      by_cases h2 : a < b + s
      · rw [HQ.out.2 ⟨h1, h2⟩]; simpa using h2
      · rw [not_true HQ.out (fun h => h2 h.2)]; simpa using h2
    generalize b + s = e at hf HT HE
    go_enter Try.func45, Try.ntmps45
    go_wp2_with fail
    refine (HE.out _).mono ?_
    rintro x w1 ⟨rfl, hb1⟩
    have hb := hb0.trans (hb1.mono (by simp))
    clear hb1 hb0
    go_wp2
    go_ret
    exact ⟨ret_bool HT.out, hb⟩
  · have HT : Hid (q = false) := not_true HQ.out (fun h => h1 h.1)
    go_enter Try.func45, Try.ntmps45
    go_wp2
    go_ret
    exact ⟨ret_bool HT.out.symm, hb0⟩
theorem kept2 {w w' : World} {p : Addr} {v : Value} (hb : Below w.heap.size w w') (h : w.cell? p = some v) : w'.cell? p = some v :=
  (hb.cell (World.block_lt_of_cell? w _ h)).trans h
set_option maxHeartbeats 4000000 in
theorem spec_apart (x y : Wn) (q : Bool) (w : World) (hq : q = true ↔ ApartP x y) : Calls Try.prog 33 #[win x.1 x.2.1 x.2.2, win y.1 y.2.1 y.2.2] w fun e w' => e = .returned (.bool q) ∧ Below w.heap.size w w' := by
  have HQ : Hid _ := hq
  clear hq
  obtain ⟨q1, hq1⟩ := told (WOk x)
  have HX : Hid (∀ X, Calls Try.prog 32 #[win x.1 x.2.1 x.2.2] X fun e w' => e = .returned (.bool q1) ∧ Below X.heap.size X w') := fun X => spec_wok _ _ _ q1 X hq1
  obtain ⟨q2, hq2⟩ := told (WOk y)
  have HY : Hid (∀ X, Calls Try.prog 32 #[win y.1 y.2.1 y.2.2] X fun e w' => e = .returned (.bool q2) ∧ Below X.heap.size X w') := fun X => spec_wok _ _ _ q2 X hq2
  have HQ1 : Hid _ := hq1
  have HQ2 : Hid _ := hq2
  clear hq1 hq2
  have hb0 : Below w.heap.size w ((w.alloc (wrow 40 x.1 x.2.1 x.2.2)).alloc (wrow 40 y.1 y.2.1 y.2.2)) := ((Below.refl _ _).alloc (Nat.le_refl _) _).alloc (by simp) _
  have K1 := (Bk.new w #[.int .i64 x.1, .int .i64 x.2.1, .int .i64 x.2.2] 40 w.heap.size rfl).alloc (wrow 40 y.1 y.2.1 y.2.2)
  have K2 := Bk.new (w.alloc (wrow 40 x.1 x.2.1 x.2.2)) #[.int .i64 y.1, .int .i64 y.2.1, .int .i64 y.2.2] 40 (w.heap.size + 1) (by simp)
  have HK : Hid (∀ X, Below ((w.alloc (wrow 40 x.1 x.2.1 x.2.2)).alloc (wrow 40 y.1 y.2.1 y.2.2)).heap.size ((w.alloc (wrow 40 x.1 x.2.1 x.2.2)).alloc (wrow 40 y.1 y.2.1 y.2.2)) X → Bk X w.heap.size #[.int .i64 x.1, .int .i64 x.2.1, .int .i64 x.2.2] ∧ Bk X (w.heap.size + 1) #[.int .i64 y.1, .int .i64 y.2.1, .int .i64 y.2.2] ∧ Below w.heap.size w X) := fun X hX => ⟨K1.below hX, K2.below hX, hb0.trans (hX.mono (by simp; omega))⟩
  have HB0 : Hid _ := hb0
  have HF : Hid (q1 = true → wrap64 (x.1 + x.2.1) = x.1 + x.2.1) := fun h => (HQ1.out.1 h).fit
  have HG : Hid (q2 = true → wrap64 (y.1 + y.2.1) = y.1 + y.2.1) := fun h => (HQ2.out.1 h).fit
  clear K1 K2 hb0
  have HAP : Hid (q1 = true → q2 = true → (q = true ↔ ∀ j : Nat, j < 512 → ¬ (Has x (4 * j) ∧ Has y (4 * j)))) := fun h1 h2 => HQ.out.trans (apart_iff (HQ1.out.1 h1) (HQ2.out.1 h2))
  have HN : Hid (q1 = false ∨ q2 = false → q = false) := fun h => not_true HQ.out (fun hp => by
    rcases h with h | h
    · rw [HQ1.out.2 hp.1] at h; cases h
    · rw [HQ2.out.2 hp.2.1] at h; cases h)
  clear HQ1 HQ2 HQ
  have HHS : Hid (∀ (a : Int) (r : Bool) (X : World), q1 = true → (r = true ↔ Has x a) → Calls Try.prog 54 #[win x.1 x.2.1 x.2.2, .int .i64 a] X fun e w' => e = .returned (.bool r) ∧ Below X.heap.size X w') := fun a r X h1 h => spec_has _ _ _ a r X (HF.out h1) h
  have HHT : Hid (∀ (a : Int) (r : Bool) (X : World), q2 = true → (r = true ↔ Has y a) → Calls Try.prog 54 #[win y.1 y.2.1 y.2.2, .int .i64 a] X fun e w' => e = .returned (.bool r) ∧ Below X.heap.size X w') := fun a r X h1 h => spec_has _ _ _ a r X (HG.out h1) h
  have HPX : Hid (∀ a : Int, ∃ r : Bool, r = true ↔ Has x a) := fun a => told _
  have HPY : Hid (∀ a : Int, ∃ r : Bool, r = true ↔ Has y a) := fun a => told _
  clear HF HG
  generalize hx : Has x = hasx at HAP HHS HPX
  generalize hy : Has y = hasy at HAP HHT HPY
  obtain ⟨x1, x2, x3⟩ := x
  obtain ⟨y1, y2, y3⟩ := y
  simp only at HX HY HK HB0 HHS HHT
  clear hx hy
  simp only
  generalize HW0 : (w.alloc (wrow 40 x1 x2 x3)).alloc (wrow 40 y1 y2 y3) = W0 at HK HB0
  have h00 := HK.out W0 (Below.refl _ _)
  have c0 := h00.1.cell 0 _ rfl
  have c1 := h00.1.cell 1 _ rfl
  have c2 := h00.1.cell 2 _ rfl
  clear h00
  go_enter Try.func33, Try.ntmps33
  go_wp2_with fail
  clear HW0
  refine (HX.out _).mono ?_
  rintro u w1 ⟨rfl, hb1⟩
  have h1 := HK.out w1 hb1
  have d0 := h1.2.1.cell 0 _ rfl
  have d1 := h1.2.1.cell 1 _ rfl
  have d2 := h1.2.1.cell 2 _ rfl
  have HB1 : Hid _ := And.intro hb1 h1.2.2
  clear h1 hb1 c0 c1 c2
  cases q1
  · go_wp2
    go_ret
    exact ⟨ret_bool (HN.out (.inl (by trivial))).symm, HB1.out.2⟩
  go_wp2_with fail
  refine (HY.out _).mono ?_
  rintro u w2 ⟨rfl, hb2⟩
  have hb2' := HB1.out.1.trans (hb2.mono HB1.out.1.size)
  have HB2 : Hid (Below W0.heap.size W0 w2) := hb2'
  clear hb2 hb2' HB1 d0 d1 d2
  cases q2
  · go_wp2
    go_ret
    exact ⟨ret_bool (HN.out (.inr (by trivial))).symm, (HK.out _ HB2.out).2.2⟩
  have HAP' : Hid (q = true ↔ ∀ j : Nat, j < 512 → ¬ (hasx (4 * j) ∧ hasy (4 * j))) := HAP.out (by trivial) (by trivial)
  clear HAP HN HX HY
  go_wp2
  go_loopw [5] (fun i wr => ∃ k : Nat, k ≤ 512 ∧ i = .int .i64 ((4 * k : Nat) : Int) ∧ Hid (Below W0.heap.size W0 wr ∧ ∀ j : Nat, j < k → ¬ (hasx (4 * j) ∧ hasy (4 * j)))) (fun i _ => 2048 - (intOf i).toNat)
  case atStart => exact ⟨0, by omega, rfl, HB2.out, fun j hj => absurd hj (by omega)⟩
  case round =>
    obtain ⟨k, hk, rfl, HR⟩ := hrel
    by_cases hlt : k < 512
    · have hlt' : ((4 * k : Nat) : Int) < 2048 := by omega
      obtain ⟨r1, hr1⟩ := HPX.out ((4 * k : Nat) : Int)
      obtain ⟨r2, hr2⟩ := HPY.out ((4 * k : Nat) : Int)
      have HR1 : Hid _ := And.intro hr1 hr2
      clear hr1 hr2
      have h1 := HK.out _ HR.out.1
      have c0 := h1.1.cell 0 _ rfl
      have c1 := h1.1.cell 1 _ rfl
      have c2 := h1.1.cell 2 _ rfl
      obtain ⟨K, HKK⟩ : ∃ K, Hid (K = 4 * k) := ⟨_, rfl⟩
      have hK : K < 2048 := by rw [HKK.out]; omega
      have hK' : (K : Int) < 2048 := by omega
      rw [← HKK.out] at HR1 ⊢
      clear h1 hlt'
      go_wp2_with fail
      refine (HHS.out (K : Int) r1 _ (by trivial) HR1.out.1).mono ?_
      rintro u w3 ⟨rfl, hb3⟩
      have HB3 : Hid (Below W0.heap.size W0 w3) := HR.out.1.trans (hb3.mono HR.out.1.size)
      clear hb3 c0 c1 c2
      have h1 := HK.out _ HB3.out
      have c0 := h1.2.1.cell 0 _ rfl
      have c1 := h1.2.1.cell 1 _ rfl
      have c2 := h1.2.1.cell 2 _ rfl
      clear h1
      have HNX : Hid (r1 = false ∨ r2 = false → ∀ j : Nat, j < k + 1 → ¬ (hasx (4 * j) ∧ hasy (4 * j))) := fun h j hj hh => by
        by_cases e : j = k
        · subst e
          have e2 : (K : Int) = 4 * (j : Int) := by rw [HKK.out]; omega
          rcases h with h | h
          · rw [HR1.out.1.2 (by rw [e2]; exact hh.1)] at h; cases h
          · rw [HR1.out.2.2 (by rw [e2]; exact hh.2)] at h; cases h
        · exact HR.out.2 j (by omega) hh
      cases r1
      · clear c0 c1 c2
        go_wp2
        go_roundw
        case rel => exact ⟨k + 1, by omega, by rw [HKK.out]; go_num, HB3.out, HNX.out (.inl (by trivial))⟩
        case measure => rw [HKK.out]; simp [intOf]; omega
      go_wp2_with fail
      refine (HHT.out (K : Int) r2 _ (by trivial) HR1.out.2).mono ?_
      rintro u w4 ⟨rfl, hb4⟩
      have HB4 : Hid (Below W0.heap.size W0 w4) := HB3.out.trans (hb4.mono HB3.out.size)
      clear hb4 c0 c1 c2
      cases r2
      · go_wp2
        go_roundw
        case rel => exact ⟨k + 1, by omega, by rw [HKK.out]; go_num, HB4.out, HNX.out (.inr (by trivial))⟩
        case measure => rw [HKK.out]; simp [intOf]; omega
      · have HT : Hid (q = false) := not_true HAP'.out (fun h => h k hlt ⟨by have := HR1.out.1.1 (by trivial); rw [HKK.out] at this; simpa using this, by have := HR1.out.2.1 (by trivial); rw [HKK.out] at this; simpa using this⟩)
        go_wp2
        go_ret
        exact ⟨ret_bool HT.out.symm, (HK.out _ HB4.out).2.2⟩
    · obtain rfl : k = 512 := by omega
      have HT : Hid (q = true) := HAP'.out.2 HR.out.2
      go_wp2
      go_ret
      exact ⟨ret_bool HT.out.symm, (HK.out _ HR.out.1).2.2⟩
end Go.Proofs.Ytanffdedignegaa
