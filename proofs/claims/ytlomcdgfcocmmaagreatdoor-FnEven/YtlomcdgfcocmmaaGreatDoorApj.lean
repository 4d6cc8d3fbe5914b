/-
  Windows of memory: whether one is right; the specification's and the program's own functions answer alike. Conditions: sizes that the program's own function is asked of are numbers of 64 bits.
  Whether two windows lie apart: the specification's and the program's own functions answer alike. Conditions: the sizes are numbers of 64 bits.
  Whether two windows lie apart, by the program's own function. Conditions: the sizes are numbers of 64 bits.
-/
import Derived.Test.YtlomcdgfcocmmaaGreatDoorBas
import Derived.Test.YtlomcdgfcocmmaaGreatDoorProg
import Derived.Below
import Derived.Deep.RegionWith
import Derived.BigRegion
import Derived.BigQuiet
import Derived.Deep.RegionHeld3
import Derived.Test.YtlomcdgfcocmmaaGreatDoorGen
namespace Go.Proofs.YtlomcdgfcocmmaaGreatDoor
open Go.ChangeShapes Go.WideShapes Go.ChangeAt Go.RowKit
set_option linter.unusedVariables false

abbrev win (b s p : Int) : Value := .agg #[.int .i64 b, .int .i64 s, .int .i64 p]
abbrev wrow (T : TypeId) (b s p : Int) : Obj := .cells #[.int .i64 b, .int .i64 s, .int .i64 p] T
def WinOk (b s p : Int) : Prop := 0 ≤ b ∧ 4 ≤ s ∧ b % 4 = 0 ∧ s % 4 = 0 ∧ b + s ≤ 2048 ∧ 1 ≤ p ∧ p ≤ 7
theorem is_perm (x : Int) (w : World) : Calls Tryz.prog 179 #[.int .i64 x] w fun e w' => e = .returned (.bool (inr x 1 7)) ∧ w' = w := by
  by_cases h1 : 1 ≤ x
  · by_cases h2 : x ≤ 7
    · rw [inr_yes ⟨h1, h2⟩]
      go_enter Tryz.func179, Tryz.ntmps179
      go_wp2
      go_ret
      exact ⟨rfl, rfl⟩
    · rw [inr_no (fun g => h2 g.2)]
      go_enter Tryz.func179, Tryz.ntmps179
      go_wp2
      go_ret
      exact ⟨rfl, rfl⟩
  · rw [inr_no (fun g => h1 g.1)]
    go_enter Tryz.func179, Tryz.ntmps179
    go_wp2
    go_ret
    exact ⟨rfl, rfl⟩
set_option maxHeartbeats 2000000 in
theorem impl_wok (b s p : Int) (q : Bool) (w : World) (hs : s ≤ 9223372036854775807) (hq : q = true ↔ WinOk b s p) : Calls Tryz.prog 144 #[win b s p] w fun x w' => x = .returned (.bool q) ∧ Below w.heap.size w w' := by
  have HQ : Hid _ := hq
  have HM : Hid _ := And.intro (tm4 b) (tm4 s)
  have hbel : ∀ o1 : Obj, Below w.heap.size w (w.alloc o1) := fun o1 => (Below.refl _ _).alloc (Nat.le_refl _) _
  have no : Hid (¬ WinOk b s p → q = false) := fun h => by
    cases q
    · rfl
    · exact absurd (HQ.out.1 rfl) h
  clear hq
  generalize hB : Int.tmod b 4 = mb at HM
  generalize hS : Int.tmod s 4 = ms at HM
  have h24 : (s : Int) ≤ 9223372036854775807 := hs
  by_cases hw : 4 ≤ s ∧ 0 ≤ b ∧ b ≤ 2048 - s
  · obtain ⟨h1, h2, h3⟩ := hw
    have hwr : IntKind.i64.wrap (2048 - s) = 2048 - s := by rw [IntKind.wrap_i64]; omega
    by_cases hb : mb = 0
    · by_cases hs : ms = 0
      · by_cases hp : 1 ≤ p ∧ p ≤ 7
        · have hr : Hid (inr p 1 7 = true) := inr_yes hp
          have HT : Hid (q = true) := HQ.out.2 ⟨h2, h1, HM.out.1.1 hb, HM.out.2.1 hs, by omega, hp.1, hp.2⟩
          go_enter Tryz.func144, Tryz.ntmps144
          go_wp2_with fail
          refine (is_perm p _).mono ?_
          rintro x w1 ⟨rfl, rfl⟩
          rw [hr.out]
          go_wp2
          go_ret
          exact ⟨ret_bool HT.out.symm, hbel _⟩
        · have hr : Hid (inr p 1 7 = false) := inr_no hp
          have HT : Hid (q = false) := no.out (fun h => hp ⟨h.2.2.2.2.2.1, h.2.2.2.2.2.2⟩)
          clear hp
          go_enter Tryz.func144, Tryz.ntmps144
          go_wp2_with fail
          refine (is_perm p _).mono ?_
          rintro x w1 ⟨rfl, rfl⟩
          rw [hr.out]
          go_wp2
          go_ret
          exact ⟨ret_bool HT.out.symm, hbel _⟩
      · have HT : Hid (q = false) := no.out (fun h => hs (HM.out.2.2 h.2.2.2.1))
        have hs' : (ms == 0) = false := by simpa using hs
        clear hs
        go_enter Tryz.func144, Tryz.ntmps144
        go_wp2
        go_ret
        exact ⟨ret_bool HT.out.symm, hbel _⟩
    · have HT : Hid (q = false) := no.out (fun h => hb (HM.out.1.2 h.2.2.1))
      have hb' : (mb == 0) = false := by simpa using hb
      clear hb
      go_enter Tryz.func144, Tryz.ntmps144
      go_wp2
      go_ret
      exact ⟨ret_bool HT.out.symm, hbel _⟩
  · have HT : Hid (q = false) := no.out (fun h => hw ⟨h.2.1, h.1, by have := h.2.2.2.2.1; omega⟩)
    have hm : ((mb == 0) = false) ∨ (mb = 0 ∧ (ms == 0) = false) ∨ (mb = 0 ∧ ms = 0) := by
      by_cases h1 : mb = 0
      · by_cases h2 : ms = 0
        · exact .inr (.inr ⟨h1, h2⟩)
        · exact .inr (.inl ⟨h1, by simpa using h2⟩)
      · exact .inl (by simpa using h1)
    by_cases h1 : 4 ≤ s
    · by_cases h2 : 0 ≤ b
      · have h3 : ¬ b ≤ 2048 - s := fun h3 => hw ⟨h1, h2, h3⟩
        have hwr : IntKind.i64.wrap (2048 - s) = 2048 - s := by rw [IntKind.wrap_i64]; omega
        clear hw
        rcases hm with hm | ⟨hm, hn⟩ | ⟨hm, hn⟩ <;>
        · go_enter Tryz.func144, Tryz.ntmps144
          go_wp2
          go_ret
          exact ⟨ret_bool HT.out.symm, hbel _⟩
      · clear hw
        rcases hm with hm | ⟨hm, hn⟩ | ⟨hm, hn⟩ <;>
        · go_enter Tryz.func144, Tryz.ntmps144
          go_wp2
          go_ret
          exact ⟨ret_bool HT.out.symm, hbel _⟩
    · clear hw
      rcases hm with hm | ⟨hm, hn⟩ | ⟨hm, hn⟩ <;>
      · go_enter Tryz.func144, Tryz.ntmps144
        go_wp2
        go_ret
        exact ⟨ret_bool HT.out.symm, hbel _⟩
set_option maxHeartbeats 2000000 in
theorem spec_wok (b s p : Int) (q : Bool) (w : World) (hq : q = true ↔ WinOk b s p) : Calls Tryz.prog 110 #[win b s p] w fun x w' => x = .returned (.bool q) ∧ Below w.heap.size w w' := by
  have HQ : Hid _ := hq
  have HM : Hid _ := And.intro (tm4 b) (tm4 s)
  have hbel : ∀ o1 : Obj, Below w.heap.size w (w.alloc o1) := fun o1 => (Below.refl _ _).alloc (Nat.le_refl _) _
  have no : Hid (¬ WinOk b s p → q = false) := fun h => by
    cases q
    · rfl
    · exact absurd (HQ.out.1 rfl) h
  clear hq
  generalize hB : Int.tmod b 4 = mb at HM
  generalize hS : Int.tmod s 4 = ms at HM
  by_cases hb : 0 ≤ b ∧ b ≤ 2048
  rotate_left
  · have HT : Hid (q = false) := no.out (fun h => hb ⟨h.1, by have := h.2.2.2.2.1; have := h.2.1; omega⟩)
    have hr : Hid (inr b 0 2048 = false) := inr_no hb
    clear hb
    go_enter Tryz.func110, Tryz.ntmps110
    go_wp2_with fail
    refine (in_any b 0 2048 _).mono ?_
    rintro x w1 ⟨rfl, rfl⟩
    rw [hr.out]
    go_wp2
    go_ret
    exact ⟨ret_bool HT.out.symm, hbel _⟩
  have hr : Hid (inr b 0 2048 = true) := inr_yes hb
  by_cases hs : 4 ≤ s ∧ s ≤ 2048
  rotate_left
  · have HT : Hid (q = false) := no.out (fun h => hs ⟨h.2.1, by have := h.2.2.2.2.1; have := h.1; omega⟩)
    have hr2 : Hid (inr s 4 2048 = false) := inr_no hs
    clear hs
    go_enter Tryz.func110, Tryz.ntmps110
    go_wp2_with fail
    refine (in_any b 0 2048 _).mono ?_
    rintro x w1 ⟨rfl, rfl⟩
    rw [hr.out]
    go_wp2_with fail
    refine (in_any s 4 2048 _).mono ?_
    rintro x w1 ⟨rfl, rfl⟩
    rw [hr2.out]
    go_wp2
    go_ret
    exact ⟨ret_bool HT.out.symm, hbel _⟩
  have hr2 : Hid (inr s 4 2048 = true) := inr_yes hs
  have hwr : IntKind.i64.wrap (b + s) = b + s := by rw [IntKind.wrap_i64]; omega
  obtain ⟨hb1, hb2⟩ := hb
  obtain ⟨hs1, hs2⟩ := hs
  go_enter Tryz.func110, Tryz.ntmps110
  go_wp2_with fail
  refine (in_any b 0 2048 _).mono ?_
  rintro x w1 ⟨rfl, rfl⟩
  rw [hr.out]
  go_wp2_with fail
  refine (in_any s 4 2048 _).mono ?_
  rintro x w1 ⟨rfl, rfl⟩
  rw [hr2.out]
  by_cases h1 : mb = 0
  rotate_left
  · have HT : Hid (q = false) := no.out (fun h => h1 (HM.out.1.2 h.2.2.1))
    have h1' : (mb == 0) = false := by simpa using h1
    clear h1
    go_wp2
    go_ret
    exact ⟨ret_bool HT.out.symm, hbel _⟩
  by_cases h2 : ms = 0
  rotate_left
  · have HT : Hid (q = false) := no.out (fun h => h2 (HM.out.2.2 h.2.2.2.1))
    have h2' : (ms == 0) = false := by simpa using h2
    clear h2
    go_wp2
    go_ret
    exact ⟨ret_bool HT.out.symm, hbel _⟩
  by_cases h3 : b + s ≤ 2048
  rotate_left
  · have HT : Hid (q = false) := no.out (fun h => h3 h.2.2.2.2.1)
    go_wp2
    go_ret
    exact ⟨ret_bool HT.out.symm, hbel _⟩
  go_wp2_with fail
  refine (in_any p 1 7 _).mono ?_
  rintro x w1 ⟨rfl, rfl⟩
  have HT : Hid (inr p 1 7 = q) := by
    show _ = _
    by_cases hp : 1 ≤ p ∧ p ≤ 7
    · rw [inr_yes hp, HQ.out.2 ⟨hb1, hs1, HM.out.1.1 h1, HM.out.2.1 h2, h3, hp.1, hp.2⟩]
    · rw [inr_no hp, no.out (fun h => hp ⟨h.2.2.2.2.2.1, h.2.2.2.2.2.2⟩)]
  rw [HT.out]
  go_wp2
  go_ret
  exact ⟨rfl, hbel _⟩
end Go.Proofs.YtlomcdgfcocmmaaGreatDoor
namespace Go.Proofs.YtlomcdgfcocmmaaGreatDoor
open Go.ChangeShapes Go.WideShapes Go.ChangeAt Go.RowKit Go.Deep
set_option linter.unusedVariables false

abbrev Wn := Int × Int × Int
abbrev wn0 : Wn := (0, 0, 0)
def WOk (x : Wn) : Prop := WinOk x.1 x.2.1 x.2.2
def Has (x : Wn) (a : Int) : Prop := x.1 ≤ a ∧ a < x.1 + x.2.1
def ApartP (x y : Wn) : Prop := WOk x ∧ WOk y ∧ (x.1 + x.2.1 ≤ y.1 ∨ y.1 + y.2.1 ≤ x.1)
theorem WOk.fit {x : Wn} (h : WOk x) : wrap64 (x.1 + x.2.1) = x.1 + x.2.1 := by
  obtain ⟨h1, h2, h3, h4, h5, _⟩ := h
  exact IntWalk.wrap64_in _ (by omega)
/-- No address in common just where none of the multiples of 4 is. -/
theorem apart_iff {x y : Wn} (hx : WOk x) (hy : WOk y) : ApartP x y ↔ ∀ j : Nat, j < 512 → ¬ (Has x (4 * j) ∧ Has y (4 * j)) := by
  have hx' := hx
  have hy' := hy
  obtain ⟨x1, x2, x3, x4, x5, _⟩ := hx'
  obtain ⟨y1, y2, y3, y4, y5, _⟩ := hy'
  refine ⟨fun h j hj hh => ?_, fun h => ⟨hx, hy, ?_⟩⟩
  · obtain ⟨⟨h1, h2⟩, h3, h4⟩ := hh
    rcases h.2.2 with h | h <;> omega
  · by_cases hc : x.1 ≤ y.1
    · have := h (y.1 / 4).toNat (by omega)
      have e : 4 * (((y.1 / 4).toNat : Nat) : Int) = y.1 := by omega
      rw [e] at this
      unfold Has at this
      omega
    · have := h (x.1 / 4).toNat (by omega)
      have e : 4 * (((x.1 / 4).toNat : Nat) : Int) = x.1 := by omega
      rw [e] at this
      unfold Has at this
      omega
set_option maxHeartbeats 1000000 in
theorem spec_has (b s p a : Int) (q : Bool) (w : World) (hf : wrap64 (b + s) = b + s) (hq : q = true ↔ (b ≤ a ∧ a < b + s)) : Calls Tryz.prog 111 #[win b s p, .int .i64 a] w fun x w' => x = .returned (.bool q) ∧ Below w.heap.size w w' := by
  have HQ : Hid _ := hq
  have hbel : ∀ o1 : Obj, Below w.heap.size w (w.alloc o1) := fun o1 => (Below.refl _ _).alloc (Nat.le_refl _) _
  clear hq
  by_cases h1 : b ≤ a
  · have HT : Hid (decide (a < b + s) = q) := by
      show _ = _
      by_cases h2 : a < b + s
      · rw [HQ.out.2 ⟨h1, h2⟩]; simpa using h2
      · rw [not_true HQ.out (fun h => h2 h.2)]; simpa using h2
    have HF : Hid _ := hf
    clear hf
    go_enter Tryz.func111, Tryz.ntmps111
    go_wp2
    go_ret
    exact ⟨ret_bool (by rw [HF.out]; exact HT.out), hbel _⟩
  · have HT : Hid (q = false) := not_true HQ.out (fun h => h1 h.1)
    go_enter Tryz.func111, Tryz.ntmps111
    go_wp2
    go_ret
    exact ⟨ret_bool HT.out.symm, hbel _⟩
theorem win_end (b s p : Int) (w : World) (hf : wrap64 (b + s) = b + s) : Calls Tryz.prog 145 #[win b s p] w fun x w' => x = .returned (.int .i64 (b + s)) ∧ Below w.heap.size w w' := by
  have HF : Hid _ := hf
  go_enter Tryz.func145, Tryz.ntmps145
  clear hf
  go_wp2
  go_ret
  exact ⟨ret_int HF.out, (Below.refl _ _).alloc (Nat.le_refl _) _⟩
set_option maxHeartbeats 1000000 in
theorem impl_has (b s p a : Int) (q : Bool) (w : World) (hf : wrap64 (b + s) = b + s) (hq : q = true ↔ (b ≤ a ∧ a < b + s)) : Calls Tryz.prog 182 #[win b s p, .int .i64 a] w fun x w' => x = .returned (.bool q) ∧ Below w.heap.size w w' := by
  have HQ : Hid _ := hq
  have HE : Hid _ := fun X => win_end b s p X hf
  have hb0 : Below w.heap.size w (w.alloc (wrow 74 b s p)) := (Below.refl _ _).alloc (Nat.le_refl _) _
  clear hq
  by_cases h1 : b ≤ a
  · have HT : Hid (decide (a < b + s) = q) := by
      show _ = _
      by_cases h2 : a < b + s
      · rw [HQ.out.2 ⟨h1, h2⟩]; simpa using h2
      · rw [not_true HQ.out (fun h => h2 h.2)]; simpa using h2
    generalize b + s = e at hf HT HE
    go_enter Tryz.func182, Tryz.ntmps182
    go_wp2_with fail
    refine (HE.out _).mono ?_
    rintro x w1 ⟨rfl, hb1⟩
    have hb := hb0.trans (hb1.mono (by simp))
    clear hb1 hb0
    go_wp2
    go_ret
    exact ⟨ret_bool HT.out, hb⟩
  · have HT : Hid (q = false) := not_true HQ.out (fun h => h1 h.1)
    go_enter Tryz.func182, Tryz.ntmps182
    go_wp2
    go_ret
    exact ⟨ret_bool HT.out.symm, hb0⟩
theorem kept2 {w w' : World} {p : Addr} {v : Value} (hb : Below w.heap.size w w') (h : w.cell? p = some v) : w'.cell? p = some v :=
  (hb.cell (World.block_lt_of_cell? w _ h)).trans h
end Go.Proofs.YtlomcdgfcocmmaaGreatDoor
namespace Go.Proofs.YtlomcdgfcocmmaaGreatDoor
open Go.ChangeShapes Go.WideShapes Go.ChangeAt Go.RowKit Go.Deep
set_option linter.unusedVariables false

set_option maxHeartbeats 4000000 in
theorem impl_apart (x y : Wn) (q : Bool) (w : World) (hsx : x.2.1 ≤ 9223372036854775807) (hsy : y.2.1 ≤ 9223372036854775807) (hq : q = true ↔ ApartP x y) : Calls Tryz.prog 148 #[win x.1 x.2.1 x.2.2, win y.1 y.2.1 y.2.2] w fun e w' => e = .returned (.bool q) ∧ Below w.heap.size w w' := by
  have HQ : Hid _ := hq
  clear hq
  obtain ⟨q1, hq1⟩ := told (WOk x)
  have HX : Hid (∀ X, Calls Tryz.prog 144 #[win x.1 x.2.1 x.2.2] X fun e w' => e = .returned (.bool q1) ∧ Below X.heap.size X w') := fun X => impl_wok _ _ _ q1 X hsx hq1
  obtain ⟨q2, hq2⟩ := told (WOk y)
  have HY : Hid (∀ X, Calls Tryz.prog 144 #[win y.1 y.2.1 y.2.2] X fun e w' => e = .returned (.bool q2) ∧ Below X.heap.size X w') := fun X => impl_wok _ _ _ q2 X hsy hq2
  have HQ1 : Hid _ := hq1
  have HQ2 : Hid _ := hq2
  clear hq1 hq2 hsx hsy
  have hb : Below w.heap.size w ((w.alloc (wrow 74 x.1 x.2.1 x.2.2)).alloc (wrow 74 y.1 y.2.1 y.2.2)) := ((Below.refl _ _).alloc (Nat.le_refl _) _).alloc (by simp) _
  have K1 := (Bk.new w #[.int .i64 x.1, .int .i64 x.2.1, .int .i64 x.2.2] 74 w.heap.size rfl).alloc (wrow 74 y.1 y.2.1 y.2.2)
  have K2 := Bk.new (w.alloc (wrow 74 x.1 x.2.1 x.2.2)) #[.int .i64 y.1, .int .i64 y.2.1, .int .i64 y.2.2] 74 (w.heap.size + 1) (by simp)
  have HEX : Hid (q1 = true → ∀ X, Calls Tryz.prog 145 #[win x.1 x.2.1 x.2.2] X fun e w' => e = .returned (.int .i64 (x.1 + x.2.1)) ∧ Below X.heap.size X w') := fun h X => win_end _ _ _ X (HQ1.out.1 h).fit
  have HEY : Hid (q2 = true → ∀ X, Calls Tryz.prog 145 #[win y.1 y.2.1 y.2.2] X fun e w' => e = .returned (.int .i64 (y.1 + y.2.1)) ∧ Below X.heap.size X w') := fun h X => win_end _ _ _ X (HQ2.out.1 h).fit
  have HAP : Hid (q1 = true → q2 = true → (q = true ↔ (x.1 + x.2.1 ≤ y.1 ∨ y.1 + y.2.1 ≤ x.1))) := fun h1 h2 => HQ.out.trans ⟨fun h => h.2.2, fun h => ⟨HQ1.out.1 h1, HQ2.out.1 h2, h⟩⟩
  have HN : Hid (q1 = false ∨ q2 = false → q = false) := fun h => not_true HQ.out (fun hp => by
    rcases h with h | h
    · rw [HQ1.out.2 hp.1] at h; cases h
    · rw [HQ2.out.2 hp.2.1] at h; cases h)
  clear HQ1 HQ2 HQ
  generalize x.1 + x.2.1 = ex at HEX HAP
  generalize y.1 + y.2.1 = ey at HEY HAP
  obtain ⟨x1, x2, x3⟩ := x
  obtain ⟨y1, y2, y3⟩ := y
  simp only at HX HY HEX HEY HAP hb K1 K2
  simp only
  generalize HW0 : (w.alloc (wrow 74 x1 x2 x3)).alloc (wrow 74 y1 y2 y3) = W0 at hb K1 K2
  have c0 := K1.cell 0 _ rfl
  have c1 := K1.cell 1 _ rfl
  have c2 := K1.cell 2 _ rfl
  have d0 := K2.cell 0 _ rfl
  have d1 := K2.cell 1 _ rfl
  have d2 := K2.cell 2 _ rfl
  replace c0 : W0.cell? ⟨w.heap.size, 0, none⟩ = some (.int .i64 x1) := c0
  replace c1 : W0.cell? ⟨w.heap.size, 1, none⟩ = some (.int .i64 x2) := c1
  replace c2 : W0.cell? ⟨w.heap.size, 2, none⟩ = some (.int .i64 x3) := c2
  replace d0 : W0.cell? ⟨w.heap.size + 1, 0, none⟩ = some (.int .i64 y1) := d0
  replace d1 : W0.cell? ⟨w.heap.size + 1, 1, none⟩ = some (.int .i64 y2) := d1
  replace d2 : W0.cell? ⟨w.heap.size + 1, 2, none⟩ = some (.int .i64 y3) := d2
  clear K1 K2
  replace c0 := fun x => gr_cell c0 x
  replace c1 := fun x => gr_cell c1 x
  replace c2 := fun x => gr_cell c2 x
  replace d0 := fun x => gr_cell d0 x
  replace d1 := fun x => gr_cell d1 x
  replace d2 := fun x => gr_cell d2 x
  cases q1
  · have HT : Hid (q = false) := HN.out (.inl (by trivial))
    clear HN HAP HEX HEY HY
    go_enter Tryz.func148, Tryz.ntmps148
    go_wp2
    clear HW0
    have hgr := gr_some W0
    refine region_alike (by kernel_rfl) (by kernel_rfl) ?_
    repeat (go_big_quiet_step (first | (go_at_call_of 144 (Value.int IntKind.i64 x1); exact gr_call (HX.out _))))
    refine wpQuiet_nil ?_
    intro _ hw'
    obtain ⟨x9, rfl⟩ := hw'
    have hb := hb.trans (x9.h.mono hb.size)
    all_goals (have HB : Hid _ := hb; clear hb; go_wp2; go_ret; exact ⟨ret_bool HT.out.symm, HB.out⟩)
  cases q2
  · have HT : Hid (q = false) := HN.out (.inr (by trivial))
    clear HN HAP HEX HEY
    go_enter Tryz.func148, Tryz.ntmps148
    go_wp2
    clear HW0
    have hgr := gr_some W0
    refine region_alike (by kernel_rfl) (by kernel_rfl) ?_
    repeat (go_big_quiet_step (first | (go_at_call_of 144 (Value.int IntKind.i64 x1); exact gr_call (HX.out _)) | (go_at_call_of 144 (Value.int IntKind.i64 y1); exact gr_call (HY.out _))))
    refine wpQuiet_nil ?_
    intro _ hw'
    obtain ⟨x9, rfl⟩ := hw'
    have hb := hb.trans (x9.h.mono hb.size)
    all_goals (have HB : Hid _ := hb; clear hb; go_wp2; go_ret; exact ⟨ret_bool HT.out.symm, HB.out⟩)
  have HEX' : Hid _ := HEX.out (by trivial)
  have HEY' : Hid _ := HEY.out (by trivial)
  have HAP' : Hid _ := HAP.out (by trivial) (by trivial)
  clear HN HEX HEY HAP
  by_cases hle : ex ≤ y1
  · have HT : Hid (q = true) := HAP'.out.2 (.inl hle)
    clear HAP'
    go_enter Tryz.func148, Tryz.ntmps148
    go_wp2
    clear HW0
    have hgr := gr_some W0
    refine region_alike (by kernel_rfl) (by kernel_rfl) ?_
    repeat (go_big_quiet_step (first | (go_at_call_of 144 (Value.int IntKind.i64 x1); exact gr_call (HX.out _)) | (go_at_call_of 144 (Value.int IntKind.i64 y1); exact gr_call (HY.out _)) | (go_at_call_of 145 (Value.int IntKind.i64 x1); exact gr_call (HEX'.out _))))
    refine wpQuiet_nil ?_
    intro _ hw'
    obtain ⟨x9, rfl⟩ := hw'
    have hb := hb.trans (x9.h.mono hb.size)
    all_goals (have HB : Hid _ := hb; clear hb; go_wp2; go_ret; exact ⟨ret_bool HT.out.symm, HB.out⟩)
  · have HT : Hid (decide (ey ≤ x1) = q) := by
      show _ = _
      by_cases h2 : ey ≤ x1
      · rw [HAP'.out.2 (.inr h2)]; simpa using h2
      · rw [not_true HAP'.out (fun h => by omega)]; simpa using h2
    have hle' : decide (ex ≤ y1) = false := by simpa using hle
    clear HAP' hle
    go_enter Tryz.func148, Tryz.ntmps148
    go_wp2
    clear HW0
    have hgr := gr_some W0
    refine region_alike (by kernel_rfl) (by kernel_rfl) ?_
    repeat (go_big_quiet_step (first | (go_at_call_of 144 (Value.int IntKind.i64 x1); exact gr_call (HX.out _)) | (go_at_call_of 144 (Value.int IntKind.i64 y1); exact gr_call (HY.out _)) | (go_at_call_of 145 (Value.int IntKind.i64 x1); exact gr_call (HEX'.out _)) | (go_at_call_of 145 (Value.int IntKind.i64 y1); exact gr_call (HEY'.out _))))
    refine wpQuiet_nil ?_
    intro _ hw'
    obtain ⟨x9, rfl⟩ := hw'
    have hb := hb.trans (x9.h.mono hb.size)
    all_goals (have HB : Hid _ := hb; clear hb; go_wp2; go_ret; exact ⟨ret_bool HT.out, HB.out⟩)
end Go.Proofs.YtlomcdgfcocmmaaGreatDoor
