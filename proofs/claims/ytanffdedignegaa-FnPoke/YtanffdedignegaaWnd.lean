
/-
  Windows of memory: whether one is right; the specification's and the program's own functions answer alike. Conditions: sizes that the program's own function is asked of are numbers of 64 bits.
-/
import Derived.Test.YtanffdedignegaaBas
import Derived.Test.YtanffdedignegaaProg
import Derived.Test.YtanffdedignegaaSegs
import Derived.Test.YtanffdedignegaaWys
import Derived.Below
import Derived.Deep.RegionWith
import Derived.BigRegion
import Derived.BigQuiet
namespace Go.Proofs.Ytanffdedignegaa
open Go.ChangeShapes Go.WideShapes Go.ChangeAt Go.RowKit
set_option linter.unusedVariables false

abbrev win (b s p : Int) : Value := .agg #[.int .i64 b, .int .i64 s, .int .i64 p]
abbrev wrow (T : TypeId) (b s p : Int) : Obj := .cells #[.int .i64 b, .int .i64 s, .int .i64 p] T
def WinOk (b s p : Int) : Prop := 0 ≤ b ∧ 4 ≤ s ∧ b % 4 = 0 ∧ s % 4 = 0 ∧ b + s ≤ 2048 ∧ 1 ≤ p ∧ p ≤ 7
theorem is_perm (x : Int) (w : World) : Calls Try.prog 58 #[.int .i64 x] w fun e w' => e = .returned (.bool (inr x 1 7)) ∧ w' = w := by
  by_cases h1 : 1 ≤ x
  · by_cases h2 : x ≤ 7
    · rw [inr_yes ⟨h1, h2⟩]
      go_enter Try.func58, Try.ntmps58
      go_wp2
      go_ret
      exact ⟨rfl, rfl⟩
    · rw [inr_no (fun g => h2 g.2)]
      go_enter Try.func58, Try.ntmps58
      go_wp2
      go_ret
      exact ⟨rfl, rfl⟩
  · rw [inr_no (fun g => h1 g.1)]
    go_enter Try.func58, Try.ntmps58
    go_wp2
    go_ret
    exact ⟨rfl, rfl⟩
set_option maxHeartbeats 2000000 in
theorem impl_wok (b s p : Int) (q : Bool) (w : World) (hs : s ≤ 9223372036854775807) (hq : q = true ↔ WinOk b s p) : Calls Try.prog 41 #[win b s p] w fun x w' => x = .returned (.bool q) ∧ Below w.heap.size w w' := by
  have HQ : Hid _ := hq
  have HM : Hid _ := And.intro (tm4 b) (tm4 s)
  have hbel : ∀ o1 : Obj, Below w.heap.size w (w.alloc o1) := fun o1 => (Below.refl _ _).alloc (Nat.le_refl _) _
  have no : Hid (¬ WinOk b s p → q = false) := fun h => by
    cases q
    · rfl
    · exact absurd (HQ.out.1 rfl) h
  clear hq
  generalize hB : Int.tmod b 4 = mb at HM
  generalize hS : Int.tmod s 4 = ms at HM
  have h24 : (s : Int) ≤ 9223372036854775807 := hs
  by_cases hw : 4 ≤ s ∧ 0 ≤ b ∧ b ≤ 2048 - s
  · obtain ⟨h1, h2, h3⟩ := hw
    have hwr : IntKind.i64.wrap (2048 - s) = 2048 - s := by rw [IntKind.wrap_i64]; omega
    by_cases hb : mb = 0
    · by_cases hs : ms = 0
      · by_cases hp : 1 ≤ p ∧ p ≤ 7
        · have hr : Hid (inr p 1 7 = true) := inr_yes hp
          have HT : Hid (q = true) := HQ.out.2 ⟨h2, h1, HM.out.1.1 hb, HM.out.2.1 hs, by omega, hp.1, hp.2⟩
          go_enter Try.func41, Try.ntmps41
          go_wp2_with fail
          refine (is_perm p _).mono ?_
          rintro x w1 ⟨rfl, rfl⟩
          rw [hr.out]
          go_wp2
          go_ret
          exact ⟨ret_bool HT.out.symm, hbel _⟩
        · have hr : Hid (inr p 1 7 = false) := inr_no hp
          have HT : Hid (q = false) := no.out (fun h => hp ⟨h.2.2.2.2.2.1, h.2.2.2.2.2.2⟩)
          clear hp
          go_enter Try.func41, Try.ntmps41
          go_wp2_with fail
          refine (is_perm p _).mono ?_
          rintro x w1 ⟨rfl, rfl⟩
          rw [hr.out]
          go_wp2
          go_ret
          exact ⟨ret_bool HT.out.symm, hbel _⟩
      · have HT : Hid (q = false) := no.out (fun h => hs (HM.out.2.2 h.2.2.2.1))
        have hs' : (ms == 0) = false := by simpa using hs
        clear hs
        go_enter Try.func41, Try.ntmps41
        go_wp2
        go_ret
        exact ⟨ret_bool HT.out.symm, hbel _⟩
    · have HT : Hid (q = false) := no.out (fun h => hb (HM.out.1.2 h.2.2.1))
      have hb' : (mb == 0) = false := by simpa using hb
      clear hb
      go_enter Try.func41, Try.ntmps41
      go_wp2
      go_ret
      exact ⟨ret_bool HT.out.symm, hbel _⟩
  · have HT : Hid (q = false) := no.out (fun h => hw ⟨h.2.1, h.1, by have := h.2.2.2.2.1; omega⟩)
    have hm : ((mb == 0) = false) ∨ (mb = 0 ∧ (ms == 0) = false) ∨ (mb = 0 ∧ ms = 0) := by
      by_cases h1 : mb = 0
      · by_cases h2 : ms = 0
        · exact .inr (.inr ⟨h1, h2⟩)
        · exact .inr (.inl ⟨h1, by simpa using h2⟩)
      · exact .inl (by simpa using h1)
    by_cases h1 : 4 ≤ s
    · by_cases h2 : 0 ≤ b
      · have h3 : ¬ b ≤ 2048 - s := fun h3 => hw ⟨h1, h2, h3⟩
        have hwr : IntKind.i64.wrap (2048 - s) = 2048 - s := by rw [IntKind.wrap_i64]; omega
        clear hw
        rcases hm with hm | ⟨hm, hn⟩ | ⟨hm, hn⟩ <;>
        · go_enter Try.func41, Try.ntmps41
          go_wp2
          go_ret
          exact ⟨ret_bool HT.out.symm, hbel _⟩
      · clear hw
        rcases hm with hm | ⟨hm, hn⟩ | ⟨hm, hn⟩ <;>
        · go_enter Try.func41, Try.ntmps41
          go_wp2
          go_ret
          exact ⟨ret_bool HT.out.symm, hbel _⟩
    · clear hw
      rcases hm with hm | ⟨hm, hn⟩ | ⟨hm, hn⟩ <;>
      · go_enter Try.func41, Try.ntmps41
        go_wp2
        go_ret
        exact ⟨ret_bool HT.out.symm, hbel _⟩
set_option maxHeartbeats 2000000 in
theorem spec_wok (b s p : Int) (q : Bool) (w : World) (hq : q = true ↔ WinOk b s p) : Calls Try.prog 32 #[win b s p] w fun x w' => x = .returned (.bool q) ∧ Below w.heap.size w w' := by
  have HQ : Hid _ := hq
  have HM : Hid _ := And.intro (tm4 b) (tm4 s)
  have hbel : ∀ o1 : Obj, Below w.heap.size w (w.alloc o1) := fun o1 => (Below.refl _ _).alloc (Nat.le_refl _) _
  have no : Hid (¬ WinOk b s p → q = false) := fun h => by
    cases q
    · rfl
    · exact absurd (HQ.out.1 rfl) h
  clear hq
  generalize hB : Int.tmod b 4 = mb at HM
  generalize hS : Int.tmod s 4 = ms at HM
  by_cases hb : 0 ≤ b ∧ b ≤ 2048
  rotate_left
  · have HT : Hid (q = false) := no.out (fun h => hb ⟨h.1, by have := h.2.2.2.2.1; have := h.2.1; omega⟩)
    have hr : Hid (inr b 0 2048 = false) := inr_no hb
    clear hb
    go_enter Try.func32, Try.ntmps32
    go_wp2_with fail
    refine (in_any b 0 2048 _).mono ?_
    rintro x w1 ⟨rfl, rfl⟩
    rw [hr.out]
    go_wp2
    go_ret
    exact ⟨ret_bool HT.out.symm, hbel _⟩
  have hr : Hid (inr b 0 2048 = true) := inr_yes hb
  by_cases hs : 4 ≤ s ∧ s ≤ 2048
  rotate_left
  · have HT : Hid (q = false) := no.out (fun h => hs ⟨h.2.1, by have := h.2.2.2.2.1; have := h.1; omega⟩)
    have hr2 : Hid (inr s 4 2048 = false) := inr_no hs
    clear hs
    go_enter Try.func32, Try.ntmps32
    go_wp2_with fail
    refine (in_any b 0 2048 _).mono ?_
    rintro x w1 ⟨rfl, rfl⟩
    rw [hr.out]
    go_wp2_with fail
    refine (in_any s 4 2048 _).mono ?_
    rintro x w1 ⟨rfl, rfl⟩
    rw [hr2.out]
    go_wp2
    go_ret
    exact ⟨ret_bool HT.out.symm, hbel _⟩
  have hr2 : Hid (inr s 4 2048 = true) := inr_yes hs
  have hwr : IntKind.i64.wrap (b + s) = b + s := by rw [IntKind.wrap_i64]; omega
  obtain ⟨hb1, hb2⟩ := hb
  obtain ⟨hs1, hs2⟩ := hs
  go_enter Try.func32, Try.ntmps32
  go_wp2_with fail
  refine (in_any b 0 2048 _).mono ?_
  rintro x w1 ⟨rfl, rfl⟩
  rw [hr.out]
  go_wp2_with fail
  refine (in_any s 4 2048 _).mono ?_
  rintro x w1 ⟨rfl, rfl⟩
  rw [hr2.out]
  by_cases h1 : mb = 0
  rotate_left
  · have HT : Hid (q = false) := no.out (fun h => h1 (HM.out.1.2 h.2.2.1))
    have h1' : (mb == 0) = false := by simpa using h1
    clear h1
    go_wp2
    go_ret
    exact ⟨ret_bool HT.out.symm, hbel _⟩
  by_cases h2 : ms = 0
  rotate_left
  · have HT : Hid (q = false) := no.out (fun h => h2 (HM.out.2.2 h.2.2.2.1))
    have h2' : (ms == 0) = false := by simpa using h2
    clear h2
    go_wp2
    go_ret
    exact ⟨ret_bool HT.out.symm, hbel _⟩
  by_cases h3 : b + s ≤ 2048
  rotate_left
  · have HT : Hid (q = false) := no.out (fun h => h3 h.2.2.2.2.1)
    go_wp2
    go_ret
    exact ⟨ret_bool HT.out.symm, hbel _⟩
  go_wp2_with fail
  refine (in_any p 1 7 _).mono ?_
  rintro x w1 ⟨rfl, rfl⟩
  have HT : Hid (inr p 1 7 = q) := by
    show _ = _
    by_cases hp : 1 ≤ p ∧ p ≤ 7
    · rw [inr_yes hp, HQ.out.2 ⟨hb1, hs1, HM.out.1.1 h1, HM.out.2.1 h2, h3, hp.1, hp.2⟩]
    · rw [inr_no hp, no.out (fun h => hp ⟨h.2.2.2.2.2.1, h.2.2.2.2.2.2⟩)]
  rw [HT.out]
  go_wp2
  go_ret
  exact ⟨rfl, hbel _⟩
end Go.Proofs.Ytanffdedignegaa
