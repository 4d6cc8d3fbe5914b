
/-
  What stands against an access: the specification's and the program's own functions answer alike. Conditions: the address is a number of 32 bits; the sizes are numbers of 64 bits; the slice's capacity is at least its length.
-/
import Derived.Test.YtanffdedignegaaBas
import Derived.Test.YtanffdedignegaaProg
import Derived.Test.YtanffdedignegaaAlw
namespace Go.Proofs.Ytanffdedignegaa
open Go.ChangeShapes Go.WideShapes Go.ChangeAt Go.RowKit Go.Deep
set_option linter.unusedVariables false

theorem ret9 {r : Int} (h : r = 9) : Ending.returned (.int .i64 9) = .returned (.int .i64 r) := by rw [h]
theorem size_bad {s : Int} (h : ¬ (s = 1 ∨ s = 4)) : (s != 1) = true ∧ (s != 4) = true ∧ (s == 1) = false ∧ (s == 4) = false := by
  simp only [not_or] at h; simp [h]
theorem kind_bad {s : Int} (h : ¬ (s = 1 ∨ s = 2 ∨ s = 4)) : (s != 1) = true ∧ (s != 2) = true ∧ (s != 4) = true ∧ (s == 1) = false ∧ (s == 2) = false ∧ (s == 4) = false := by
  simp only [not_or] at h; simp [h]
set_option maxHeartbeats 4000000 in
theorem spec_fault (a : Option Addr) (cap n : Nat) (xs : List Wn) (q : Bool) (ad ra size kind r : Int) (w : World) (hs : ASeg w a xs) (hl : xs.length = n) (hn : n ≤ 9223372036854775807) (hq : q = true ↔ WsOk xs) (had : 0 ≤ ad ∧ ad < 4294967296) (hra : q = true → AtP xs n ad ra) (hr : q = true → AccP size kind → FauP size kind ad ra (xs.getD ra.toNat wn0).2.2 r) (hr9 : q = false ∨ ¬ AccP size kind → r = 9) :
    Calls Try.prog 7 #[.slice a n cap, .int .u32 ad, .int .i64 size, .int .i64 kind] w fun e w' => e = .returned (.int .i64 r) ∧ Below w.heap.size w w' := by
  have HW : Hid _ := spec_wsok a cap n xs q w hs hl hn hq
  cases q
  · have HT : Hid (r = 9) := hr9 (.inl rfl)
    clear hs hl hq had hra hr hr9
    go_enter Try.func7, Try.ntmps7
    go_wp2_with fail
    refine Calls.mono HW.out ?_
    rintro u w1 ⟨rfl, hb1⟩
    have HB : Hid _ := hb1
    clear hb1
    go_wp2
    go_ret
    exact ⟨ret9 HT.out, HB.out⟩
  by_cases hz : size = 1 ∨ size = 4
  rotate_left
  · have HT : Hid (r = 9) := hr9 (.inr (fun h => hz h.1))
    obtain ⟨z1, z2, z3, z4⟩ := size_bad hz
    clear hs hl hq had hra hr hr9 hz
    go_enter Try.func7, Try.ntmps7
    go_wp2_with fail
    refine Calls.mono HW.out ?_
    rintro u w1 ⟨rfl, hb1⟩
    have HB : Hid _ := hb1
    clear hb1
    go_wp2
    go_ret
    exact ⟨ret9 HT.out, HB.out⟩
  by_cases hk : kind = 1 ∨ kind = 2 ∨ kind = 4
  rotate_left
  · have HT : Hid (r = 9) := hr9 (.inr (fun h => hk h.2))
    obtain ⟨z1, z2, z3, z4, z5, z6⟩ := kind_bad hk
    clear hs hl hq had hra hr hr9 hk
    rcases hz with rfl | rfl
    all_goals
      go_enter Try.func7, Try.ntmps7
      go_wp2_with fail
      refine Calls.mono HW.out ?_
      rintro u w1 ⟨rfl, hb1⟩
      have HB : Hid _ := hb1
      clear hb1
      go_wp2
      go_ret
      exact ⟨ret9 HT.out, HB.out⟩
  have HFA : Hid (∀ X, Below w.heap.size w X → Calls Try.prog 18 #[.slice a n cap, .int .u32 ad, .int .i64 size, .int .i64 kind] X fun e w' => e = .returned (.int .i64 r) ∧ Below X.heap.size X w') := fun X hX => spec_l07fault a cap n xs ad ra size kind r X (hs.below hX) hl (hq.1 rfl) had ⟨hz, hk⟩ (hra rfl) (hr rfl ⟨hz, hk⟩)
  clear hs hl hq had hra hr hr9
  rcases hz with rfl | rfl <;> rcases hk with rfl | rfl | rfl
  all_goals
    go_enter Try.func7, Try.ntmps7
    go_wp2_with fail
    refine Calls.mono HW.out ?_
    rintro u w1 ⟨rfl, hb1⟩
    have HB : Hid _ := hb1
    clear hb1
    go_wp2_with fail
    refine (HFA.out _ HB.out).mono ?_
    rintro u w2 ⟨rfl, hb2⟩
    have HB2 : Hid _ := HB.out.trans (hb2.mono HB.out.size)
    clear hb2
    go_wp2
    go_ret
    exact ⟨rfl, HB2.out⟩
set_option maxHeartbeats 2000000 in
theorem is_access (size kind : Int) (q : Bool) (w : World) (hq : q = true ↔ AccP size kind) :
    Calls Try.prog 25 #[.int .i64 size, .int .i64 kind] w fun e w' => e = .returned (.bool q) ∧ w' = w := by
  by_cases hk : kind = 1 ∨ kind = 2 ∨ kind = 4
  · by_cases hz : size = 1 ∨ size = 4
    · obtain rfl : q = true := hq.2 ⟨hz, hk⟩
      clear hq
      rcases hz with rfl | rfl <;> rcases hk with rfl | rfl | rfl
      all_goals
        go_enter Try.func25, Try.ntmps25
        go_wp2
        go_ret
        exact ⟨rfl, rfl⟩
    · obtain rfl : q = false := not_true hq (fun h => hz h.1)
      obtain ⟨z1, z2, z3, z4⟩ := size_bad hz
      clear hq hz
      rcases hk with rfl | rfl | rfl
      all_goals
        go_enter Try.func25, Try.ntmps25
        go_wp2
        go_ret
        exact ⟨rfl, rfl⟩
  · obtain rfl : q = false := not_true hq (fun h => hk h.2)
    obtain ⟨z1, z2, z3, z4, z5, z6⟩ := kind_bad hk
    clear hq hk
    go_enter Try.func25, Try.ntmps25
    go_wp2
    go_ret
    exact ⟨rfl, rfl⟩
set_option maxHeartbeats 4000000 in
theorem impl_fault (a : Option Addr) (cap n : Nat) (xs : List Wn) (q : Bool) (ad ra size kind r : Int) (w : World) (hs : ASeg w a xs) (hf : Fit xs) (hl : xs.length = n) (hn : n ≤ 9223372036854775807) (hc : n ≤ cap) (hq : q = true ↔ WsOk xs) (had : 0 ≤ ad ∧ ad < 4294967296) (hra : q = true → AtP xs n ad ra) (hr : q = true → AccP size kind → FauP size kind ad ra (xs.getD ra.toNat wn0).2.2 r) (hr9 : q = false ∨ ¬ AccP size kind → r = 9) :
    Calls Try.prog 9 #[.slice a n cap, .int .u32 ad, .int .i64 size, .int .i64 kind] w fun e w' => e = .returned (.int .i64 r) ∧ Below w.heap.size w w' := by
  have HW : Hid _ := impl_wsok a cap n xs q w hs hf hl hn hc hq
  cases q
  · have HT : Hid (r = 9) := hr9 (.inl rfl)
    clear hs hl hq had hra hr hr9 hf
    go_enter Try.func9, Try.ntmps9
    go_wp2_with fail
    refine Calls.mono HW.out ?_
    rintro u w1 ⟨rfl, hb1⟩
    have HB : Hid _ := hb1
    clear hb1
    go_wp2
    go_ret
    exact ⟨ret9 HT.out, HB.out⟩
  obtain ⟨qa, hqa⟩ := told (AccP size kind)
  have HIA : Hid _ := fun X => is_access size kind qa X hqa
  cases qa
  · have HT : Hid (r = 9) := hr9 (.inr (fun h => by have := hqa.2 h; cases this))
    clear hs hl hq had hra hr hr9 hf hqa
    go_enter Try.func9, Try.ntmps9
    go_wp2_with fail
    refine Calls.mono HW.out ?_
    rintro u w1 ⟨rfl, hb1⟩
    have HB : Hid _ := hb1
    clear hb1
    go_wp2_with fail
    refine (HIA.out _).mono ?_
    rintro u w2 ⟨rfl, rfl⟩
    go_wp2
    go_ret
    exact ⟨ret9 HT.out, HB.out⟩
  have hacc := hqa.1 rfl
  replace hr := hr rfl hacc
  replace hra := hra rfl
  obtain ⟨hz, hk⟩ := hacc
  obtain ⟨had0, had1⟩ := had
  have HAT : Hid (∀ X, Below w.heap.size w X → Calls Try.prog 26 #[.slice a n cap, .int .i64 ad] X fun e w' => e = .returned (.int .i64 ra) ∧ Below X.heap.size X w') := fun X hX => impl_at a cap n xs true ad ra n X (hs.below hX) hf hl hn hc hq (fun h => by cases h) (fun _ => rfl) hra
  have h4 : n ≤ 4 := by rw [← hl]; exact (hq.1 rfl).1
  have ho : WsOk xs := hq.1 rfl
  clear hqa hr9 hf hq
  by_cases h1 : Int.tmod ad size = 0
  rotate_left
  · obtain rfl : r = 1 := by
      rcases hr with ⟨_, h2⟩ | ⟨h2, _⟩ | ⟨h2, _⟩ | ⟨h2, _⟩
      · exact h2
      all_goals exact absurd h2 h1
    clear hs hl ho hra hr HAT
    rcases hz with rfl | rfl
    · exact absurd (by simp) h1
    rw [Int.tmod_eq_emod_of_nonneg had0] at h1
    have h1'' : (ad % 4 != 0) = true := by simpa using h1
    clear h1
    have hw := wrap_u32 had0 had1
    go_enter Try.func9, Try.ntmps9
    go_wp2_with fail
    refine Calls.mono HW.out ?_
    rintro u w1 ⟨rfl, hb1⟩
    have HB : Hid _ := hb1
    clear hb1
    go_wp2_with fail
    refine (HIA.out _).mono ?_
    rintro u w2 ⟨rfl, rfl⟩
    go_wp2
    go_ret
    exact ⟨rfl, HB.out⟩
  have h1e : ad % size = 0 := by rw [← Int.tmod_eq_emod_of_nonneg had0]; exact h1
  by_cases h2 : ra < 0
  · obtain rfl : r = 2 := by
      rcases hr with ⟨h3, _⟩ | ⟨_, _, h3⟩ | ⟨_, h3, _⟩ | ⟨_, h3, _⟩
      · exact absurd h1 h3
      · exact h3
      all_goals exact absurd h2 (by omega)
    clear hs hl ho hra hr h1
    have hw := wrap_u32 had0 had1
    rcases hz with rfl | rfl
    all_goals
      go_enter Try.func9, Try.ntmps9
      go_wp2_with fail
      refine Calls.mono HW.out ?_
      rintro u w1 ⟨rfl, hb1⟩
      have HB : Hid _ := hb1
      clear hb1
      go_wp2_with fail
      refine (HIA.out _).mono ?_
      rintro u w2 ⟨rfl, rfl⟩
      go_wp2_with fail
      refine (HAT.out _ HB.out).mono ?_
      rintro u w3 ⟨rfl, hb3⟩
      have HB3 : Hid _ := HB.out.trans (hb3.mono HB.out.size)
      clear hb3
      go_wp2
      go_ret
      exact ⟨rfl, HB3.out⟩
  obtain ⟨k, hkk, hkn⟩ := hra.there (by omega)
  obtain ⟨b, off, rfl, hlt, pk⟩ := hs.at k (by rw [hl]; exact hkn)
  subst hkk
  rw [Int.toNat_natCast] at hr
  have hrr : (alw (xs.getD k wn0).2.2 kind = false ∧ r = 3) ∨ (alw (xs.getD k wn0).2.2 kind = true ∧ r = 0) := by
    rcases hr with ⟨h3, _⟩ | ⟨_, h3, _⟩ | ⟨_, _, h3, h5⟩ | ⟨_, _, h3, h5⟩
    · exact absurd h1 h3
    · exact absurd h3 h2
    · exact .inl ⟨h3, h5⟩
    · exact .inr ⟨h3, h5⟩
  have HPK : Hid (∀ X, Below w.heap.size w X → A3 X b (off + k * 3) (xs.getD k wn0)) := fun X hX => pk.of (fun i => hX.cell (p := ⟨b, i, none⟩) hlt)
  generalize xs.getD k wn0 = p at HPK hrr
  obtain ⟨p1, p2, p3⟩ := p
  simp only [A3] at HPK hrr
  clear hs hl ho hra hr pk hlt h2 h1
  have hkn' : (k : Int) < (n : Int) := by omega
  have hk0 : ¬ ((k : Int) < 0) := by omega
  have hw := wrap_u32 had0 had1
  have HAL : Hid (∀ X qq, alw p3 kind = qq → Calls Try.prog 27 #[win p1 p2 p3, .int .i64 kind] X fun e w' => e = .returned (.bool qq) ∧ Below X.heap.size X w') := fun X qq h => win_allows p1 p2 p3 kind qq X h
  have HRR : Hid _ := hrr
  clear hrr hk
  rcases HRR.out with ⟨ha, rfl⟩ | ⟨ha, rfl⟩
  all_goals
    have HAL' : Hid _ := fun X => HAL.out X _ ha
    clear ha HRR HAL
    rcases hz with rfl | rfl
    all_goals
      go_enter Try.func9, Try.ntmps9
      go_wp2_with fail
      refine Calls.mono HW.out ?_
      rintro u w1 ⟨rfl, hb1⟩
      have HB : Hid _ := hb1
      clear hb1
      go_wp2_with fail
      refine (HIA.out _).mono ?_
      rintro u w2 ⟨rfl, rfl⟩
      go_wp2_with fail
      refine (HAT.out _ HB.out).mono ?_
      rintro u w3 ⟨rfl, hb3⟩
      have HB3 : Hid _ := HB.out.trans (hb3.mono HB.out.size)
      have c0 := (HPK.out _ HB3.out).1
      have c1 := (HPK.out _ HB3.out).2.1
      have c2 := (HPK.out _ HB3.out).2.2
      clear hb3
      go_wp2_with fail
      refine (HAL'.out _).mono ?_
      rintro u w4 ⟨rfl, hb4⟩
      have HB4 : Hid _ := HB3.out.trans (hb4.mono HB3.out.size)
      clear hb4 c0 c1 c2
      go_wp2
      go_ret
      exact ⟨rfl, HB4.out⟩
end Go.Proofs.Ytanffdedignegaa
