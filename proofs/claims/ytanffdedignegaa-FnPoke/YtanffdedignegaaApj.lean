
/-
  Whether two windows lie apart, by the program's own function. Conditions: the sizes are numbers of 64 bits.
-/
import Derived.Test.YtanffdedignegaaBas
import Derived.Test.YtanffdedignegaaProg
import Derived.Test.YtanffdedignegaaApt
import Derived.Test.YtanffdedignegaaAlk
namespace Go.Proofs.Ytanffdedignegaa
open Go.ChangeShapes Go.WideShapes Go.ChangeAt Go.RowKit Go.Deep
set_option linter.unusedVariables false

set_option maxHeartbeats 4000000 in
theorem impl_apart (x y : Wn) (q : Bool) (w : World) (hsx : x.2.1 ≤ 9223372036854775807) (hsy : y.2.1 ≤ 9223372036854775807) (hq : q = true ↔ ApartP x y) : Calls Try.prog 43 #[win x.1 x.2.1 x.2.2, win y.1 y.2.1 y.2.2] w fun e w' => e = .returned (.bool q) ∧ Below w.heap.size w w' := by
  have HQ : Hid _ := hq
  clear hq
  obtain ⟨q1, hq1⟩ := told (WOk x)
  have HX : Hid (∀ X, Calls Try.prog 41 #[win x.1 x.2.1 x.2.2] X fun e w' => e = .returned (.bool q1) ∧ Below X.heap.size X w') := fun X => impl_wok _ _ _ q1 X hsx hq1
  obtain ⟨q2, hq2⟩ := told (WOk y)
  have HY : Hid (∀ X, Calls Try.prog 41 #[win y.1 y.2.1 y.2.2] X fun e w' => e = .returned (.bool q2) ∧ Below X.heap.size X w') := fun X => impl_wok _ _ _ q2 X hsy hq2
  have HQ1 : Hid _ := hq1
  have HQ2 : Hid _ := hq2
  clear hq1 hq2 hsx hsy
  have hb : Below w.heap.size w ((w.alloc (wrow 40 x.1 x.2.1 x.2.2)).alloc (wrow 40 y.1 y.2.1 y.2.2)) := ((Below.refl _ _).alloc (Nat.le_refl _) _).alloc (by simp) _
  have K1 := (Bk.new w #[.int .i64 x.1, .int .i64 x.2.1, .int .i64 x.2.2] 40 w.heap.size rfl).alloc (wrow 40 y.1 y.2.1 y.2.2)
  have K2 := Bk.new (w.alloc (wrow 40 x.1 x.2.1 x.2.2)) #[.int .i64 y.1, .int .i64 y.2.1, .int .i64 y.2.2] 40 (w.heap.size + 1) (by simp)
  have HEX : Hid (q1 = true → ∀ X, Calls Try.prog 59 #[win x.1 x.2.1 x.2.2] X fun e w' => e = .returned (.int .i64 (x.1 + x.2.1)) ∧ Below X.heap.size X w') := fun h X => win_end _ _ _ X (HQ1.out.1 h).fit
  have HEY : Hid (q2 = true → ∀ X, Calls Try.prog 59 #[win y.1 y.2.1 y.2.2] X fun e w' => e = .returned (.int .i64 (y.1 + y.2.1)) ∧ Below X.heap.size X w') := fun h X => win_end _ _ _ X (HQ2.out.1 h).fit
  have HAP : Hid (q1 = true → q2 = true → (q = true ↔ (x.1 + x.2.1 ≤ y.1 ∨ y.1 + y.2.1 ≤ x.1))) := fun h1 h2 => HQ.out.trans ⟨fun h => h.2.2, fun h => ⟨HQ1.out.1 h1, HQ2.out.1 h2, h⟩⟩
  have HN : Hid (q1 = false ∨ q2 = false → q = false) := fun h => not_true HQ.out (fun hp => by
    rcases h with h | h
    · rw [HQ1.out.2 hp.1] at h; cases h
    · rw [HQ2.out.2 hp.2.1] at h; cases h)
  clear HQ1 HQ2 HQ
  generalize x.1 + x.2.1 = ex at HEX HAP
  generalize y.1 + y.2.1 = ey at HEY HAP
  obtain ⟨x1, x2, x3⟩ := x
  obtain ⟨y1, y2, y3⟩ := y
  simp only at HX HY HEX HEY HAP hb K1 K2
  simp only
  generalize HW0 : (w.alloc (wrow 40 x1 x2 x3)).alloc (wrow 40 y1 y2 y3) = W0 at hb K1 K2
  have c0 := K1.cell 0 _ rfl
  have c1 := K1.cell 1 _ rfl
  have c2 := K1.cell 2 _ rfl
  have d0 := K2.cell 0 _ rfl
  have d1 := K2.cell 1 _ rfl
  have d2 := K2.cell 2 _ rfl
  replace c0 : W0.cell? ⟨w.heap.size, 0, none⟩ = some (.int .i64 x1) := c0
  replace c1 : W0.cell? ⟨w.heap.size, 1, none⟩ = some (.int .i64 x2) := c1
  replace c2 : W0.cell? ⟨w.heap.size, 2, none⟩ = some (.int .i64 x3) := c2
  replace d0 : W0.cell? ⟨w.heap.size + 1, 0, none⟩ = some (.int .i64 y1) := d0
  replace d1 : W0.cell? ⟨w.heap.size + 1, 1, none⟩ = some (.int .i64 y2) := d1
  replace d2 : W0.cell? ⟨w.heap.size + 1, 2, none⟩ = some (.int .i64 y3) := d2
  clear K1 K2
  replace c0 := fun x => gr_cell c0 x
  replace c1 := fun x => gr_cell c1 x
  replace c2 := fun x => gr_cell c2 x
  replace d0 := fun x => gr_cell d0 x
  replace d1 := fun x => gr_cell d1 x
  replace d2 := fun x => gr_cell d2 x
  cases q1
  · have HT : Hid (q = false) := HN.out (.inl (by trivial))
    clear HN HAP HEX HEY HY
    go_enter Try.func43, Try.ntmps43
    go_wp2
    clear HW0
    have hgr := gr_some W0
    refine region_alike (by kernel_rfl) (by kernel_rfl) ?_
    repeat (go_big_quiet_step (first | (go_at_call_of 41 (Value.int IntKind.i64 x1); exact gr_call (HX.out _))))
    refine wpQuiet_nil ?_
    intro _ hw'
    obtain ⟨x9, rfl⟩ := hw'
    have hb := hb.trans (x9.h.mono hb.size)
    all_goals (have HB : Hid _ := hb; clear hb; go_wp2; go_ret; exact ⟨ret_bool HT.out.symm, HB.out⟩)
  cases q2
  · have HT : Hid (q = false) := HN.out (.inr (by trivial))
    clear HN HAP HEX HEY
    go_enter Try.func43, Try.ntmps43
    go_wp2
    clear HW0
    have hgr := gr_some W0
    refine region_alike (by kernel_rfl) (by kernel_rfl) ?_
    repeat (go_big_quiet_step (first | (go_at_call_of 41 (Value.int IntKind.i64 x1); exact gr_call (HX.out _)) | (go_at_call_of 41 (Value.int IntKind.i64 y1); exact gr_call (HY.out _))))
    refine wpQuiet_nil ?_
    intro _ hw'
    obtain ⟨x9, rfl⟩ := hw'
    have hb := hb.trans (x9.h.mono hb.size)
    all_goals (have HB : Hid _ := hb; clear hb; go_wp2; go_ret; exact ⟨ret_bool HT.out.symm, HB.out⟩)
  have HEX' : Hid _ := HEX.out (by trivial)
  have HEY' : Hid _ := HEY.out (by trivial)
  have HAP' : Hid _ := HAP.out (by trivial) (by trivial)
  clear HN HEX HEY HAP
  by_cases hle : ex ≤ y1
  · have HT : Hid (q = true) := HAP'.out.2 (.inl hle)
    clear HAP'
    go_enter Try.func43, Try.ntmps43
    go_wp2
    clear HW0
    have hgr := gr_some W0
    refine region_alike (by kernel_rfl) (by kernel_rfl) ?_
    repeat (go_big_quiet_step (first | (go_at_call_of 41 (Value.int IntKind.i64 x1); exact gr_call (HX.out _)) | (go_at_call_of 41 (Value.int IntKind.i64 y1); exact gr_call (HY.out _)) | (go_at_call_of 59 (Value.int IntKind.i64 x1); exact gr_call (HEX'.out _))))
    refine wpQuiet_nil ?_
    intro _ hw'
    obtain ⟨x9, rfl⟩ := hw'
    have hb := hb.trans (x9.h.mono hb.size)
    all_goals (have HB : Hid _ := hb; clear hb; go_wp2; go_ret; exact ⟨ret_bool HT.out.symm, HB.out⟩)
  · have HT : Hid (decide (ey ≤ x1) = q) := by
      show _ = _
      by_cases h2 : ey ≤ x1
      · rw [HAP'.out.2 (.inr h2)]; simpa using h2
      · rw [not_true HAP'.out (fun h => by omega)]; simpa using h2
    have hle' : decide (ex ≤ y1) = false := by simpa using hle
    clear HAP' hle
    go_enter Try.func43, Try.ntmps43
    go_wp2
    clear HW0
    have hgr := gr_some W0
    refine region_alike (by kernel_rfl) (by kernel_rfl) ?_
    repeat (go_big_quiet_step (first | (go_at_call_of 41 (Value.int IntKind.i64 x1); exact gr_call (HX.out _)) | (go_at_call_of 41 (Value.int IntKind.i64 y1); exact gr_call (HY.out _)) | (go_at_call_of 59 (Value.int IntKind.i64 x1); exact gr_call (HEX'.out _)) | (go_at_call_of 59 (Value.int IntKind.i64 y1); exact gr_call (HEY'.out _))))
    refine wpQuiet_nil ?_
    intro _ hw'
    obtain ⟨x9, rfl⟩ := hw'
    have hb := hb.trans (x9.h.mono hb.size)
    all_goals (have HB : Hid _ := hb; clear hb; go_wp2; go_ret; exact ⟨ret_bool HT.out, HB.out⟩)
end Go.Proofs.Ytanffdedignegaa
