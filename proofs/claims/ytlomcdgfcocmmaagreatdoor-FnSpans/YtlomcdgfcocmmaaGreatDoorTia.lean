
/-
  Small functions on time: which cycles there are, frames, places, ends of slots; the program's and the specification's. Conditions: those that each fact names.
-/
import Derived.Test.YtlomcdgfcocmmaaGreatDoorBas
import Derived.Test.YtlomcdgfcocmmaaGreatDoorTim
import Derived.Test.YtlomcdgfcocmmaaGreatDoorRl3
import Derived.Test.YtlomcdgfcocmmaaGreatDoorSp6
import Derived.Test.YtlomcdgfcocmmaaGreatDoorRul
import Derived.Test.YtlomcdgfcocmmaaGreatDoorGen
namespace Go.Proofs.YtlomcdgfcocmmaaGreatDoor
open Go.ChangeShapes Go.WideShapes Go.ChangeAt Go.RowKit Go.Deep Go.Joins
set_option linter.unusedVariables false

theorem is_cyc (x : Int) (w : World) : Calls Tryz.prog 81 #[.int .i64 x] w fun e w' => e = .returned (.bool (inr x 0 50000)) ∧ w' = w := by
  by_cases h1 : 0 ≤ x
  · by_cases h2 : x ≤ 50000
    · rw [inr_yes ⟨h1, h2⟩]
      go_enter Tryz.func81, Tryz.ntmps81
      go_wp2
      go_ret
      exact ⟨rfl, rfl⟩
    · rw [inr_no (fun g => h2 g.2)]
      go_enter Tryz.func81, Tryz.ntmps81
      go_wp2
      go_ret
      exact ⟨rfl, rfl⟩
  · rw [inr_no (fun g => h1 g.1)]
    go_enter Tryz.func81, Tryz.ntmps81
    go_wp2
    go_ret
    exact ⟨rfl, rfl⟩
set_option maxRecDepth 20000 in
theorem e_cyc : ∀ args (v : World), (callFunc 81 args).run Tryz.prog v = .ok (.enter 81 args) v := enters_of Tryz.func81 (by kernel_rfl) rfl
set_option maxRecDepth 40000 in
set_option maxHeartbeats 4000000 in
theorem keeps (t : Tb) (a : Ad) (zs : List Int) (n cap : Nat) (A : Option Addr) (q : Bool) (w : World) (hm : TM 0 w t a) (hw : TW t a) (hs : TS a) (he : TabE w) (hcp : a.pn ≤ a.pc) (hz : GSeg 1 w A n (inX zs)) (hn : n ≤ 1048576) (hq : q = true ↔ ((∀ i, i < n → IsC (zs.getD i 0)) ∧ Sd t)) :
    Calls Tryz.prog 48 #[tbV t a, .slice A n cap] w fun e w' => e = .returned (.bool q) ∧ Below w.heap.size w w' := by
  obtain ⟨q1, hq1⟩ := told (∀ i, i < n → IsC (zs.getD i 0))
  obtain ⟨q2, hq2⟩ := told (Sd t)
  have HB0 : Hid (Below w.heap.size w (w.alloc (.cells (tbA t a) 33))) := (Below.refl _ _).alloc (Nat.le_refl _) _
  have HX0 : Hid (TBx (w.alloc (.cells (tbA t a) 33)) w.heap.size t a) := TBx.new w t a _ rfl
  have HE : Hid (Calls Tryz.prog 80 #[.slice A n cap, .func (.func 81) #[] #[]] (w.alloc (.cells (tbA t a) 33)) fun e w' => e = .returned (.bool q1) ∧ Below (w.alloc (.cells (tbA t a) 33)).heap.size (w.alloc (.cells (tbA t a) 33)) w') :=
    in_every A cap n zs (fun i => inr (zs.getD i 0) 0 50000) q1 81 #[] #[] _ (hz.below HB0.out) (by omega) e_cyc
      (fun i hi X hX => (is_cyc (zs.getD i 0) X).mono fun e w' ⟨h1, h2⟩ => ⟨h1, by rw [h2]; exact Below.refl _ _⟩)
      (hq1.trans ⟨fun h i hi => inr_yes (h i hi), fun h i hi => of_inr (h i hi)⟩)
  have HS : Hid (∀ X, Below w.heap.size w X → Calls Tryz.prog 13 #[tbV t a] X fun e w' => e = .returned (.bool q2) ∧ Below X.heap.size X w') := fun X hX => impl_sound t a q2 X (hm.below hX) hw hs (he.below hX) hcp hq2
  have HN : Hid (q1 = false ∨ q2 = false → q = false) := fun h => not_true hq (fun g => by
    rcases h with h | h
    · rw [hq1.2 g.1] at h; cases h
    · rw [hq2.2 g.2] at h; cases h)
  have HY : Hid (q1 = true → q2 = true → q = true) := fun h1 h2 => hq.2 ⟨hq1.1 h1, hq2.1 h2⟩
  clear hq hq1 hq2 hm hw hs he hcp hz hn
  go_enter Tryz.func48, Tryz.ntmps48
  go_wp2_with fail
  refine Calls.mono HE.out ?_
  rintro e w1 ⟨rfl, hb1⟩
  have HB1 : Hid (Below w.heap.size w w1) := HB0.out.trans (hb1.mono HB0.out.size)
  have HX1 : Hid (w1.heap[w.heap.size]? = some (.cells (tbA t a) 33 (0, 0))) := HX0.out.below hb1
  clear hb1 HB0 HX0 HE
  cases q1
  · have HT : Hid (q = false) := HN.out (.inl (by trivial))
    go_wp2
    go_ret
    exact ⟨ret_bool HT.out.symm, HB1.out⟩
  go_wp2_with (first | (refine wpList_load_rowG rfl 33 (.tmp 2) rfl w.heap.size rfl 33 (tbA t a) (0, 0) _ HX1.out Tryz.underlying33 rfl (by kernel_rfl) ?_) | fail)
  refine Calls.mono (HS.out _ HB1.out) ?_
  rintro e w2 ⟨rfl, hb2⟩
  have HB2 : Hid (Below w.heap.size w w2) := HB1.out.trans (hb2.mono HB1.out.size)
  clear hb2 HX1 HS
  have HT : Hid (q2 = q) := by
    cases q2
    · exact (HN.out (.inr (by first | rfl | trivial))).symm
    · exact (HY.out (by first | rfl | trivial) (by first | rfl | trivial)).symm
  go_wp2
  go_ret
  exact ⟨ret_bool HT.out, HB2.out⟩
set_option maxRecDepth 40000 in
set_option maxHeartbeats 4000000 in
theorem spec_tok (t : Tb) (a : Ad) (c : Int) (q : Bool) (w : World) (hm : TM 0 w t a) (hw : TW t a) (hs : TS a) (hq : q = true ↔ (Sd t ∧ IsC c)) :
    Calls Tryz.prog 51 #[tbV t a, .int .i64 c] w fun e w' => e = .returned (.bool q) ∧ Below w.heap.size w w' := by
  obtain ⟨q2, hq2⟩ := told (Sd t)
  obtain ⟨q1, HQ1⟩ : ∃ b, Hid (inr c 0 50000 = b) := ⟨_, rfl⟩
  have HB0 : Hid (Below w.heap.size w (w.alloc (.cells (tbA t a) 33))) := (Below.refl _ _).alloc (Nat.le_refl _) _
  have HX0 : Hid (TBx (w.alloc (.cells (tbA t a) 33)) w.heap.size t a) := TBx.new w t a _ rfl
  have HS : Hid (Calls Tryz.prog 32 #[tbV t a] (w.alloc (.cells (tbA t a) 33)) fun e w' => e = .returned (.bool q2) ∧ Below (w.alloc (.cells (tbA t a) 33)).heap.size (w.alloc (.cells (tbA t a) 33)) w') := spec_sound t a q2 _ (hm.below HB0.out) hw hs hq2
  have HI : Hid (∀ X, Calls Tryz.prog 33 #[.int .i64 c, .int .i64 0, .int .i64 50000] X fun e w' => e = .returned (.bool q1) ∧ w' = X) := fun X => by rw [← HQ1.out]; exact in_any _ _ _ X
  have HN : Hid (q1 = false ∨ q2 = false → q = false) := fun h => not_true hq (fun g => by
    rcases h with h | h
    · rw [← HQ1.out, inr_yes g.2] at h; cases h
    · rw [hq2.2 g.1] at h; cases h)
  have HY : Hid (q1 = true → q2 = true → q = true) := fun h1 h2 => hq.2 ⟨hq2.1 h2, of_inr (HQ1.out.trans h1)⟩
  clear hq hq2 hm hw hs HQ1
  go_enter Tryz.func51, Tryz.ntmps51
  go_wp2_with (first | (refine wpList_load_row rfl 33 (.tmp 2) rfl w.heap.size rfl 33 (tbA t a) (0, 0) _ HX0.out Tryz.underlying33 rfl (by kernel_rfl) ?_) | fail)
  refine Calls.mono HS.out ?_
  rintro e w1 ⟨rfl, hb1⟩
  have HB1 : Hid (Below w.heap.size w w1) := HB0.out.trans (hb1.mono HB0.out.size)
  clear hb1 HB0 HX0 HS
  cases q2
  · have HT : Hid (q = false) := HN.out (.inr (by trivial))
    go_wp2
    go_ret
    exact ⟨ret_bool HT.out.symm, HB1.out⟩
  go_wp2_with fail
  refine Calls.mono (HI.out _) ?_
  rintro e w2 ⟨rfl, rfl⟩
  have HT : Hid (q1 = q) := by
    cases q1
    · exact (HN.out (.inl (by first | rfl | trivial))).symm
    · exact (HY.out (by first | rfl | trivial) (by first | rfl | trivial)).symm
  clear HN HY HI
  go_wp2
  go_ret
  exact ⟨ret_bool HT.out, HB1.out⟩
set_option maxRecDepth 40000 in
set_option maxHeartbeats 4000000 in
theorem frame_of (t : Tb) (a : Ad) (c r : Int) (w : World) (hm1 : 1 ≤ t.maj) (hc : 0 ≤ c) (hc2 : c ≤ 1000000) (hr : c / t.maj = r) :
    Calls Tryz.prog 85 #[tbV t a, .int .i64 c] w fun e w' => e = .returned (.int .i64 r) ∧ Below w.heap.size w w' := by
  have HB0 : Hid (Below w.heap.size w (w.alloc (.cells (tbA t a) 33))) := (Below.refl _ _).alloc (Nat.le_refl _) _
  have HX0 : Hid (TBx (w.alloc (.cells (tbA t a) 33)) w.heap.size t a) := TBx.new w t a _ rfl
  have k14 : (w.alloc (.cells (tbA t a) 33)).cell? ⟨w.heap.size, 14, none⟩ = some (.int .i64 t.maj) := HX0.out.cell 14 rfl
  have hm0 : ¬ (t.maj = 0) := by omega
  have HR : Hid (c / t.maj = r) := hr
  clear hr HX0
  go_enter Tryz.func85, Tryz.ntmps85
  go_wp2
  go_ret
  exact ⟨ret_int (HR.out), HB0.out⟩
set_option maxRecDepth 40000 in
set_option maxHeartbeats 4000000 in
theorem place_of (t : Tb) (a : Ad) (c r : Int) (w : World) (hm1 : 1 ≤ t.maj) (hc : 0 ≤ c) (hc2 : c ≤ 1000000) (hr : c % t.maj = r) :
    Calls Tryz.prog 87 #[tbV t a, .int .i64 c] w fun e w' => e = .returned (.int .i64 r) ∧ Below w.heap.size w w' := by
  have HB0 : Hid (Below w.heap.size w (w.alloc (.cells (tbA t a) 33))) := (Below.refl _ _).alloc (Nat.le_refl _) _
  have HX0 : Hid (TBx (w.alloc (.cells (tbA t a) 33)) w.heap.size t a) := TBx.new w t a _ rfl
  have k14 : (w.alloc (.cells (tbA t a) 33)).cell? ⟨w.heap.size, 14, none⟩ = some (.int .i64 t.maj) := HX0.out.cell 14 rfl
  have hm0 : ¬ (t.maj = 0) := by omega
  have HR : Hid (c % t.maj = r) := hr
  clear hr HX0
  go_enter Tryz.func87, Tryz.ntmps87
  go_wp2
  go_ret
  exact ⟨ret_int (HR.out), HB0.out⟩
end Go.Proofs.YtlomcdgfcocmmaaGreatDoor
