
/-
  What is near, right for the tables or not: the program's own answer. Conditions: the lists lie in memory.
-/
import Derived.Test.YtknipnenipdgiaaGreatDoorBas
import Derived.Test.YtknipnenipdgiaaGreatDoorDke
import Derived.Test.YtknipnenipdgiaaGreatDoorCke
import Derived.Test.YtknipnenipdgiaaGreatDoorTke
import Derived.Test.YtknipnenipdgiaaGreatDoorHoe
namespace Go.Proofs.YtknipnenipdgiaaGreatDoor
open Go.ChangeShapes Go.WideShapes Go.ChangeAt Go.RowKit Go.Deep Go.Joins
set_option linter.unusedVariables false

def NearP (t : Tb) (cs cy cl ts : Int) (kn : Nat) (E : Nat → List Wy) (Z : List Int) : Prop := Cw.CacheOkP cs cy cl kn E ∧ (cs = t.s1 ∧ cy = t.s2 ∧ cl = t.s3) ∧ Tq.TlbOkP ts Z ∧ ts = t.tlb
set_option maxRecDepth 40000 in
set_option maxHeartbeats 8000000 in
theorem near_ok (t : Tb) (a : Ad) (cs cy cl : Int) (ka : Option Addr) (kn kc : Nat) (ts : Int) (ta : Option Addr) (tn tc : Nat) (E : Nat → List Wy) (Z : List Int) (q : Bool) (w : World) (hc : RSeg w ka kn E) (hkn : kn ≤ 1048576) (hE : tot E kn ≤ 1048576) (hz : Seg .i64 w ta Z) (hl : Z.length = tn) (htn : tn ≤ 1048576) (htc : tn ≤ tc) (hq : q = true ↔ NearP t cs cy cl ts kn E Z) :
    Calls Tryz.prog 65 #[tbV t a, .agg #[.int .i64 cs, .int .i64 cy, .int .i64 cl, .slice ka kn kc], .agg #[.int .i64 ts, .slice ta tn tc]] w fun e w' => e = .returned (.bool q) ∧ Below w.heap.size w w' := by
  have hb2 : Below ((w.alloc (.cells (tbA t a) 60)).alloc (.cells #[.int .i64 cs, .int .i64 cy, .int .i64 cl, .slice ka kn kc] 67)).heap.size ((w.alloc (.cells (tbA t a) 60)).alloc (.cells #[.int .i64 cs, .int .i64 cy, .int .i64 cl, .slice ka kn kc] 67)) (((w.alloc (.cells (tbA t a) 60)).alloc (.cells #[.int .i64 cs, .int .i64 cy, .int .i64 cl, .slice ka kn kc] 67)).alloc (.cells #[.int .i64 ts, .slice ta tn tc] 68)) := (Below.refl _ _).alloc (Nat.le_refl _) _
  have HB0 : Hid (Below w.heap.size w (((w.alloc (.cells (tbA t a) 60)).alloc (.cells #[.int .i64 cs, .int .i64 cy, .int .i64 cl, .slice ka kn kc] 67)).alloc (.cells #[.int .i64 ts, .slice ta tn tc] 68))) := (((Below.refl _ _).alloc (Nat.le_refl _) _).alloc (by simp) _).alloc (by simp; omega) _
  have HX0 : Hid (TBx (((w.alloc (.cells (tbA t a) 60)).alloc (.cells #[.int .i64 cs, .int .i64 cy, .int .i64 cl, .slice ka kn kc] 67)).alloc (.cells #[.int .i64 ts, .slice ta tn tc] 68)) w.heap.size t a) := ((TBx.new w t a _ rfl).below ((Below.refl _ _).alloc (Nat.le_refl _) _)).below hb2
  have KC : Hid (CellsAt (((w.alloc (.cells (tbA t a) 60)).alloc (.cells #[.int .i64 cs, .int .i64 cy, .int .i64 cl, .slice ka kn kc] 67)).alloc (.cells #[.int .i64 ts, .slice ta tn tc] 68)) (w.heap.size + 1) 0 [.int .i64 cs, .int .i64 cy, .int .i64 cl, .slice ka kn kc]) := (CellsAt.new (w.alloc (.cells (tbA t a) 60)) [.int .i64 cs, .int .i64 cy, .int .i64 cl, .slice ka kn kc] _ _ (by simp)).alloc _
  have KT : Hid (CellsAt (((w.alloc (.cells (tbA t a) 60)).alloc (.cells #[.int .i64 cs, .int .i64 cy, .int .i64 cl, .slice ka kn kc] 67)).alloc (.cells #[.int .i64 ts, .slice ta tn tc] 68)) (w.heap.size + 2) 0 [.int .i64 ts, .slice ta tn tc]) := CellsAt.new ((w.alloc (.cells (tbA t a) 60)).alloc (.cells #[.int .i64 cs, .int .i64 cy, .int .i64 cl, .slice ka kn kc] 67)) [.int .i64 ts, .slice ta tn tc] _ _ (by simp)
  obtain ⟨q1, hq1⟩ := told (Cw.CacheOkP cs cy cl kn E)
  obtain ⟨q3, hq3⟩ := told (Tq.TlbOkP ts Z)
  have HCK : Hid (∀ X, Below w.heap.size w X → Calls Tryz.prog 141 #[.agg #[.int .i64 cs, .int .i64 cy, .int .i64 cl, .slice ka kn kc]] X fun e w' => e = .returned (.bool q1) ∧ Below X.heap.size X w') := fun X hX => Cw.impl_cachek cs cy cl ka kc kn E X (RSeg.below hc hX) hkn hE q1 hq1
  have HTK : Hid (∀ X, Below w.heap.size w X → Calls Tryz.prog 142 #[.agg #[.int .i64 ts, .slice ta tn tc]] X fun e w' => e = .returned (.bool q3) ∧ Below X.heap.size X w') := fun X hX => Tq.impl_tok ts ta tc tn Z X (hz.below hX) hl htn htc q3 hq3
  have HQ : Hid (q = true ↔ NearP t cs cy cl ts kn E Z) := hq
  have HQ1 : Hid (q1 = true ↔ Cw.CacheOkP cs cy cl kn E) := hq1
  have HQ3 : Hid (q3 = true ↔ Tq.TlbOkP ts Z) := hq3
  have c0 : (((w.alloc (.cells (tbA t a) 60)).alloc (.cells #[.int .i64 cs, .int .i64 cy, .int .i64 cl, .slice ka kn kc] 67)).alloc (.cells #[.int .i64 ts, .slice ta tn tc] 68)).cell? ⟨w.heap.size + 1, 0, none⟩ = some (.int .i64 cs) := KC.out 0 _ rfl
  have c1 : (((w.alloc (.cells (tbA t a) 60)).alloc (.cells #[.int .i64 cs, .int .i64 cy, .int .i64 cl, .slice ka kn kc] 67)).alloc (.cells #[.int .i64 ts, .slice ta tn tc] 68)).cell? ⟨w.heap.size + 1, 1, none⟩ = some (.int .i64 cy) := KC.out 1 _ rfl
  have c2 : (((w.alloc (.cells (tbA t a) 60)).alloc (.cells #[.int .i64 cs, .int .i64 cy, .int .i64 cl, .slice ka kn kc] 67)).alloc (.cells #[.int .i64 ts, .slice ta tn tc] 68)).cell? ⟨w.heap.size + 1, 2, none⟩ = some (.int .i64 cl) := KC.out 2 _ rfl
  have c3 : (((w.alloc (.cells (tbA t a) 60)).alloc (.cells #[.int .i64 cs, .int .i64 cy, .int .i64 cl, .slice ka kn kc] 67)).alloc (.cells #[.int .i64 ts, .slice ta tn tc] 68)).cell? ⟨w.heap.size + 1, 3, none⟩ = some (.slice ka kn kc) := KC.out 3 _ rfl
  clear hb2 hc hE hz hl hq hq1 hq3
  go_enter Tryz.func65, Tryz.ntmps65
  go_wp2_with fail
  refine Calls.mono (HCK.out _ HB0.out) ?_
  rintro e w1 ⟨rfl, hb1⟩
  have HB1 : Hid (Below w.heap.size w w1) := HB0.out.trans (hb1.mono HB0.out.size)
  have HX1 : Hid (TBx w1 w.heap.size t a) := HX0.out.below hb1
  have KC1 : Hid (CellsAt w1 (w.heap.size + 1) 0 [.int .i64 cs, .int .i64 cy, .int .i64 cl, .slice ka kn kc]) := KC.out.below hb1
  have KT1 : Hid (CellsAt w1 (w.heap.size + 2) 0 [.int .i64 ts, .slice ta tn tc]) := KT.out.below hb1
  clear hb1 HB0 HX0 KC KT c0 c1 c2 c3 HCK
  cases q1
  · have HT : Hid (q = false) := not_true HQ.out (fun g => by have := HQ1.out.2 g.1; cases this)
    go_wp2
    go_ret
    exact ⟨ret_bool HT.out.symm, HB1.out⟩
  have HC : Hid (Cw.CacheOkP cs cy cl kn E) := HQ1.out.1 (by first | rfl | trivial)
  clear HQ1
  have d0 : w1.cell? ⟨w.heap.size + 1, 0, none⟩ = some (.int .i64 cs) := KC1.out 0 _ rfl
  have d1 : w1.cell? ⟨w.heap.size + 1, 1, none⟩ = some (.int .i64 cy) := KC1.out 1 _ rfl
  have d2 : w1.cell? ⟨w.heap.size + 1, 2, none⟩ = some (.int .i64 cl) := KC1.out 2 _ rfl
  have k1 : w1.cell? ⟨w.heap.size, 1, none⟩ = some (.int .i64 t.s1) := HX1.out.cell 1 rfl
  have k2 : w1.cell? ⟨w.heap.size, 2, none⟩ = some (.int .i64 t.s2) := HX1.out.cell 2 rfl
  have k3 : w1.cell? ⟨w.heap.size, 3, none⟩ = some (.int .i64 t.s3) := HX1.out.cell 3 rfl
  have t0 : w1.cell? ⟨w.heap.size + 2, 0, none⟩ = some (.int .i64 ts) := KT1.out 0 _ rfl
  have t1 : w1.cell? ⟨w.heap.size + 2, 1, none⟩ = some (.slice ta tn tc) := KT1.out 1 _ rfl
  by_cases n0 : cs = t.s1
  rotate_left
  · have HT : Hid (q = false) := not_true HQ.out (fun g => n0 g.2.1.1)
    have E0 : (cs == t.s1) = false := eqb_no n0
    go_wp2
    go_ret
    exact ⟨ret_bool HT.out.symm, HB1.out⟩
  have E0 : (cs == t.s1) = true := eqb_yes n0
  by_cases n1 : cy = t.s2
  rotate_left
  · have HT : Hid (q = false) := not_true HQ.out (fun g => n1 g.2.1.2.1)
    have E1 : (cy == t.s2) = false := eqb_no n1
    go_wp2
    go_ret
    exact ⟨ret_bool HT.out.symm, HB1.out⟩
  have E1 : (cy == t.s2) = true := eqb_yes n1
  by_cases n2 : cl = t.s3
  rotate_left
  · have HT : Hid (q = false) := not_true HQ.out (fun g => n2 g.2.1.2.2)
    have E2 : (cl == t.s3) = false := eqb_no n2
    go_wp2
    go_ret
    exact ⟨ret_bool HT.out.symm, HB1.out⟩
  have E2 : (cl == t.s3) = true := eqb_yes n2
  have HE : Hid (cs = t.s1 ∧ cy = t.s2 ∧ cl = t.s3) := ⟨n0, n1, n2⟩
  clear n0 n1 n2
  go_wp2_with fail
  refine Calls.mono (HTK.out _ HB1.out) ?_
  rintro e w2 ⟨rfl, hb2⟩
  have HB2 : Hid (Below w.heap.size w w2) := HB1.out.trans (hb2.mono HB1.out.size)
  have HX2 : Hid (TBx w2 w.heap.size t a) := HX1.out.below hb2
  have KT2 : Hid (CellsAt w2 (w.heap.size + 2) 0 [.int .i64 ts, .slice ta tn tc]) := KT1.out.below hb2
  clear hb2 HB1 HX1 KC1 KT1 d0 d1 d2 k1 k2 k3 t0 t1 HTK
  cases q3
  · have HT : Hid (q = false) := not_true HQ.out (fun g => by have := HQ3.out.2 g.2.2.1; cases this)
    go_wp2
    go_ret
    exact ⟨ret_bool HT.out.symm, HB2.out⟩
  have HZ : Hid (Tq.TlbOkP ts Z) := HQ3.out.1 (by first | rfl | trivial)
  have k4 : w2.cell? ⟨w.heap.size, 4, none⟩ = some (.int .i64 t.tlb) := HX2.out.cell 4 rfl
  have t0 : w2.cell? ⟨w.heap.size + 2, 0, none⟩ = some (.int .i64 ts) := KT2.out 0 _ rfl
  have HT : Hid ((ts == t.tlb) = q) := bool_is HQ.out (by rw [beq_iff_eq]; exact ⟨fun g => ⟨HC.out, HE.out, HZ.out, g⟩, fun g => g.2.2.2⟩)
  clear HQ3 HQ
  go_wp2
  go_ret
  exact ⟨ret_bool HT.out, HB2.out⟩
end Go.Proofs.YtknipnenipdgiaaGreatDoor
