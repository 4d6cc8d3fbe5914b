
/-
  Entries of a partition: each of its own right, each other one nothing: the program's loop over a list, whatever asks whose an entry is and whether it is right. Conditions: the lists lie in memory.
-/
import Derived.Test.YtknipnenipdgiaaGreatDoorBas
import Derived.Test.YtknipnenipdgiaaGreatDoorEbe
import Derived.Test.YtknipnenipdgiaaGreatDoorEnl
import Derived.Test.YtknipnenipdgiaaGreatDoorGen
import Derived.Shelf.Abstract
namespace Go.Proofs.YtknipnenipdgiaaGreatDoor
open Go.ChangeShapes Go.WideShapes Go.ChangeAt Go.RowKit Go.Deep Go.Joins
set_option linter.unusedVariables false

set_option maxRecDepth 40000 in
set_option maxHeartbeats 8000000 in
theorem zero_out (h : Int) (a : Option Addr) (n c : Nat) (q : Bool) (w : World) (hq : q = true ↔ (h = 0 ∧ n = 0)) : Calls Tryz.prog 380 #[.agg #[.int .i64 h, .slice a n c]] w fun e w' => e = .returned (.bool q) ∧ Below w.heap.size w w' := by
  have HB0 : Hid (Below w.heap.size w (w.alloc (.cells #[.int .i64 h, .slice a n c] 200))) := (Below.refl _ _).alloc (Nat.le_refl _) _
  by_cases h1 : h = 0
  · subst h1
    have HT : Hid (((n : Int) == 0) = q) := bool_is hq (by rw [beq_iff_eq]; omega)
    clear hq
    go_enter Tryz.func380, Tryz.ntmps380
    go_wp2
    go_ret
    exact ⟨ret_bool HT.out, HB0.out⟩
  · have HT : Hid (q = false) := not_true hq (fun g => h1 g.1)
    have he : (h == 0) = false := eqb_no h1
    clear hq h1
    go_enter Tryz.func380, Tryz.ntmps380
    go_wp2
    go_ret
    exact ⟨ret_bool HT.out.symm, HB0.out⟩
set_option maxRecDepth 40000 in
set_option maxHeartbeats 8000000 in
theorem zero_in (a : Option Addr) (n c : Nat) (q : Bool) (w : World) (hq : q = true ↔ n = 0) : Calls Tryz.prog 381 #[.agg #[.slice a n c]] w fun e w' => e = .returned (.bool q) ∧ Below w.heap.size w w' := by
  have HB0 : Hid (Below w.heap.size w (w.alloc (.cells #[.slice a n c] 202))) := (Below.refl _ _).alloc (Nat.le_refl _) _
  have HT : Hid (((n : Int) == 0) = q) := bool_is hq (by rw [beq_iff_eq]; omega)
  clear hq
  go_enter Tryz.func381, Tryz.ntmps381
  go_wp2
  go_ret
  exact ⟨ret_bool HT.out, HB0.out⟩
set_option maxRecDepth 40000 in
set_option maxHeartbeats 8000000 in
theorem zero_dev (a b : Option Addr) (n c m e : Nat) (q : Bool) (w : World) (hq : q = true ↔ (n = 0 ∧ m = 0)) : Calls Tryz.prog 379 #[.agg #[.slice a n c, .slice b m e]] w fun x w' => x = .returned (.bool q) ∧ Below w.heap.size w w' := by
  have HB0 : Hid (Below w.heap.size w (w.alloc (.cells #[.slice a n c, .slice b m e] 163))) := (Below.refl _ _).alloc (Nat.le_refl _) _
  by_cases h1 : (n : Int) = 0
  · have HT : Hid (((m : Int) == 0) = q) := bool_is hq (by rw [beq_iff_eq]; omega)
    have he : ((n : Int) == 0) = true := eqb_yes h1
    clear hq h1
    go_enter Tryz.func379, Tryz.ntmps379
    go_wp2
    go_ret
    exact ⟨ret_bool HT.out, HB0.out⟩
  · have HT : Hid (q = false) := not_true hq (fun g => h1 (by omega))
    have he : ((n : Int) == 0) = false := eqb_no h1
    clear hq h1
    go_enter Tryz.func379, Tryz.ntmps379
    go_wp2
    go_ret
    exact ⟨ret_bool HT.out.symm, HB0.out⟩
theorem mth_out (w : World) (hi : Int) (ai : Option Addr) (gl ci : Nat) : (method 466 200 (.agg #[.int .i64 hi, .slice ai gl ci]) "loop.example/g00076/impl.isZero").run Tryz.prog w = .ok (380, .agg #[.int .i64 hi, .slice ai gl ci]) w := by kernel_rfl
set_option maxRecDepth 40000 in
set_option maxHeartbeats 8000000 in
theorem ents_out (A : Option Addr) (cap n : Nat) (H : Nat → Int) (G : Nat → List Int) (O Rt : Nat → Bool) (q : Bool) (f1 f2 : Nat) (k1 k2 : Array Value) (w : World) (hs : OSeg w A n H G) (hn : n ≤ 1048576) (he1 : ∀ args (v : World), (callFunc f1 args).run Tryz.prog v = .ok (.enter f1 args) v) (he2 : ∀ args (v : World), (callFunc f2 args).run Tryz.prog v = .ok (.enter f2 args) v)
    (h1 : ∀ i, i < n → ∀ X, Below w.heap.size w X → Calls Tryz.prog f1 (#[.int .i64 (i : Int)] ++ k1) X fun e w' => e = .returned (.bool (O i)) ∧ Below X.heap.size X w')
    (h2 : ∀ i, i < n → ∀ X, Below w.heap.size w X → ∀ (ai : Option Addr) (ci : Nat), Calls Tryz.prog f2 (#[.int .i64 (i : Int), .agg #[.int .i64 (H i), .slice ai (G i).length ci]] ++ k2) X fun e w' => e = .returned (.bool (Rt i)) ∧ Below X.heap.size X w')
    (hq : q = true ↔ ∀ i, i < n → ((O i = true → Rt i = true) ∧ (O i = false → H i = 0 ∧ (G i).length = 0))) :
    Calls Tryz.prog 143 #[.slice A n cap, .func (.func f1) #[] k1, .func (.func f2) #[] k2] w fun e w' => e = .returned (.bool q) ∧ Below w.heap.size w w' := by
  have HS : Hid (OSeg w A n H G) := hs
  have H1 : Hid (∀ i, i < n → ∀ X, Below w.heap.size w X → Calls Tryz.prog f1 (#[.int .i64 (i : Int)] ++ k1) X fun e w' => e = .returned (.bool (O i)) ∧ Below X.heap.size X w') := h1
  have H2 : Hid (∀ i, i < n → ∀ X, Below w.heap.size w X → ∀ (ai : Option Addr) (ci : Nat), Calls Tryz.prog f2 (#[.int .i64 (i : Int), .agg #[.int .i64 (H i), .slice ai (G i).length ci]] ++ k2) X fun e w' => e = .returned (.bool (Rt i)) ∧ Below X.heap.size X w') := h2
  have HQ : Hid (q = true ↔ ∀ i, i < n → ((O i = true → Rt i = true) ∧ (O i = false → H i = 0 ∧ (G i).length = 0))) := hq
  clear hs h1 h2 hq
  go_enter Tryz.func143, Tryz.ntmps143
  go_wp2
  go_loopw [11] (fun i wr => ∃ m : Nat, m ≤ n ∧ i = .int .i64 m ∧ Hid (Below w.heap.size w wr ∧ ∀ i, i < m → ((O i = true → Rt i = true) ∧ (O i = false → H i = 0 ∧ (G i).length = 0)))) (fun i _ => n - (intOf i).toNat)
  case atStart => exact ⟨0, by omega, rfl, Below.refl _ _, fun i hi => absurd hi (by omega)⟩
  case round =>
    obtain ⟨m, hm, rfl, HR⟩ := hrel
    by_cases hmn : m < n
    rotate_left
    · obtain rfl : m = n := by omega
      have HT : Hid (q = true) := HQ.out.2 HR.out.2
      go_wp2
      go_ret
      exact ⟨ret_bool HT.out.symm, HR.out.1⟩
    have hmn' : (m : Int) < (n : Int) := by omega
    obtain ⟨b1, o1, ai, ci, rfl, hbl1, p0, p1, _⟩ := OSeg.at HS.out m hmn
    replace p0 := (HR.out.1.cell (p := ⟨b1, o1 + m * 2, none⟩) hbl1).trans p0
    replace p1 := (HR.out.1.cell (p := ⟨b1, o1 + m * 2 + 1, none⟩) hbl1).trans p1
    have HO : Hid _ := H1.out m hmn
    have HRm : Hid _ := fun X hX => H2.out m hmn X hX ai ci
    obtain ⟨z, hz⟩ := told (H m = 0 ∧ (G m).length = 0)
    have HZm : Hid (∀ X, Calls Tryz.prog 380 #[.agg #[.int .i64 (H m), .slice ai (G m).length ci]] X fun e w' => e = .returned (.bool z) ∧ Below X.heap.size X w') := fun X => zero_out (H m) ai (G m).length ci z X hz
    have HNX : Hid ((O m = true → Rt m = true) → (O m = false → z = true) → ∀ i, i < m + 1 → ((O i = true → Rt i = true) ∧ (O i = false → H i = 0 ∧ (G i).length = 0))) := fun g1 g2 i hi => by
      by_cases e : i = m
      · subst e; exact ⟨g1, fun g => hz.1 (g2 g)⟩
      · exact HR.out.2 i (by omega)
    have HNO : Hid (¬ ((O m = true → Rt m = true) ∧ (O m = false → z = true)) → q = false) := fun g => not_true HQ.out (fun g9 => g ⟨(g9 m hmn).1, fun g8 => hz.2 ((g9 m hmn).2 g8)⟩)
    have HBR : Hid (Below w.heap.size w wr) := HR.out.1
    clear HR hz
    generalize O m = om at HO HNX HNO
    generalize Rt m = rm at HRm HNX HNO
    generalize H m = hi at p0 HRm HZm
    generalize (G m).length = gl at p1 HRm HZm
    have HBA : Hid (Below w.heap.size w (wr.alloc (.cells #[.int .i64 hi, .slice ai gl ci] 200))) := HBR.out.alloc HBR.out.size _
    have KA : Hid (CellsAt (wr.alloc (.cells #[.int .i64 hi, .slice ai gl ci] 200)) wr.heap.size 0 [.int .i64 hi, .slice ai gl ci]) := CellsAt.new wr [.int .i64 hi, .slice ai gl ci] _ _ rfl
    have hmt := fun X => mth_out X hi ai gl ci
    clear hbl1
    go_wp2_with fail
    refine (HO.out _ HBA.out).mono ?_
    rintro u w1 ⟨rfl, hb1⟩
    have HB1 : Hid (Below w.heap.size w w1) := HBA.out.trans (hb1.mono HBA.out.size)
    have K1 : Hid (CellsAt w1 wr.heap.size 0 [.int .i64 hi, .slice ai gl ci]) := KA.out.below hb1
    clear hb1 HBA KA p0 p1
    have s0 : w1.cell? ⟨wr.heap.size, 0, none⟩ = some (.int .i64 hi) := K1.out 0 _ rfl
    have s1 : w1.cell? ⟨wr.heap.size, 1, none⟩ = some (.slice ai gl ci) := K1.out 1 _ rfl
    cases om
    · go_wp2_with fail
      refine (HO.out _ HB1.out).mono ?_
      rintro u w2 ⟨rfl, hb2⟩
      have HB2 : Hid (Below w.heap.size w w2) := HB1.out.trans (hb2.mono HB1.out.size)
      have K2 : Hid (CellsAt w2 wr.heap.size 0 [.int .i64 hi, .slice ai gl ci]) := K1.out.below hb2
      clear hb2 HB1 K1 s0 s1
      have s0 : w2.cell? ⟨wr.heap.size, 0, none⟩ = some (.int .i64 hi) := K2.out 0 _ rfl
      have s1 : w2.cell? ⟨wr.heap.size, 1, none⟩ = some (.slice ai gl ci) := K2.out 1 _ rfl
      go_wp2_with fail
      refine (HZm.out _).mono ?_
      rintro u w3 ⟨rfl, hb3⟩
      have HB3 : Hid (Below w.heap.size w w3) := HB2.out.trans (hb3.mono HB2.out.size)
      clear hb3 HB2 K2 s0 s1
      cases z
      · have HT : Hid (q = false) := HNO.out (fun g => by have := g.2 (by first | rfl | trivial); cases this)
        clear HNO HNX
        go_wp2
        go_ret
        exact ⟨ret_bool HT.out.symm, HB3.out⟩
      · have HT : Hid _ := HNX.out (fun g => by cases g) (fun _ => by first | rfl | trivial)
        clear HNO HNX
        go_wp2
        go_roundw
        case rel => exact ⟨m + 1, by omega, by go_num, HB3.out, HT.out⟩
        case measure => simp [intOf]; omega
    · go_wp2_with fail
      refine (HRm.out _ HB1.out).mono ?_
      rintro u w2 ⟨rfl, hb2⟩
      have HB2 : Hid (Below w.heap.size w w2) := HB1.out.trans (hb2.mono HB1.out.size)
      clear hb2 HB1 K1 s0 s1
      cases rm
      · have HT : Hid (q = false) := HNO.out (fun g => by have := g.1 (by first | rfl | trivial); cases this)
        clear HNO HNX
        go_wp2
        go_ret
        exact ⟨ret_bool HT.out.symm, HB2.out⟩
      · have HT : Hid _ := HNX.out (fun _ => by first | rfl | trivial) (fun g => by cases g)
        clear HNO HNX
        go_wp2_with fail
        refine (HO.out _ HB2.out).mono ?_
        rintro u w3 ⟨rfl, hb3⟩
        have HB3 : Hid (Below w.heap.size w w3) := HB2.out.trans (hb3.mono HB2.out.size)
        clear hb3 HB2
        go_wp2
        go_roundw
        case rel => exact ⟨m + 1, by omega, by go_num, HB3.out, HT.out⟩
        case measure => simp [intOf]; omega
theorem mth_in (w : World) (ai : Option Addr) (gl ci : Nat) : (method 466 202 (.agg #[.slice ai gl ci]) "loop.example/g00076/impl.isZero").run Tryz.prog w = .ok (381, .agg #[.slice ai gl ci]) w := by kernel_rfl
set_option maxRecDepth 40000 in
set_option maxHeartbeats 8000000 in
theorem ents_in (A : Option Addr) (cap n : Nat) (G : Nat → List Int) (O Rt : Nat → Bool) (q : Bool) (f1 f2 : Nat) (k1 k2 : Array Value) (w : World) (hs : ISeg w A n G) (hn : n ≤ 1048576) (he1 : ∀ args (v : World), (callFunc f1 args).run Tryz.prog v = .ok (.enter f1 args) v) (he2 : ∀ args (v : World), (callFunc f2 args).run Tryz.prog v = .ok (.enter f2 args) v)
    (h1 : ∀ i, i < n → ∀ X, Below w.heap.size w X → Calls Tryz.prog f1 (#[.int .i64 (i : Int)] ++ k1) X fun e w' => e = .returned (.bool (O i)) ∧ Below X.heap.size X w')
    (h2 : ∀ i, i < n → ∀ X, Below w.heap.size w X → ∀ (ai : Option Addr) (ci : Nat), Calls Tryz.prog f2 (#[.int .i64 (i : Int), .agg #[.slice ai (G i).length ci]] ++ k2) X fun e w' => e = .returned (.bool (Rt i)) ∧ Below X.heap.size X w')
    (hq : q = true ↔ ∀ i, i < n → ((O i = true → Rt i = true) ∧ (O i = false → (G i).length = 0))) :
    Calls Tryz.prog 148 #[.slice A n cap, .func (.func f1) #[] k1, .func (.func f2) #[] k2] w fun e w' => e = .returned (.bool q) ∧ Below w.heap.size w w' := by
  have HS : Hid (ISeg w A n G) := hs
  have H1 : Hid (∀ i, i < n → ∀ X, Below w.heap.size w X → Calls Tryz.prog f1 (#[.int .i64 (i : Int)] ++ k1) X fun e w' => e = .returned (.bool (O i)) ∧ Below X.heap.size X w') := h1
  have H2 : Hid (∀ i, i < n → ∀ X, Below w.heap.size w X → ∀ (ai : Option Addr) (ci : Nat), Calls Tryz.prog f2 (#[.int .i64 (i : Int), .agg #[.slice ai (G i).length ci]] ++ k2) X fun e w' => e = .returned (.bool (Rt i)) ∧ Below X.heap.size X w') := h2
  have HQ : Hid (q = true ↔ ∀ i, i < n → ((O i = true → Rt i = true) ∧ (O i = false → (G i).length = 0))) := hq
  clear hs h1 h2 hq
  go_enter Tryz.func148, Tryz.ntmps148
  go_wp2
  go_loopw [11] (fun i wr => ∃ m : Nat, m ≤ n ∧ i = .int .i64 m ∧ Hid (Below w.heap.size w wr ∧ ∀ i, i < m → ((O i = true → Rt i = true) ∧ (O i = false → (G i).length = 0)))) (fun i _ => n - (intOf i).toNat)
  case atStart => exact ⟨0, by omega, rfl, Below.refl _ _, fun i hi => absurd hi (by omega)⟩
  case round =>
    obtain ⟨m, hm, rfl, HR⟩ := hrel
    by_cases hmn : m < n
    rotate_left
    · obtain rfl : m = n := by omega
      have HT : Hid (q = true) := HQ.out.2 HR.out.2
      go_wp2
      go_ret
      exact ⟨ret_bool HT.out.symm, HR.out.1⟩
    have hmn' : (m : Int) < (n : Int) := by omega
    obtain ⟨b1, o1, ai, ci, rfl, hbl1, p0, _⟩ := ISeg.at HS.out m hmn
    replace p0 := (HR.out.1.cell (p := ⟨b1, o1 + m, none⟩) hbl1).trans p0
    have HO : Hid _ := H1.out m hmn
    have HRm : Hid _ := fun X hX => H2.out m hmn X hX ai ci
    obtain ⟨z, hz⟩ := told ((G m).length = 0)
    have HZm : Hid (∀ X, Calls Tryz.prog 381 #[.agg #[.slice ai (G m).length ci]] X fun e w' => e = .returned (.bool z) ∧ Below X.heap.size X w') := fun X => zero_in ai (G m).length ci z X hz
    have HNX : Hid ((O m = true → Rt m = true) → (O m = false → z = true) → ∀ i, i < m + 1 → ((O i = true → Rt i = true) ∧ (O i = false → (G i).length = 0))) := fun g1 g2 i hi => by
      by_cases e : i = m
      · subst e; exact ⟨g1, fun g => hz.1 (g2 g)⟩
      · exact HR.out.2 i (by omega)
    have HNO : Hid (¬ ((O m = true → Rt m = true) ∧ (O m = false → z = true)) → q = false) := fun g => not_true HQ.out (fun g9 => g ⟨(g9 m hmn).1, fun g8 => hz.2 ((g9 m hmn).2 g8)⟩)
    have HBR : Hid (Below w.heap.size w wr) := HR.out.1
    clear HR hz
    generalize O m = om at HO HNX HNO
    generalize Rt m = rm at HRm HNX HNO
    generalize (G m).length = gl at p0 HRm HZm
    have HBA : Hid (Below w.heap.size w (wr.alloc (.cells #[.slice ai gl ci] 202))) := HBR.out.alloc HBR.out.size _
    have KA : Hid (CellsAt (wr.alloc (.cells #[.slice ai gl ci] 202)) wr.heap.size 0 [.slice ai gl ci]) := CellsAt.new wr [.slice ai gl ci] _ _ rfl
    have hmt := fun X => mth_in X ai gl ci
    clear hbl1
    go_wp2_with fail
    refine (HO.out _ HBA.out).mono ?_
    rintro u w1 ⟨rfl, hb1⟩
    have HB1 : Hid (Below w.heap.size w w1) := HBA.out.trans (hb1.mono HBA.out.size)
    have K1 : Hid (CellsAt w1 wr.heap.size 0 [.slice ai gl ci]) := KA.out.below hb1
    clear hb1 HBA KA p0
    have s0 : w1.cell? ⟨wr.heap.size, 0, none⟩ = some (.slice ai gl ci) := K1.out 0 _ rfl
    cases om
    · go_wp2_with fail
      refine (HO.out _ HB1.out).mono ?_
      rintro u w2 ⟨rfl, hb2⟩
      have HB2 : Hid (Below w.heap.size w w2) := HB1.out.trans (hb2.mono HB1.out.size)
      have K2 : Hid (CellsAt w2 wr.heap.size 0 [.slice ai gl ci]) := K1.out.below hb2
      clear hb2 HB1 K1 s0
      have s0 : w2.cell? ⟨wr.heap.size, 0, none⟩ = some (.slice ai gl ci) := K2.out 0 _ rfl
      go_wp2_with fail
      refine (HZm.out _).mono ?_
      rintro u w3 ⟨rfl, hb3⟩
      have HB3 : Hid (Below w.heap.size w w3) := HB2.out.trans (hb3.mono HB2.out.size)
      clear hb3 HB2 K2 s0
      cases z
      · have HT : Hid (q = false) := HNO.out (fun g => by have := g.2 (by first | rfl | trivial); cases this)
        clear HNO HNX
        go_wp2
        go_ret
        exact ⟨ret_bool HT.out.symm, HB3.out⟩
      · have HT : Hid _ := HNX.out (fun g => by cases g) (fun _ => by first | rfl | trivial)
        clear HNO HNX
        go_wp2
        go_roundw
        case rel => exact ⟨m + 1, by omega, by go_num, HB3.out, HT.out⟩
        case measure => simp [intOf]; omega
    · go_wp2_with fail
      refine (HRm.out _ HB1.out).mono ?_
      rintro u w2 ⟨rfl, hb2⟩
      have HB2 : Hid (Below w.heap.size w w2) := HB1.out.trans (hb2.mono HB1.out.size)
      clear hb2 HB1 K1 s0
      cases rm
      · have HT : Hid (q = false) := HNO.out (fun g => by have := g.1 (by first | rfl | trivial); cases this)
        clear HNO HNX
        go_wp2
        go_ret
        exact ⟨ret_bool HT.out.symm, HB2.out⟩
      · have HT : Hid _ := HNX.out (fun _ => by first | rfl | trivial) (fun g => by cases g)
        clear HNO HNX
        go_wp2_with fail
        refine (HO.out _ HB2.out).mono ?_
        rintro u w3 ⟨rfl, hb3⟩
        have HB3 : Hid (Below w.heap.size w w3) := HB2.out.trans (hb3.mono HB2.out.size)
        clear hb3 HB2
        go_wp2
        go_roundw
        case rel => exact ⟨m + 1, by omega, by go_num, HB3.out, HT.out⟩
        case measure => simp [intOf]; omega
theorem mth_dev (w : World) (ai : Option Addr) (gl ci : Nat) (bi : Option Addr) (ul di : Nat) : (method 466 163 (.agg #[.slice ai gl ci, .slice bi ul di]) "loop.example/g00076/impl.isZero").run Tryz.prog w = .ok (379, .agg #[.slice ai gl ci, .slice bi ul di]) w := by kernel_rfl
set_option maxRecDepth 40000 in
set_option maxHeartbeats 8000000 in
theorem ents_dev (A : Option Addr) (cap n : Nat) (G U : Nat → List Int) (O Rt : Nat → Bool) (q : Bool) (f1 f2 : Nat) (k1 k2 : Array Value) (w : World) (hs : VSeg w A n G U) (hn : n ≤ 1048576) (he1 : ∀ args (v : World), (callFunc f1 args).run Tryz.prog v = .ok (.enter f1 args) v) (he2 : ∀ args (v : World), (callFunc f2 args).run Tryz.prog v = .ok (.enter f2 args) v)
    (h1 : ∀ i, i < n → ∀ X, Below w.heap.size w X → Calls Tryz.prog f1 (#[.int .i64 (i : Int)] ++ k1) X fun e w' => e = .returned (.bool (O i)) ∧ Below X.heap.size X w')
    (h2 : ∀ i, i < n → ∀ X, Below w.heap.size w X → ∀ (ai : Option Addr) (ci : Nat) (bi : Option Addr) (di : Nat), Calls Tryz.prog f2 (#[.int .i64 (i : Int), .agg #[.slice ai (G i).length ci, .slice bi (U i).length di]] ++ k2) X fun e w' => e = .returned (.bool (Rt i)) ∧ Below X.heap.size X w')
    (hq : q = true ↔ ∀ i, i < n → ((O i = true → Rt i = true) ∧ (O i = false → (G i).length = 0 ∧ (U i).length = 0))) :
    Calls Tryz.prog 154 #[.slice A n cap, .func (.func f1) #[] k1, .func (.func f2) #[] k2] w fun e w' => e = .returned (.bool q) ∧ Below w.heap.size w w' := by
  have HS : Hid (VSeg w A n G U) := hs
  have H1 : Hid (∀ i, i < n → ∀ X, Below w.heap.size w X → Calls Tryz.prog f1 (#[.int .i64 (i : Int)] ++ k1) X fun e w' => e = .returned (.bool (O i)) ∧ Below X.heap.size X w') := h1
  have H2 : Hid (∀ i, i < n → ∀ X, Below w.heap.size w X → ∀ (ai : Option Addr) (ci : Nat) (bi : Option Addr) (di : Nat), Calls Tryz.prog f2 (#[.int .i64 (i : Int), .agg #[.slice ai (G i).length ci, .slice bi (U i).length di]] ++ k2) X fun e w' => e = .returned (.bool (Rt i)) ∧ Below X.heap.size X w') := h2
  have HQ : Hid (q = true ↔ ∀ i, i < n → ((O i = true → Rt i = true) ∧ (O i = false → (G i).length = 0 ∧ (U i).length = 0))) := hq
  clear hs h1 h2 hq
  go_enter Tryz.func154, Tryz.ntmps154
  go_wp2
  go_loopw [11] (fun i wr => ∃ m : Nat, m ≤ n ∧ i = .int .i64 m ∧ Hid (Below w.heap.size w wr ∧ ∀ i, i < m → ((O i = true → Rt i = true) ∧ (O i = false → (G i).length = 0 ∧ (U i).length = 0)))) (fun i _ => n - (intOf i).toNat)
  case atStart => exact ⟨0, by omega, rfl, Below.refl _ _, fun i hi => absurd hi (by omega)⟩
  case round =>
    obtain ⟨m, hm, rfl, HR⟩ := hrel
    by_cases hmn : m < n
    rotate_left
    · obtain rfl : m = n := by omega
      have HT : Hid (q = true) := HQ.out.2 HR.out.2
      go_wp2
      go_ret
      exact ⟨ret_bool HT.out.symm, HR.out.1⟩
    have hmn' : (m : Int) < (n : Int) := by omega
    obtain ⟨b1, o1, ai, ci, bi, di, rfl, hbl1, p0, p1, _⟩ := VSeg.at HS.out m hmn
    replace p0 := (HR.out.1.cell (p := ⟨b1, o1 + m * 2, none⟩) hbl1).trans p0
    replace p1 := (HR.out.1.cell (p := ⟨b1, o1 + m * 2 + 1, none⟩) hbl1).trans p1
    have HO : Hid _ := H1.out m hmn
    have HRm : Hid _ := fun X hX => H2.out m hmn X hX ai ci bi di
    obtain ⟨z, hz⟩ := told ((G m).length = 0 ∧ (U m).length = 0)
    have HZm : Hid (∀ X, Calls Tryz.prog 379 #[.agg #[.slice ai (G m).length ci, .slice bi (U m).length di]] X fun e w' => e = .returned (.bool z) ∧ Below X.heap.size X w') := fun X => zero_dev ai bi (G m).length ci (U m).length di z X hz
    have HNX : Hid ((O m = true → Rt m = true) → (O m = false → z = true) → ∀ i, i < m + 1 → ((O i = true → Rt i = true) ∧ (O i = false → (G i).length = 0 ∧ (U i).length = 0))) := fun g1 g2 i hi => by
      by_cases e : i = m
      · subst e; exact ⟨g1, fun g => hz.1 (g2 g)⟩
      · exact HR.out.2 i (by omega)
    have HNO : Hid (¬ ((O m = true → Rt m = true) ∧ (O m = false → z = true)) → q = false) := fun g => not_true HQ.out (fun g9 => g ⟨(g9 m hmn).1, fun g8 => hz.2 ((g9 m hmn).2 g8)⟩)
    have HBR : Hid (Below w.heap.size w wr) := HR.out.1
    clear HR hz
    generalize O m = om at HO HNX HNO
    generalize Rt m = rm at HRm HNX HNO
    generalize (G m).length = gl at p0 HRm HZm
    generalize (U m).length = ul at p1 HRm HZm
    have HBA : Hid (Below w.heap.size w (wr.alloc (.cells #[.slice ai gl ci, .slice bi ul di] 163))) := HBR.out.alloc HBR.out.size _
    have KA : Hid (CellsAt (wr.alloc (.cells #[.slice ai gl ci, .slice bi ul di] 163)) wr.heap.size 0 [.slice ai gl ci, .slice bi ul di]) := CellsAt.new wr [.slice ai gl ci, .slice bi ul di] _ _ rfl
    have hmt := fun X => mth_dev X ai gl ci bi ul di
    clear hbl1
    go_wp2_with fail
    refine (HO.out _ HBA.out).mono ?_
    rintro u w1 ⟨rfl, hb1⟩
    have HB1 : Hid (Below w.heap.size w w1) := HBA.out.trans (hb1.mono HBA.out.size)
    have K1 : Hid (CellsAt w1 wr.heap.size 0 [.slice ai gl ci, .slice bi ul di]) := KA.out.below hb1
    clear hb1 HBA KA p0 p1
    have s0 : w1.cell? ⟨wr.heap.size, 0, none⟩ = some (.slice ai gl ci) := K1.out 0 _ rfl
    have s1 : w1.cell? ⟨wr.heap.size, 1, none⟩ = some (.slice bi ul di) := K1.out 1 _ rfl
    cases om
    · go_wp2_with fail
      refine (HO.out _ HB1.out).mono ?_
      rintro u w2 ⟨rfl, hb2⟩
      have HB2 : Hid (Below w.heap.size w w2) := HB1.out.trans (hb2.mono HB1.out.size)
      have K2 : Hid (CellsAt w2 wr.heap.size 0 [.slice ai gl ci, .slice bi ul di]) := K1.out.below hb2
      clear hb2 HB1 K1 s0 s1
      have s0 : w2.cell? ⟨wr.heap.size, 0, none⟩ = some (.slice ai gl ci) := K2.out 0 _ rfl
      have s1 : w2.cell? ⟨wr.heap.size, 1, none⟩ = some (.slice bi ul di) := K2.out 1 _ rfl
      go_wp2_with fail
      refine (HZm.out _).mono ?_
      rintro u w3 ⟨rfl, hb3⟩
      have HB3 : Hid (Below w.heap.size w w3) := HB2.out.trans (hb3.mono HB2.out.size)
      clear hb3 HB2 K2 s0 s1
      cases z
      · have HT : Hid (q = false) := HNO.out (fun g => by have := g.2 (by first | rfl | trivial); cases this)
        clear HNO HNX
        go_wp2
        go_ret
        exact ⟨ret_bool HT.out.symm, HB3.out⟩
      · have HT : Hid _ := HNX.out (fun g => by cases g) (fun _ => by first | rfl | trivial)
        clear HNO HNX
        go_wp2
        go_roundw
        case rel => exact ⟨m + 1, by omega, by go_num, HB3.out, HT.out⟩
        case measure => simp [intOf]; omega
    · go_wp2_with fail
      refine (HRm.out _ HB1.out).mono ?_
      rintro u w2 ⟨rfl, hb2⟩
      have HB2 : Hid (Below w.heap.size w w2) := HB1.out.trans (hb2.mono HB1.out.size)
      clear hb2 HB1 K1 s0 s1
      cases rm
      · have HT : Hid (q = false) := HNO.out (fun g => by have := g.1 (by first | rfl | trivial); cases this)
        clear HNO HNX
        go_wp2
        go_ret
        exact ⟨ret_bool HT.out.symm, HB2.out⟩
      · have HT : Hid _ := HNX.out (fun _ => by first | rfl | trivial) (fun g => by cases g)
        clear HNO HNX
        go_wp2_with fail
        refine (HO.out _ HB2.out).mono ?_
        rintro u w3 ⟨rfl, hb3⟩
        have HB3 : Hid (Below w.heap.size w w3) := HB2.out.trans (hb3.mono HB2.out.size)
        clear hb3 HB2
        go_wp2
        go_roundw
        case rel => exact ⟨m + 1, by omega, by go_num, HB3.out, HT.out⟩
        case measure => simp [intOf]; omega
end Go.Proofs.YtknipnenipdgiaaGreatDoor
