/-
  The cycles that the spans of a list have with a part and a phase, on plain numbers; the specification and the program tell the same. Conditions: lists are at most as long as 64 bits count.
  Whether a span says what its cycles are in: on plain numbers, and the program's walk. Conditions: the lists lie in memory, the tables are sound.
  The phase and the partition at a cycle, and the spans of the cycles between two, by the specification. Conditions: the lists lie in memory.
  The first span that does not say what its cycles are in: the program's and the specification's. Conditions: the lists lie in memory; lengths are at most 1048576.
  The spans of the cycles between two by the specification, cycle by cycle. Conditions: the lists lie in memory.
  The spans of the cycles between two: the law, walked. Conditions: the lists lie in memory; the program's table of extras holds what the program's text lays.
  Lists of spans held against each other, and whether a list is the spans of the cycles between two: the program's and the specification's. Conditions: the lists lie in memory; lengths are at most 1048576.
  The spans of drawn cycles say what they are; one that is turned does not: plain facts. No function of the program in sight; no conditions but those that each fact names.
-/
import Derived.Test.YtlomcdgfcocmmaaGreatDoorBas
import Derived.Test.YtlomcdgfcocmmaaGreatDoorJa1
import Derived.Test.YtlomcdgfcocmmaaGreatDoorTia
import Derived.Test.YtlomcdgfcocmmaaGreatDoorTif
import Derived.Test.YtlomcdgfcocmmaaGreatDoorRl3
import Derived.Test.YtlomcdgfcocmmaaGreatDoorSp6
import Derived.Test.YtlomcdgfcocmmaaGreatDoorLsw
import Derived.Test.YtlomcdgfcocmmaaGreatDoorMkt
namespace Go.Proofs.YtlomcdgfcocmmaaGreatDoor
open Go.ChangeShapes Go.WideShapes Go.ChangeAt Go.RowKit Go.Deep Go.Joins
set_option linter.unusedVariables false

def saIn (p q : Int) (x : saT) : Prop := x.2.2.1 = p ∧ x.2.2.2 = q ∧ 0 ≤ x.1 ∧ x.1 ≤ x.2.1 ∧ x.2.1 ≤ 50000
instance (p q : Int) (x : saT) : Decidable (saIn p q x) := by unfold saIn; infer_instance
def smN (xs : List saT) (p q : Int) : Nat → Int
  | 0 => 0
  | m + 1 => if saIn p q (xs.getD m sa0) then smN xs p q m + (xs.getD m sa0).2.1 - (xs.getD m sa0).1 else smN xs p q m
def smV (xs : List saT) (p q : Int) (n : Nat) : Int := if n ≤ 5000 then smN xs p q n else 0
theorem sm_yes {xs : List saT} {p q : Int} {m : Nat} {x : saT} {v : Int} (hx : xs.getD m sa0 = x) (hv : v = smN xs p q m) (h : saIn p q x) : v + x.2.1 - x.1 = smN xs p q (m + 1) := by
  rw [smN, hx, ← hv, if_pos h]
theorem sm_no {xs : List saT} {p q : Int} {m : Nat} {x : saT} {v : Int} (hx : xs.getD m sa0 = x) (hv : v = smN xs p q m) (h : ¬ saIn p q x) : v = smN xs p q (m + 1) := by
  rw [smN, hx, ← hv, if_neg h]
theorem is_within (x1 x2 x3 x4 : Int) (w : World) : Calls Tryz.prog 58 #[.agg #[.int .i64 x1, .int .i64 x2, .int .i64 x3, .int .i64 x4]] w fun e w' => e = .returned (.bool (inr x1 0 50000 && inr x2 0 50000)) ∧ Below w.heap.size w w' := by
  have HF : Hid (∀ (x : Int) (X : World), Calls Tryz.prog 81 #[.int .i64 x] X fun e w' => e = .returned (.bool (inr x 0 50000)) ∧ w' = X) := is_cyc
  by_cases h1 : 0 ≤ x1 ∧ x1 ≤ 50000
  rotate_left
  · have k1 := inr_no h1
    rw [k1, Bool.false_and]
    clear h1
    go_enter Tryz.func58, Tryz.ntmps58
    go_wp2_with (first | (go_at_call 81; refine (HF.out _ _).mono ?_; rintro u w1 ⟨rfl, rfl⟩; rw [k1]))
    go_ret
    exact ⟨rfl, (Below.refl _ _).alloc (Nat.le_refl _) _⟩
  have k1 := inr_yes h1
  obtain ⟨q2, k2⟩ : ∃ q, inr x2 0 50000 = q := ⟨_, rfl⟩
  rw [k1, k2, Bool.true_and]
  clear h1
  go_enter Tryz.func58, Tryz.ntmps58
  go_wp2_with (first | (go_at_call 81; refine (HF.out _ _).mono ?_; rintro u w1 ⟨rfl, rfl⟩; first | rw [k1] | rw [k2]))
  go_ret
  exact ⟨rfl, (Below.refl _ _).alloc (Nat.le_refl _) _⟩
set_option maxRecDepth 20000 in
set_option maxHeartbeats 8000000 in
theorem impl_sum (a : Option Addr) (cap n : Nat) (xs : List saT) (p q : Int) (w : World) (hs : GSeg 4 w a n (saX xs)) (hn : n ≤ 9223372036854775807) :
    Calls Tryz.prog 25 #[.slice a n cap, .int .i64 p, .int .i64 q] w fun e w' => e = .returned (.int .i64 (smV xs p q n)) ∧ Below w.heap.size w w' := by
  have HS : Hid (GSeg 4 w a n (saX xs)) := hs
  clear hs
  by_cases hN : n ≤ 5000
  rotate_left
  · have hN' : (5000 : Int) < (n : Int) := by omega
    have HV : Hid (smV xs p q n = 0) := by show _ = _; unfold smV; rw [if_neg hN]
    rw [HV.out]
    go_enter Tryz.func25, Tryz.ntmps25
    go_wp2
    go_ret
    exact ⟨rfl, Below.refl _ _⟩
  have hN' : ¬ ((5000 : Int) < (n : Int)) := by omega
  have HV : Hid (smV xs p q n = smN xs p q n) := by show _ = _; unfold smV; rw [if_pos hN]
  obtain ⟨V, HVV⟩ : ∃ V : Int, Hid (smV xs p q n = V) := ⟨_, rfl⟩
  rw [HVV.out]
  replace HV : Hid (smN xs p q n = V) := HV.out.symm.trans HVV.out
  clear HVV
  go_enter Tryz.func25, Tryz.ntmps25
  go_wp2
  go_loopw [7, 15] (fun c i wr => ∃ (m : Nat) (v : Int), m ≤ n ∧ 0 ≤ v ∧ v ≤ 50000 * (m : Int) ∧ i = .int .i64 m ∧ c = .int .i64 v ∧ Hid (v = smN xs p q m ∧ Below w.heap.size w wr)) (fun _ i _ => n - (intOf i).toNat)
  case atStart => exact ⟨0, 0, by omega, by omega, by omega, rfl, rfl, rfl, Below.refl _ _⟩
  case round =>
    obtain ⟨m, v, hm, hv0, hv1, rfl, rfl, HR⟩ := hrel
    by_cases hmn : m < n
    rotate_left
    · obtain rfl : m = n := by omega
      have HT : Hid (v = V) := by show _ = _; rw [HR.out.1]; exact HV.out
      go_wp2
      go_ret
      exact ⟨by rw [HT.out]; rfl, HR.out.2⟩
    have hmn' : (m : Int) < (n : Int) := by omega
    obtain ⟨b1, o1, rfl, hbl1, p1⟩ := HS.out.at m hmn
    replace p1 := p1.of (w' := wr) (fun j => HR.out.2.cell (p := ⟨b1, j, none⟩) hbl1)
    obtain ⟨x, HX⟩ : ∃ x, Hid (xs.getD m sa0 = x) := ⟨_, rfl⟩
    have HY : Hid (saIn p q x → v + x.2.1 - x.1 = smN xs p q (m + 1)) := fun h => sm_yes HX.out HR.out.1 h
    have HZ : Hid (¬ saIn p q x → v = smN xs p q (m + 1)) := fun h => sm_no HX.out HR.out.1 h
    simp only [saX] at p1
    rw [HX.out] at p1
    obtain ⟨c0, c1, c2, c3⟩ := sa_cells p1
    obtain ⟨x1, x2, x3, x4⟩ := x
    simp only [saIn] at c0 c1 c2 c3 HY HZ
    clear p1 hbl1 HX
    have HB0 : Hid (Below w.heap.size w (wr.alloc (.cells #[.int .i64 x1, .int .i64 x2, .int .i64 x3, .int .i64 x4] 50))) := HR.out.2.alloc HR.out.2.size _
    clear HR
    by_cases h3 : x3 = p
    rotate_left
    · have HT : Hid (v = smN xs p q (m + 1)) := HZ.out (fun h => h3 h.1)
      have hq : (x3 == p) = false := by simpa using h3
      clear HY HZ
      go_wp2_with (first | (go_at_call 58; refine (HW.out _).mono ?_; rintro u w1 ⟨rfl, hbw⟩; have k0 : w1.cell? ⟨wr.heap.size, 0, none⟩ = some (.int .i64 x1) := (hbw.cell (p := ⟨wr.heap.size, 0, none⟩) (by simp)).trans (new_cell wr #[.int .i64 x1, .int .i64 x2, .int .i64 x3, .int .i64 x4] 50 0 _ rfl); have k1 : w1.cell? ⟨wr.heap.size, 1, none⟩ = some (.int .i64 x2) := (hbw.cell (p := ⟨wr.heap.size, 1, none⟩) (by simp)).trans (new_cell wr #[.int .i64 x1, .int .i64 x2, .int .i64 x3, .int .i64 x4] 50 1 _ rfl); have HBW : Hid (Below w.heap.size w w1) := HB0.out.trans (hbw.mono HB0.out.size); clear hbw) | fail)
      go_roundw
      case rel => exact ⟨m + 1, v, by omega, by omega, by omega, by go_num, by go_num, HT.out, HB0.out⟩
      case measure => simp [intOf]; omega
    by_cases h4 : x4 = q
    rotate_left
    · have HT : Hid (v = smN xs p q (m + 1)) := HZ.out (fun h => h4 h.2.1)
      have hq : (x4 == q) = false := by simpa using h4
      have hq3 : (x3 == p) = true := by simpa using h3
      clear HY HZ h3
      go_wp2_with (first | (go_at_call 58; refine (HW.out _).mono ?_; rintro u w1 ⟨rfl, hbw⟩; have k0 : w1.cell? ⟨wr.heap.size, 0, none⟩ = some (.int .i64 x1) := (hbw.cell (p := ⟨wr.heap.size, 0, none⟩) (by simp)).trans (new_cell wr #[.int .i64 x1, .int .i64 x2, .int .i64 x3, .int .i64 x4] 50 0 _ rfl); have k1 : w1.cell? ⟨wr.heap.size, 1, none⟩ = some (.int .i64 x2) := (hbw.cell (p := ⟨wr.heap.size, 1, none⟩) (by simp)).trans (new_cell wr #[.int .i64 x1, .int .i64 x2, .int .i64 x3, .int .i64 x4] 50 1 _ rfl); have HBW : Hid (Below w.heap.size w w1) := HB0.out.trans (hbw.mono HB0.out.size); clear hbw) | fail)
      go_roundw
      case rel => exact ⟨m + 1, v, by omega, by omega, by omega, by go_num, by go_num, HT.out, HB0.out⟩
      case measure => simp [intOf]; omega
    have hq3 : (x3 == p) = true := by simpa using h3
    have hq4 : (x4 == q) = true := by simpa using h4
    by_cases h5 : (0 ≤ x1 ∧ x1 ≤ 50000) ∧ (0 ≤ x2 ∧ x2 ≤ 50000)
    rotate_left
    · have HT : Hid (v = smN xs p q (m + 1)) := HZ.out (fun h => h5 ⟨⟨h.2.2.1, by have := h.2.2.2; omega⟩, by have := h.2.2; omega, h.2.2.2.2⟩)
      have HW : Hid (∀ X, Calls Tryz.prog 58 #[.agg #[.int .i64 x1, .int .i64 x2, .int .i64 x3, .int .i64 x4]] X fun e w' => e = .returned (.bool false) ∧ Below X.heap.size X w') := fun X => by
        have := is_within x1 x2 x3 x4 X
        rw [show (inr x1 0 50000 && inr x2 0 50000) = false by
          by_cases a : 0 ≤ x1 ∧ x1 ≤ 50000
          · rw [inr_yes a, inr_no (fun b => h5 ⟨a, b⟩)]; rfl
          · rw [inr_no a]; rfl] at this
        exact this
      clear HY HZ h3 h4 h5
      go_wp2_with (first | (go_at_call 58; refine (HW.out _).mono ?_; rintro u w1 ⟨rfl, hbw⟩; have k0 : w1.cell? ⟨wr.heap.size, 0, none⟩ = some (.int .i64 x1) := (hbw.cell (p := ⟨wr.heap.size, 0, none⟩) (by simp)).trans (new_cell wr #[.int .i64 x1, .int .i64 x2, .int .i64 x3, .int .i64 x4] 50 0 _ rfl); have k1 : w1.cell? ⟨wr.heap.size, 1, none⟩ = some (.int .i64 x2) := (hbw.cell (p := ⟨wr.heap.size, 1, none⟩) (by simp)).trans (new_cell wr #[.int .i64 x1, .int .i64 x2, .int .i64 x3, .int .i64 x4] 50 1 _ rfl); have HBW : Hid (Below w.heap.size w w1) := HB0.out.trans (hbw.mono HB0.out.size); clear hbw) | fail)
      go_roundw
      case rel => exact ⟨m + 1, v, by omega, by omega, by omega, by go_num, by go_num, HT.out, HBW.out⟩
      case measure => simp [intOf]; omega
    have HW : Hid (∀ X, Calls Tryz.prog 58 #[.agg #[.int .i64 x1, .int .i64 x2, .int .i64 x3, .int .i64 x4]] X fun e w' => e = .returned (.bool true) ∧ Below X.heap.size X w') := fun X => by
      have := is_within x1 x2 x3 x4 X
      rw [inr_yes h5.1, inr_yes h5.2] at this
      exact this
    by_cases h6 : x1 ≤ x2
    rotate_left
    · have HT : Hid (v = smN xs p q (m + 1)) := HZ.out (fun h => h6 h.2.2.2.1)
      clear HY HZ h3 h4 h5
      go_wp2_with (first | (go_at_call 58; refine (HW.out _).mono ?_; rintro u w1 ⟨rfl, hbw⟩; have k0 : w1.cell? ⟨wr.heap.size, 0, none⟩ = some (.int .i64 x1) := (hbw.cell (p := ⟨wr.heap.size, 0, none⟩) (by simp)).trans (new_cell wr #[.int .i64 x1, .int .i64 x2, .int .i64 x3, .int .i64 x4] 50 0 _ rfl); have k1 : w1.cell? ⟨wr.heap.size, 1, none⟩ = some (.int .i64 x2) := (hbw.cell (p := ⟨wr.heap.size, 1, none⟩) (by simp)).trans (new_cell wr #[.int .i64 x1, .int .i64 x2, .int .i64 x3, .int .i64 x4] 50 1 _ rfl); have HBW : Hid (Below w.heap.size w w1) := HB0.out.trans (hbw.mono HB0.out.size); clear hbw) | fail)
      go_roundw
      case rel => exact ⟨m + 1, v, by omega, by omega, by omega, by go_num, by go_num, HT.out, HBW.out⟩
      case measure => simp [intOf]; omega
    · have HT : Hid (v + (x2 - x1) = smN xs p q (m + 1)) := by have := HY.out ⟨h3, h4, h5.1.1, h6, h5.2.2⟩; show _ = _; omega
      have hw1 : IntKind.i64.wrap (x2 - x1) = x2 - x1 := by rw [IntKind.wrap_i64]; omega
      have hw2 : IntKind.i64.wrap (v + (x2 - x1)) = v + (x2 - x1) := by rw [IntKind.wrap_i64]; omega
      have h51 : 0 ≤ x1 := h5.1.1
      have h52 : x2 ≤ 50000 := h5.2.2
      clear HY HZ h3 h4 h5
      go_wp2_with (first | (go_at_call 58; refine (HW.out _).mono ?_; rintro u w1 ⟨rfl, hbw⟩; have k0 : w1.cell? ⟨wr.heap.size, 0, none⟩ = some (.int .i64 x1) := (hbw.cell (p := ⟨wr.heap.size, 0, none⟩) (by simp)).trans (new_cell wr #[.int .i64 x1, .int .i64 x2, .int .i64 x3, .int .i64 x4] 50 0 _ rfl); have k1 : w1.cell? ⟨wr.heap.size, 1, none⟩ = some (.int .i64 x2) := (hbw.cell (p := ⟨wr.heap.size, 1, none⟩) (by simp)).trans (new_cell wr #[.int .i64 x1, .int .i64 x2, .int .i64 x3, .int .i64 x4] 50 1 _ rfl); have HBW : Hid (Below w.heap.size w w1) := HB0.out.trans (hbw.mono HB0.out.size); clear hbw) | fail)
      go_roundw
      case rel => exact ⟨m + 1, v + (x2 - x1), by omega, by omega, by omega, by go_num, by go_num, HT.out, HBW.out⟩
      case measure => simp [intOf]; omega
end Go.Proofs.YtlomcdgfcocmmaaGreatDoor
namespace Go.Proofs.YtlomcdgfcocmmaaGreatDoor
open Go.ChangeShapes Go.WideShapes Go.ChangeAt Go.RowKit Go.Deep Go.Joins
set_option linter.unusedVariables false

/-- A cycle is in a phase, and in a partition's slot. -/
def InP (t : Tb) (p q c : Int) : Prop := phaseV t (c % t.maj) = q ∧ whoV t (c % t.maj) = p
def spGood (t : Tb) (x : saT) : Prop := (0 ≤ x.1 ∧ x.1 < x.2.1 ∧ x.2.1 ≤ 50000) ∧ ∀ c, x.1 ≤ c → c < x.2.1 → InP t x.2.2.1 x.2.2.2 c
noncomputable instance (t : Tb) (x : saT) : Decidable (spGood t x) := Classical.propDecidable _
theorem inp_run {t : Tb} {p q o r : Int} (h : RT t o r) (g : InP t p q o) : ∀ c, o ≤ c → c < r → InP t p q c := fun c h1 h2 => by
  obtain ⟨k, rfl⟩ : ∃ k : Nat, c = o + (k : Int) := ⟨(c - o).toNat, by omega⟩
  have := rt_const h k h2
  unfold InP at g ⊢
  unfold whoV at g ⊢
  rw [this.1, this.2]
  exact g

structure AS (w wr : World) (t : Tb) (a : Ad) (f u p q : Int) (B0 B1 B2 Nb : Nat) (b : Bool) (o r : Int) : Prop where
  bw : Below w.heap.size w wr
  it : Itr wr t a B0 B1 B2 o r u
  nb : w.heap.size < Nb ∧ Nb < wr.heap.size ∧ Nb ≠ B0 ∧ Nb ≠ B1 ∧ Nb ≠ B2
  bs : wr.heap[w.heap.size + 1]? = some (.cells #[.int .i64 f, .int .i64 u, .int .i64 p, .int .i64 q] 50 (0, 0))
  st : (b = true ∧ ∃ s : Int, wr.heap[Nb]? = some (.cells (spV t s (min o u)) 50 (0, 0)) ∧ f ≤ s ∧ s < u ∧ RT t s o ∧ ∀ c, f ≤ c → c < s → InP t p q c) ∨ (b = false ∧ ∀ c, f ≤ c → c < u → InP t p q c)
theorem as_end {w wr X w' : World} {t : Tb} {a : Ad} {f u p q o r s : Int} {B0 B1 B2 Nb : Nat} {cs : Array Value} (h : AS w wr t a f u p q B0 B1 B2 Nb true o r)
    (hk : f ≤ s ∧ s < u ∧ RT t s o ∧ ∀ c, f ≤ c → c < s → InP t p q c) (hg : InP t p q s) (hc : u ≤ o) (hsz : w.heap.size + 1 < wr.heap.size)
    (hX : X = wr.alloc (.cells cs 50)) (hb : Below X.heap.size X w') : AS w (w'.setRow wr.heap.size #[.int .i64 0, .int .i64 0, .int .i64 0, .int .i64 0]) t a f u p q B0 B1 B2 wr.heap.size false o r := by
  have hi0 := row_lt h.it.op
  have hi1 := row_lt h.it.to
  have hi2 : B2 < wr.heap.size := h.it.tb.lt
  have hal : Below wr.heap.size wr X := by rw [hX]; exact (Below.refl _ _).alloc (Nat.le_refl _) _
  have hXs : X.heap.size = wr.heap.size + 1 := by rw [hX]; simp
  have hb9 : Below wr.heap.size wr w' := hal.trans (hb.mono hal.size)
  have hblk : ∀ k, k < wr.heap.size → (w'.setRow wr.heap.size #[.int .i64 0, .int .i64 0, .int .i64 0, .int .i64 0]).heap[k]? = wr.heap[k]? := fun k hq => (setRow_other _ _ _ _ (by omega)).trans (hb9.block k hq)
  have hz : (w'.setRow wr.heap.size #[.int .i64 0, .int .i64 0, .int .i64 0, .int .i64 0]).heap.size = w'.heap.size := by simp [World.setRow]
  have hbs := hb.size
  refine ⟨⟨hb9.os.trans h.bw.os, hb9.tape.trans h.bw.tape, hb9.output.trans h.bw.output, by rw [hz]; have := h.bw.size; have := hb9.size; omega, fun k hq => (hblk k (Nat.lt_of_lt_of_le hq h.bw.size)).trans (h.bw.block k hq)⟩, h.it.grown (fun k hq => hblk k (by rcases hq with rfl | rfl | rfl <;> assumption)), ⟨by omega, by rw [hz]; omega, by omega, by omega, by omega⟩, (hblk _ hsz).trans h.bs, .inr ⟨rfl, fun c h1 h2 => ?_⟩⟩
  by_cases e : c < s
  · exact hk.2.2.2 c h1 e
  · exact inp_run hk.2.2.1 hg c (by omega) (by omega)
theorem as_more {w wr X w' : World} {t : Tb} {a : Ad} {f u p q o r r' s : Int} {B0 B1 B2 Nb : Nat} {cs : Array Value} (h : AS w wr t a f u p q B0 B1 B2 Nb true o r)
    (hk : f ≤ s ∧ s < u ∧ RT t s o ∧ ∀ c, f ≤ c → c < s → InP t p q c) (hg : InP t p q s) (hc : o < u) (hsz : w.heap.size + 1 < wr.heap.size) (hBw : w.heap.size + 1 < B0)
    (hX : X = wr.alloc (.cells cs 50)) (hb : Turn B0 X w') (hI : Itr w' t a B0 B1 B2 r r' u) (hrow : w'.heap[wr.heap.size]? = some (.cells cs 50 (0, 0))) : AS w (w'.setRow wr.heap.size (spV t o (min r u))) t a f u p q B0 B1 B2 wr.heap.size true r r' := by
  have hi0 := row_lt h.it.op
  have hi1 := row_lt h.it.to
  have hi2 : B2 < wr.heap.size := h.it.tb.lt
  have hal : Below wr.heap.size wr X := by rw [hX]; exact (Below.refl _ _).alloc (Nat.le_refl _) _
  have hXs : X.heap.size = wr.heap.size + 1 := by rw [hX]; simp
  have hso := hk.2.2.1.lt
  have hb9 : ∀ k, k < wr.heap.size → k ≠ B0 → w'.heap[k]? = wr.heap[k]? := fun k hq hn => (hb.block k (by omega) hn).trans (hal.block k hq)
  have hz : (w'.setRow wr.heap.size (spV t o (min r u))).heap.size = w'.heap.size := by simp [World.setRow]
  have hbs := hb.size
  have hws := h.bw.size
  refine ⟨⟨hb.os.trans (hal.os.trans h.bw.os), hb.tape.trans (hal.tape.trans h.bw.tape), hb.output.trans (hal.output.trans h.bw.output), by rw [hz]; omega, fun k hq => (setRow_other _ _ _ _ (by omega)).trans ((hb9 k (by omega) (by omega)).trans (h.bw.block k hq))⟩, hI.grown (fun k hq => setRow_other _ _ _ _ (by rcases hq with rfl | rfl | rfl <;> omega)), ⟨by omega, by rw [hz]; omega, by omega, by omega, by omega⟩, (setRow_other _ _ _ _ (by omega)).trans ((hb9 _ hsz (by omega)).trans h.bs), .inl ⟨rfl, o, setRow_heap _ _ _ _ _ _ hrow, by omega, hc, h.it.rt, fun c h1 h2 => ?_⟩⟩
  by_cases e : c < s
  · exact hk.2.2.2 c h1 e
  · exact inp_run hk.2.2.1 hg c (by omega) (by omega)
set_option maxRecDepth 40000 in
set_option maxHeartbeats 16000000 in
theorem impl_agrees (t : Tb) (a : Ad) (x1 x2 x3 x4 : Int) (w : World) (hm : TM 0 w t a) (hw : TW t a) (hs : TS a) (hcs : a.sn ≤ a.sc) (ht : Tm t) :
    Calls Tryz.prog 57 #[tbV t a, .agg #[.int .i64 x1, .int .i64 x2, .int .i64 x3, .int .i64 x4]] w fun e w' => e = .returned (.bool (decide (spGood t (x1, x2, x3, x4)))) ∧ Below w.heap.size w w' := by
  have hb1 : Below w.heap.size w (w.alloc (.cells (tbA t a) 33)) := (Below.refl _ _).alloc (Nat.le_refl _) _
  have HB : Hid (Below w.heap.size w ((w.alloc (.cells (tbA t a) 33)).alloc (.cells #[.int .i64 x1, .int .i64 x2, .int .i64 x3, .int .i64 x4] 50))) := hb1.alloc (by simp) _
  have HX : Hid (TBx ((w.alloc (.cells (tbA t a) 33)).alloc (.cells #[.int .i64 x1, .int .i64 x2, .int .i64 x3, .int .i64 x4] 50)) w.heap.size t a) := (TBx.new w t a _ rfl).below ((Below.refl _ _).alloc (Nat.le_refl _) _)
  have HS1 : Hid (((w.alloc (.cells (tbA t a) 33)).alloc (.cells #[.int .i64 x1, .int .i64 x2, .int .i64 x3, .int .i64 x4] 50)).heap[w.heap.size + 1]? = some (.cells #[.int .i64 x1, .int .i64 x2, .int .i64 x3, .int .i64 x4] 50 (0, 0))) := new_row _ _ _ _ (by simp)
  have HIW : Hid (∀ X, Calls Tryz.prog 58 #[.agg #[.int .i64 x1, .int .i64 x2, .int .i64 x3, .int .i64 x4]] X fun e w' => e = .returned (.bool (inr x1 0 50000 && inr x2 0 50000)) ∧ Below X.heap.size X w') := fun X => is_within x1 x2 x3 x4 X
  have HNS : Hid (x2 ≤ 50000 → ∀ (o r : Int) (B0 B1 B2 : Nat) (X : World), Itr X t a B0 B1 B2 o r x2 → Below w.heap.size w X → w.heap.size ≤ B0 → Calls Tryz.prog 83 #[.pointer (some ⟨B0, 0, none⟩), .pointer (some ⟨B1, 0, none⟩), .pointer (some ⟨B2, 0, none⟩)] X fun e w' =>
      (x2 ≤ o ∧ e = .returned (.tuple #[.agg #[.int .i64 0, .int .i64 0, .int .i64 0, .int .i64 0], .bool false]) ∧ Below X.heap.size X w') ∨
      (o < x2 ∧ ∃ r', e = .returned (.tuple #[.agg (spV t o (min r x2)), .bool true]) ∧ Turn B0 X w' ∧ Itr w' t a B0 B1 B2 r r' x2)) := fun hu o r B0 B1 B2 X hI hX hB => next_span t a o r x2 B0 B1 B2 w X hI hm hX hB hw hs hcs ht hu
  have HSO : Hid (0 ≤ x1 → x1 ≤ 50000 → ∀ X, Below w.heap.size w X → Calls Tryz.prog 50 #[tbV t a, .int .i64 x1, .int .i64 x2] X fun e w' => ∃ (r : Int) (B0 B1 B2 : Nat), e = .returned (.func (.func 83) #[] #[.pointer (some ⟨B0, 0, none⟩), .pointer (some ⟨B1, 0, none⟩), .pointer (some ⟨B2, 0, none⟩)]) ∧ Itr w' t a B0 B1 B2 x1 r x2 ∧ (X.heap.size ≤ B0 ∧ X.heap.size ≤ B1 ∧ X.heap.size ≤ B2) ∧ Below X.heap.size X w') := fun h0 h1 X hX => spans_of t a x1 x2 X (hm.below hX) hw hs hcs ht h0 h1
  obtain ⟨g, HG⟩ : ∃ g : Bool, Hid (decide (spGood t (x1, x2, x3, x4)) = g) := ⟨_, rfl⟩
  rw [HG.out]
  clear hm hw hs hcs ht hb1
  by_cases h1 : (0 ≤ x1 ∧ x1 ≤ 50000) ∧ (0 ≤ x2 ∧ x2 ≤ 50000)
  rotate_left
  · have HT : Hid (g = false) := by show _ = _; rw [← HG.out]; exact decide_eq_false (fun h => h1 ⟨⟨h.1.1, by have := h.1; simp only at this; omega⟩, by have := h.1; simp only at this; omega⟩)
    have hiw : (inr x1 0 50000 && inr x2 0 50000) = false := by
      by_cases e : 0 ≤ x1 ∧ x1 ≤ 50000
      · rw [inr_yes e, inr_no (fun k => h1 ⟨e, k⟩)]; rfl
      · rw [inr_no e]; rfl
    rw [hiw] at HIW
    clear HNS HSO h1 hiw
    go_enter Tryz.func57, Tryz.ntmps57
    go_wp2_with (first | (refine wpList_load_row rfl 50 (.tmp 3) rfl (w.heap.size + 1) rfl 50 (#[.int .i64 x1, .int .i64 x2, .int .i64 x3, .int .i64 x4]) (0, 0) _ HS1.out Tryz.underlying50 rfl (by kernel_rfl) ?_) | fail)
    refine Calls.mono (HIW.out _) ?_
    rintro e w1 ⟨rfl, hb⟩
    have HB1 : Hid (Below w.heap.size w w1) := HB.out.trans (hb.mono HB.out.size)
    clear hb HB HX HS1
    go_wp2
    go_ret
    exact ⟨by rw [HT.out]; rfl, HB1.out⟩
  have hiw : (inr x1 0 50000 && inr x2 0 50000) = true := by rw [inr_yes h1.1, inr_yes h1.2]; rfl
  rw [hiw] at HIW
  clear hiw
  by_cases h2 : x1 < x2
  rotate_left
  · have HT : Hid (g = false) := by show _ = _; rw [← HG.out]; exact decide_eq_false (fun h => h2 h.1.2.1)
    have hge : x2 ≤ x1 := by omega
    have hgd : decide (x2 ≤ x1) = true := decide_eq_true hge
    go_enter Tryz.func57, Tryz.ntmps57
    go_wp2_with (first | (refine wpList_load_row rfl 50 (.tmp 3) rfl (w.heap.size + 1) rfl 50 (#[.int .i64 x1, .int .i64 x2, .int .i64 x3, .int .i64 x4]) (0, 0) _ HS1.out Tryz.underlying50 rfl (by kernel_rfl) ?_) | fail)
    refine Calls.mono (HIW.out _) ?_
    rintro e w1 ⟨rfl, hb⟩
    have HB1 : Hid (Below w.heap.size w w1) := HB.out.trans (hb.mono HB.out.size)
    have HS2 : Hid (w1.heap[w.heap.size + 1]? = some (.cells #[.int .i64 x1, .int .i64 x2, .int .i64 x3, .int .i64 x4] 50 (0, 0))) := row_below HS1.out hb
    have c0 : w1.cell? ⟨w.heap.size + 1, 0, none⟩ = some (.int .i64 x1) := row_cell HS2.out 0 _ rfl
    have c1 : w1.cell? ⟨w.heap.size + 1, 1, none⟩ = some (.int .i64 x2) := row_cell HS2.out 1 _ rfl
    clear hb HB HX HS1 HNS HSO h1
    go_wp2
    go_ret
    exact ⟨by rw [HT.out]; rfl, HB1.out⟩
  have hge : ¬ (x2 ≤ x1) := by omega
  have hgd : decide (x2 ≤ x1) = false := decide_eq_false hge
  have HNS' : Hid _ := HNS.out h1.2.2
  have HSO' : Hid _ := HSO.out h1.1.1 h1.1.2
  have hu5 : x2 ≤ 50000 := h1.2.2
  have hf0 : 0 ≤ x1 := h1.1.1
  clear HNS HSO h1
  go_enter Tryz.func57, Tryz.ntmps57
  go_wp2_with (first | (refine wpList_load_row rfl 50 (.tmp 3) rfl (w.heap.size + 1) rfl 50 (#[.int .i64 x1, .int .i64 x2, .int .i64 x3, .int .i64 x4]) (0, 0) _ HS1.out Tryz.underlying50 rfl (by kernel_rfl) ?_) | fail)
  refine Calls.mono (HIW.out _) ?_
  rintro e w1 ⟨rfl, hb⟩
  have HB1 : Hid (Below w.heap.size w w1) := HB.out.trans (hb.mono HB.out.size)
  have HX1 : Hid (TBx w1 w.heap.size t a) := HX.out.below hb
  have HS2 : Hid (w1.heap[w.heap.size + 1]? = some (.cells #[.int .i64 x1, .int .i64 x2, .int .i64 x3, .int .i64 x4] 50 (0, 0))) := row_below HS1.out hb
  have c0 : w1.cell? ⟨w.heap.size + 1, 0, none⟩ = some (.int .i64 x1) := row_cell HS2.out 0 _ rfl
  have c1 : w1.cell? ⟨w.heap.size + 1, 1, none⟩ = some (.int .i64 x2) := row_cell HS2.out 1 _ rfl
  clear hb HB HX HS1 HIW
  go_wp2_with (first | (refine wpList_load_row rfl 33 (.tmp 2) rfl w.heap.size rfl 33 (tbA t a) (0, 0) _ HX1.out Tryz.underlying33 rfl (by kernel_rfl) ?_) | fail)
  refine Calls.mono (HSO'.out _ HB1.out) ?_
  rintro e w2 ⟨r0, B0, B1, B2, rfl, hi2, hbb, hb2⟩
  have hsz1 := row_lt HS2.out
  have HB2 : Hid (Below w.heap.size w w2) := HB1.out.trans (hb2.mono HB1.out.size)
  have HI2 : Hid (Itr w2 t a B0 B1 B2 x1 r0 x2) := hi2
  have HBB : Hid (w1.heap.size ≤ B0 ∧ w1.heap.size ≤ B1 ∧ w1.heap.size ≤ B2) := hbb
  have HS3 : Hid (w2.heap[w.heap.size + 1]? = some (.cells #[.int .i64 x1, .int .i64 x2, .int .i64 x3, .int .i64 x4] 50 (0, 0))) := row_below HS2.out hb2
  clear hb2 hi2 hbb HB1 HX1 HS2 HSO' c0 c1
  go_wp2_with fail
  refine Calls.mono (HNS'.out x1 r0 B0 B1 B2 _ HI2.out HB2.out (by have := HBB.out.1; omega)) ?_
  rintro e w3 (⟨hx, _, _⟩ | ⟨_, r1, rfl, hT, hI⟩)
  · exfalso; omega
  have hsz2 := row_lt HS3.out
  have HAS : Hid (AS w (w3.alloc (.cells (spV t x1 (min r0 x2)) 50)) t a x1 x2 x3 x4 B0 B1 B2 w3.heap.size true r0 r1) := by
    have hal : Below w3.heap.size w3 (w3.alloc (.cells (spV t x1 (min r0 x2)) 50)) := (Below.refl _ _).alloc (Nat.le_refl _) _
    have hbw := HB2.out.trans (hT.below (by have := HBB.out.1; omega) HB2.out.size)
    have q0 := row_lt hI.op
    have q1 := row_lt hI.to
    have q2 : B2 < w3.heap.size := hI.tb.lt
    have hBB := HBB.out
    have hts := hT.size
    refine ⟨hbw.trans (hal.mono hbw.size), hI.below hal, ⟨by omega, by simp, by omega, by omega, by omega⟩, (hal.block _ (by omega)).trans ((hT.block _ hsz2 (by omega)).trans HS3.out), .inl ⟨rfl, x1, new_row w3 _ _ _ rfl, by omega, h2, HI2.out.rt, fun c g1 g2 => by omega⟩⟩
  have HBB2 : Hid (w.heap.size + 1 < B0) := by have := HBB.out.1; show _ < _; omega
  clear hT hI HB2 HI2 HBB HS3
  obtain ⟨q3, hq3⟩ : ∃ q, whoV t (x1 % t.maj) = q := ⟨_, rfl⟩
  obtain ⟨q4, hq4⟩ : ∃ q, phaseV t (x1 % t.maj) = q := ⟨_, rfl⟩
  have hsv : spV t x1 (min r0 x2) = #[.int .i64 x1, .int .i64 (min r0 x2), .int .i64 q3, .int .i64 q4] := by unfold spV; rw [hq3, hq4]
  rw [hsv] at HAS ⊢
  clear hsv hq3 hq4
  go_wp2
  go_loopw [6, 7] (fun p bb wr => ∃ (Nb : Nat) (b : Bool) (o r : Int), p = .pointer (some ⟨Nb, 0, none⟩) ∧ bb = .bool b ∧ Hid (AS w wr t a x1 x2 x3 x4 B0 B1 B2 Nb b o r)) (fun _ bb wr => (x2 - cint wr B0).toNat + bone bb)
  case atStart => exact ⟨w3.heap.size, true, r0, r1, rfl, rfl, HAS.out⟩
  case round =>
    clear HAS
    obtain ⟨Nb, b, o, r, rfl, rfl, HLS⟩ := hrel
    cases b
    · have HT : Hid (g = true) := by
        rcases HLS.out.st with ⟨h, _⟩ | ⟨_, h⟩
        · cases h
        · show _ = _; rw [← HG.out]; exact decide_eq_true ⟨⟨hf0, h2, hu5⟩, h⟩
      go_wp2
      go_ret
      exact ⟨by rw [HT.out]; rfl, HLS.out.bw⟩
    obtain ⟨s, HRW, HKK⟩ : ∃ s : Int, Hid (wr.heap[Nb]? = some (.cells (spV t s (min o x2)) 50 (0, 0))) ∧ Hid (x1 ≤ s ∧ s < x2 ∧ RT t s o ∧ ∀ c, x1 ≤ c → c < s → InP t x3 x4 c) := by
      rcases HLS.out.st with ⟨_, s, g1, g2⟩ | ⟨h, _⟩
      · exact ⟨s, g1, g2⟩
      · cases h
    obtain ⟨y3, HY3⟩ : ∃ y, Hid (whoV t (s % t.maj) = y) := ⟨_, rfl⟩
    obtain ⟨y4, HY4⟩ : ∃ y, Hid (phaseV t (s % t.maj) = y) := ⟨_, rfl⟩
    obtain ⟨y2, HY2⟩ : ∃ y, Hid (min o x2 = y) := ⟨_, rfl⟩
    have HRWB : Hid (wr.heap[Nb]? = some (.cells #[.int .i64 s, .int .i64 y2, .int .i64 y3, .int .i64 y4] 50 (0, 0))) := by
      have := HRW.out
      simp only [spV] at this
      rw [HY2.out, HY3.out, HY4.out] at this
      exact this
    have k2 : wr.cell? ⟨Nb, 2, none⟩ = some (.int .i64 y3) := row_cell HRWB.out 2 _ rfl
    have k3 : wr.cell? ⟨Nb, 3, none⟩ = some (.int .i64 y4) := row_cell HRWB.out 3 _ rfl
    have m2 : wr.cell? ⟨w.heap.size + 1, 2, none⟩ = some (.int .i64 x3) := row_cell HLS.out.bs 2 _ rfl
    have m3 : wr.cell? ⟨w.heap.size + 1, 3, none⟩ = some (.int .i64 x4) := row_cell HLS.out.bs 3 _ rfl
    by_cases hp : y3 = x3
    rotate_left
    · have HT : Hid (g = false) := by
        show _ = _
        rw [← HG.out]
        exact decide_eq_false (fun h => hp (by rw [← HY3.out]; exact (h.2 s HKK.out.1 HKK.out.2.1).2))
      have hpb : (y3 != x3) = true := by simpa using hp
      clear HRW HRWB hp
      go_wp2
      go_ret
      exact ⟨by rw [HT.out]; rfl, HLS.out.bw⟩
    by_cases hq : y4 = x4
    rotate_left
    · have HT : Hid (g = false) := by
        show _ = _
        rw [← HG.out]
        exact decide_eq_false (fun h => hq (by rw [← HY4.out]; exact (h.2 s HKK.out.1 HKK.out.2.1).1))
      have hpb : (y3 != x3) = false := by simp [hp]
      have hqb : (y4 != x4) = true := by simpa using hq
      clear HRW HRWB hp hq
      go_wp2
      go_ret
      exact ⟨by rw [HT.out]; rfl, HLS.out.bw⟩
    have HIP : Hid (InP t x3 x4 s) := ⟨by rw [HY4.out]; exact hq, by rw [HY3.out]; exact hp⟩
    have hpb : (y3 != x3) = false := by simp [hp]
    have hqb : (y4 != x4) = false := by simp [hq]
    have HMS : Hid (cint wr B0 = o) := cint_eq (row_cell HLS.out.it.op 0 _ rfl)
    have hsz := row_lt HLS.out.bs
    clear HRW hp hq
    go_wp2_with (first | (refine wpList_load_row rfl 50 (.tmp 6) rfl Nb rfl 50 (#[.int .i64 s, .int .i64 y2, .int .i64 y3, .int .i64 y4]) (0, 0) _ (HRWB.out) Tryz.underlying50 rfl (by kernel_rfl) ?_) | fail)
    have hbX : Below wr.heap.size wr (wr.alloc (.cells #[.int .i64 s, .int .i64 y2, .int .i64 y3, .int .i64 y4] 50)) := (Below.refl _ _).alloc (Nat.le_refl _) _
    refine Calls.mono (HNS'.out o r B0 B1 B2 _ (HLS.out.it.below hbX) (HLS.out.bw.trans (hbX.mono HLS.out.bw.size)) (by have := HBB2.out; omega)) ?_
    have HXQ : Hid ((wr.alloc (.cells #[.int .i64 s, .int .i64 y2, .int .i64 y3, .int .i64 y4] 50)).heap[wr.heap.size]? = some (.cells #[.int .i64 s, .int .i64 y2, .int .i64 y3, .int .i64 y4] 50 (0, 0))) := new_row wr _ _ _ rfl
    clear hbX HRWB k2 k3 m2 m3
    rintro e w' (⟨hc, rfl, hb⟩ | ⟨hc, r', rfl, hT, hI⟩)
    · have HNX : Hid (AS w (w'.setRow wr.heap.size #[.int .i64 0, .int .i64 0, .int .i64 0, .int .i64 0]) t a x1 x2 x3 x4 B0 B1 B2 wr.heap.size false o r) := as_end HLS.out HKK.out HIP.out hc hsz rfl hb
      have HXW : Hid (w'.heap[wr.heap.size]? = some (.cells #[.int .i64 s, .int .i64 y2, .int .i64 y3, .int .i64 y4] 50 (0, 0))) := row_below HXQ.out hb
      have HMN : Hid (cint (w'.setRow wr.heap.size #[.int .i64 0, .int .i64 0, .int .i64 0, .int .i64 0]) B0 = o) := cint_eq (row_cell HNX.out.it.op 0 _ rfl)
      clear hb HXQ HLS HKK
      go_wp2_with (first | (refine wpList_store_row rfl 50 (.tmp 6) (.tmp 33) rfl wr.heap.size (#[.int .i64 0, .int .i64 0, .int .i64 0, .int .i64 0]) rfl rfl 50 (#[.int .i64 s, .int .i64 y2, .int .i64 y3, .int .i64 y4]) HXW.out (by kernel_rfl) rfl (by simp [Value.oneCell']) ?_) | fail)
      go_roundw
      case rel => exact ⟨wr.heap.size, false, o, r, rfl, rfl, HNX.out⟩
      case measure => rw [HMS.out, HMN.out]; simp only [bone]; omega
    · have hXT : (wr.alloc (.cells #[.int .i64 s, .int .i64 y2, .int .i64 y3, .int .i64 y4] 50)).heap.size = wr.heap.size + 1 := by simp
      have hne : wr.heap.size ≠ B0 := by have := row_lt HLS.out.it.op; omega
      have hro : w'.heap[wr.heap.size]? = some (.cells #[.int .i64 s, .int .i64 y2, .int .i64 y3, .int .i64 y4] 50 (0, 0)) := (hT.block _ (by omega) hne).trans HXQ.out
      have HXW : Hid (w'.heap[wr.heap.size]? = some (.cells #[.int .i64 s, .int .i64 y2, .int .i64 y3, .int .i64 y4] 50 (0, 0))) := hro
      have HNX : Hid (AS w (w'.setRow wr.heap.size (spV t o (min r x2))) t a x1 x2 x3 x4 B0 B1 B2 wr.heap.size true r r') := as_more HLS.out HKK.out HIP.out hc hsz HBB2.out rfl hT hI hro
      have HMN : Hid (cint (w'.setRow wr.heap.size (spV t o (min r x2))) B0 = r) := cint_eq (row_cell HNX.out.it.op 0 _ rfl)
      have hor : o < r := HLS.out.it.rt.lt
      obtain ⟨q3, hq3⟩ : ∃ q, whoV t (o % t.maj) = q := ⟨_, rfl⟩
      obtain ⟨q4, hq4⟩ : ∃ q, phaseV t (o % t.maj) = q := ⟨_, rfl⟩
      have hsv : spV t o (min r x2) = #[.int .i64 o, .int .i64 (min r x2), .int .i64 q3, .int .i64 q4] := by unfold spV; rw [hq3, hq4]
      rw [hsv] at HNX HMN ⊢
      clear hT hI HXQ HLS HKK hro hsv hq3 hq4
      go_wp2_with (first | (refine wpList_store_row rfl 50 (.tmp 6) (.tmp 33) rfl wr.heap.size (#[.int .i64 o, .int .i64 (min r x2), .int .i64 q3, .int .i64 q4]) rfl rfl 50 (#[.int .i64 s, .int .i64 y2, .int .i64 y3, .int .i64 y4]) HXW.out (by kernel_rfl) rfl (by simp [Value.oneCell']) ?_) | fail)
      go_roundw
      case rel => exact ⟨wr.heap.size, true, r, r', rfl, rfl, HNX.out⟩
      case measure => rw [HMS.out, HMN.out]; simp only [bone]; omega
end Go.Proofs.YtlomcdgfcocmmaaGreatDoor
namespace Go.Proofs.YtlomcdgfcocmmaaGreatDoor
open Go.ChangeShapes Go.WideShapes Go.ChangeAt Go.RowKit Go.Deep Go.Joins
set_option linter.unusedVariables false

set_option maxRecDepth 40000 in
set_option maxHeartbeats 4000000 in
theorem spec_who (t : Tb) (a : Ad) (c : Int) (w : World) (hm : TM 0 w t a) (hw : TW t a) (hs : TS a) (ht : Tm t) (hc : 0 ≤ c) (hc2 : c ≤ 1000000) :
    Calls Tryz.prog 52 #[tbV t a, .int .i64 c] w fun e w' => e = .returned (.tuple #[.int .i64 (phaseV t (c % t.maj)), .int .i64 (whoV t (c % t.maj))]) ∧ Below w.heap.size w w' := by
  have hL : t.ss.length = a.sn := hw.sl
  have hn : a.sn ≤ 1048576 := hs.s
  have HSL : Hid (∀ X, Below w.heap.size w X → GSeg 3 X a.sa a.sn (slX t.ss)) := fun X hX => (hm.below hX).s.seg
  have HCP : Hid (∀ X, Below w.heap.size w X → Calls Tryz.prog 84 #[tbV t a, .int .i64 c] X fun e w' => e = .returned (.int .i64 (phaseV t (c % t.maj))) ∧ Below X.heap.size X w') := fun X hX => spec_phase t a c X (hm.below hX) hw hs ht hc hc2
  have HCS : Hid (∀ X, Below w.heap.size w X → Calls Tryz.prog 53 #[tbV t a, .int .i64 c] X fun e w' => e = .returned (.int .i64 (slotV t (c % t.maj))) ∧ Below X.heap.size X w') := fun X hX => spec_slot t a c X (hm.below hX) hw hs ht hc hc2
  generalize c % t.maj = p at HCP HCS ⊢
  have HB0 : Hid (Below w.heap.size w (w.alloc (.cells (tbA t a) 33))) := (Below.refl _ _).alloc (Nat.le_refl _) _
  have HX0 : Hid (TBx (w.alloc (.cells (tbA t a) 33)) w.heap.size t a) := TBx.new w t a _ rfl
  clear hm hw hs ht hc hc2
  rcases slotV_cases t p with ⟨hf, _⟩ | ⟨i, hi, hsv, _⟩
  · have HT0 : Hid (whoV t p = -1) := by show _ = _; unfold whoV; rw [hf, if_pos (by decide)]
    rw [HT0.out, phaseV_free hf]
    rw [hf] at HCS
    clear HT0 HSL HCP hf
    go_enter Tryz.func52, Tryz.ntmps52
    go_wp2_with (first | (refine wpList_load_row rfl 33 (.tmp 2) rfl w.heap.size rfl 33 (tbA t a) (0, 0) _ HX0.out Tryz.underlying33 rfl (by kernel_rfl) ?_) | fail)
    refine Calls.mono (HCS.out _ HB0.out) ?_
    rintro e w1 ⟨rfl, hb1⟩
    have HB1 : Hid (Below w.heap.size w w1) := HB0.out.trans (hb1.mono HB0.out.size)
    clear hb1 HB0 HX0 HCS
    go_wp2
    exact bodyPost_ret (v := .tuple #[.int .i64 0, .int .i64 (-1)]) (by simp [results, Tryz.results52, go_sem]) rfl ⟨rfl, HB1.out⟩
  have HT1 : Hid (whoV t p = (t.ss.getD i sl0).1) := by show _ = _; unfold whoV; rw [hsv, if_neg (by omega)]; rfl
  rw [HT1.out]
  obtain ⟨r, HT0⟩ : ∃ r, Hid ((t.ss.getD i sl0).1 = r) := ⟨_, rfl⟩
  rw [HT0.out]
  rw [hsv] at HCS
  generalize phaseV t p = ph at HCP ⊢
  have hi2 : i < a.sn := by omega
  have hi3 : (i : Int) < (a.sn : Int) := by omega
  have hi4 : 0 ≤ (i : Int) := by omega
  have hi5 : ¬ ((i : Int) < 0) := by omega
  clear HT1 hsv hL
  go_enter Tryz.func52, Tryz.ntmps52
  go_wp2_with (first | (refine wpList_load_row rfl 33 (.tmp 2) rfl w.heap.size rfl 33 (tbA t a) (0, 0) _ HX0.out Tryz.underlying33 rfl (by kernel_rfl) ?_) | fail)
  refine Calls.mono (HCS.out _ HB0.out) ?_
  rintro e V ⟨rfl, hb1⟩
  have HB2 : Hid (Below w.heap.size w V) := HB0.out.trans (hb1.mono HB0.out.size)
  have HX2 : Hid (TBx V w.heap.size t a) := HX0.out.below hb1
  clear hb1 HB0 HX0 HCS
  obtain ⟨b1, o1, hsa, hbl1, p1⟩ := (HSL.out _ HB2.out).at i hi2
  have k18 : V.cell? ⟨w.heap.size, 18, none⟩ = some (.slice (some ⟨b1, o1, none⟩) a.sn a.sc) := by rw [← hsa]; exact HX2.out.cell 18 rfl
  simp only [slX] at p1
  generalize t.ss.getD i sl0 = y at p1 HT0
  obtain ⟨c0, c1, c2⟩ := sl_cells p1
  obtain ⟨x1, x2, x3⟩ := y
  simp only at c0 c1 c2 HT0
  have G18 := fun X => gr_cell (W0 := V) k18 X
  have G0 := fun X => gr_cell (W0 := V) c0 X
  have HCG : Hid (∀ X : Gr V, Calls Tryz.prog 84 #[tbV t a, .int .i64 c] X.w fun e w' => e = .returned (.int .i64 ph) ∧ Below X.w.heap.size X.w w') := fun X => HCP.out _ (HB2.out.trans (X.h.mono HB2.out.size))
  have HXX : Hid (∀ w', (∃ X : Gr V, w' = X.w) → w'.heap[w.heap.size]? = some (.cells (tbA t a) 33 (0, 0))) := fun w' hX => by
    obtain ⟨X, rfl⟩ := hX
    exact HX2.out.below X.h
  clear p1 hbl1 HSL
  go_wp2
  have hgr := gr_some V
  refine region_alike (by kernel_rfl) (by kernel_rfl) ?_
  repeat (first | (refine wpQuiet_load_row rfl 33 (.tmp 2) rfl w.heap.size rfl 33 (tbA t a) (0, 0) _ HXX.out Tryz.underlying33 rfl (by kernel_rfl) ?_; simp only [Act.put, List.setIfInBounds_toArray, List.set_cons_zero, List.set_cons_succ]) | go_big_quiet_step (first | (go_at_call 84; exact gr_call (HCG.out _))))
  refine wpQuiet_nil ?_
  intro _ hw'
  obtain ⟨X1, rfl⟩ := hw'
  have HB3 : Hid (Below w.heap.size w X1.w) := HB2.out.trans (X1.h.mono HB2.out.size)
  have HTT : Hid (x1 = r) := HT0.out
  go_wp2
  exact bodyPost_ret (v := .tuple #[.int .i64 ph, .int .i64 x1]) (by simp [results, Tryz.results52, go_sem]) rfl ⟨by rw [HTT.out], HB3.out⟩
end Go.Proofs.YtlomcdgfcocmmaaGreatDoor
namespace Go.Proofs.YtlomcdgfcocmmaaGreatDoor
open Go.ChangeShapes Go.WideShapes Go.ChangeAt Go.RowKit Go.Deep Go.Joins
set_option linter.unusedVariables false

/-- The first of k spans that is wrong, or -1. -/
noncomputable def blF (t : Tb) (xs : List saT) : Nat → Int
  | 0 => -1
  | k + 1 => if 0 ≤ blF t xs k then blF t xs k else if spGood t (xs.getD k sa0) then -1 else (k : Int)
theorem blF_none {t : Tb} {xs : List saT} : ∀ n, (∀ i, i < n → spGood t (xs.getD i sa0)) → blF t xs n = -1 := by
  intro n
  induction n with
  | zero => intro _; rfl
  | succ n ih =>
    intro h
    simp only [blF]
    rw [ih (fun i hi => h i (by omega)), if_neg (by omega), if_pos (h n (by omega))]
theorem blF_at {t : Tb} {xs : List saT} {k : Nat} (h1 : ∀ i, i < k → spGood t (xs.getD i sa0)) (h2 : ¬ spGood t (xs.getD k sa0)) : ∀ n, k < n → blF t xs n = (k : Int) := by
  intro n
  induction n with
  | zero => intro h; omega
  | succ n ih =>
    intro h
    simp only [blF]
    by_cases e : k = n
    · subst e
      rw [blF_none k h1, if_neg (by omega), if_neg h2]
    · rw [ih (by omega), if_pos (by omega)]
noncomputable instance (t : Tb) : Decidable (Sd t) := Classical.propDecidable _
noncomputable def blmV (t : Tb) (xs : List saT) : Int := if Sd t ∧ xs.length ≤ 5000 then blF t xs xs.length else -1
set_option maxRecDepth 20000 in
set_option maxHeartbeats 1000000 in
theorem sa_index (a : Option Addr) (cap n : Nat) (xs : List saT) (P : Nat → Bool) (fid : Nat) (caps : Array Value) (w : World) (hs : GSeg 4 w a n (saX xs)) (hn : n ≤ 9223372036854775807) (hen : ∀ args (v : World), (callFunc fid args).run Tryz.prog v = .ok (.enter fid args) v)
    (hf : ∀ i, i < n → ∀ X, Below w.heap.size w X → Calls Tryz.prog fid (#[saV (xs.getD i sa0)] ++ caps) X fun e w' => e = .returned (.bool (P i)) ∧ Below X.heap.size X w') :
    Calls Tryz.prog 55 #[.slice a n cap, .func (.func fid) #[] caps] w fun e w' => (∃ r : Int, e = .returned (.int .i64 r) ∧ ((r = -1 ∧ ∀ i, i < n → P i = false) ∨ ∃ k : Nat, r = (k : Int) ∧ k < n ∧ P k = true ∧ ∀ i, i < k → P i = false)) ∧ Below w.heap.size w w' := by
  have HS : Hid (GSeg 4 w a n (saX xs)) := hs
  have HF : Hid (∀ i, i < n → ∀ X, Below w.heap.size w X → Calls Tryz.prog fid (#[saV (xs.getD i sa0)] ++ caps) X fun e w' => e = .returned (.bool (P i)) ∧ Below X.heap.size X w') := hf
  clear hs hf
  go_enter Tryz.func55, Tryz.ntmps55
  go_wp2
  go_loopw [8] (fun i wr => ∃ m : Nat, m ≤ n ∧ i = .int .i64 m ∧ Hid (Below w.heap.size w wr ∧ ∀ j, j < m → P j = false)) (fun i _ => n - (intOf i).toNat)
  case atStart => exact ⟨0, by omega, rfl, Below.refl _ _, fun i hi => absurd hi (by omega)⟩
  case round =>
    obtain ⟨m, hm, rfl, HR⟩ := hrel
    by_cases hmn : m < n
    rotate_left
    · obtain rfl : m = n := by omega
      go_wp2
      go_ret
      exact ⟨⟨_, rfl, .inl ⟨rfl, HR.out.2⟩⟩, HR.out.1⟩
    have hmn' : (m : Int) < (n : Int) := by omega
    obtain ⟨b1, o1, rfl, hbl1, p1⟩ := HS.out.at m hmn
    replace p1 := p1.of (w' := wr) (fun j => HR.out.1.cell (p := ⟨b1, j, none⟩) hbl1)
    have HFm : Hid _ := HF.out m hmn
    have HPm : Hid (P m = true → (∃ k : Nat, (m : Int) = (k : Int) ∧ k < n ∧ P k = true ∧ ∀ i, i < k → P i = false)) := fun h => ⟨m, rfl, hmn, h, HR.out.2⟩
    have HPt : Hid (P m = false → ∀ j, j < m + 1 → P j = false) := fun h j hj => by
      by_cases e : j = m
      · subst e; exact h
      · exact HR.out.2 j (by omega)
    have HBW : Hid (Below w.heap.size w wr) := HR.out.1
    simp only [saX] at p1
    generalize xs.getD m sa0 = x at p1 HFm
    obtain ⟨c0, c1, c2, c3⟩ := sa_cells p1
    obtain ⟨x1, x2, x3, x4⟩ := x
    simp only [saV] at c0 c1 c2 c3 HFm
    generalize P m = pm at HFm HPm HPt
    clear p1 hbl1
    go_wp2_with fail
    refine (HFm.out _ HBW.out).mono ?_
    rintro u w1 ⟨rfl, hb1⟩
    have HB1 : Hid (Below w.heap.size w w1) := HBW.out.trans (hb1.mono HBW.out.size)
    clear hb1 c0 c1 c2 c3
    cases pm
    · have HT : Hid _ := HPt.out (by trivial)
      go_wp2
      go_roundw
      case rel => exact ⟨m + 1, by omega, by go_num, HB1.out, HT.out⟩
      case measure => simp [intOf]; omega
    · have HT : Hid _ := HPm.out (by trivial)
      go_wp2
      go_ret
      exact ⟨⟨_, rfl, .inr HT.out⟩, HB1.out⟩
theorem e_bl1 : ∀ args (v : World), (callFunc 56 args).run Tryz.prog v = .ok (.enter 56 args) v := enters_of Tryz.func56 (by kernel_rfl) rfl
set_option maxRecDepth 40000 in
set_option maxHeartbeats 4000000 in
theorem bl_one (t : Tb) (a : Ad) (x : saT) (B : Nat) (X : World) (hB : TBx X B t a) (hm : TM 0 X t a) (hw : TW t a) (hs : TS a) (hcs : a.sn ≤ a.sc) (ht : Tm t) :
    Calls Tryz.prog 56 #[saV x, .pointer (some ⟨B, 0, none⟩)] X fun e w' => e = .returned (.bool (!decide (spGood t x))) ∧ Below X.heap.size X w' := by
  obtain ⟨x1, x2, x3, x4⟩ := x
  simp only [saV]
  have HB0 : Hid (Below X.heap.size X (X.alloc (.cells #[.int .i64 x1, .int .i64 x2, .int .i64 x3, .int .i64 x4] 50))) := (Below.refl _ _).alloc (Nat.le_refl _) _
  have HX0 : Hid (TBx (X.alloc (.cells #[.int .i64 x1, .int .i64 x2, .int .i64 x3, .int .i64 x4] 50)) B t a) := hB.below HB0.out
  have HS1 : Hid ((X.alloc (.cells #[.int .i64 x1, .int .i64 x2, .int .i64 x3, .int .i64 x4] 50)).heap[X.heap.size]? = some (.cells #[.int .i64 x1, .int .i64 x2, .int .i64 x3, .int .i64 x4] 50 (0, 0))) := new_row _ _ _ _ rfl
  have HA : Hid (Calls Tryz.prog 57 #[tbV t a, .agg #[.int .i64 x1, .int .i64 x2, .int .i64 x3, .int .i64 x4]] (X.alloc (.cells #[.int .i64 x1, .int .i64 x2, .int .i64 x3, .int .i64 x4] 50)) fun e w' => e = .returned (.bool (decide (spGood t (x1, x2, x3, x4)))) ∧ Below (X.alloc (.cells #[.int .i64 x1, .int .i64 x2, .int .i64 x3, .int .i64 x4] 50)).heap.size (X.alloc (.cells #[.int .i64 x1, .int .i64 x2, .int .i64 x3, .int .i64 x4] 50)) w') := impl_agrees t a x1 x2 x3 x4 _ (hm.below HB0.out) hw hs hcs ht
  generalize decide (spGood t (x1, x2, x3, x4)) = g at HA ⊢
  clear hB hm hw hs hcs ht
  go_enter Tryz.func56, Tryz.ntmps56
  go_wp2_with (first | (refine wpList_load_row rfl 33 (.tmp 1) rfl B rfl 33 (tbA t a) (0, 0) _ (HX0.out) Tryz.underlying33 rfl (by kernel_rfl) ?_) | (refine wpList_load_row rfl 50 (.tmp 2) rfl X.heap.size rfl 50 (#[.int .i64 x1, .int .i64 x2, .int .i64 x3, .int .i64 x4]) (0, 0) _ (HS1.out) Tryz.underlying50 rfl (by kernel_rfl) ?_) | fail)
  refine Calls.mono HA.out ?_
  rintro e w1 ⟨rfl, hb⟩
  have HB1 : Hid (Below X.heap.size X w1) := HB0.out.trans (hb.mono HB0.out.size)
  clear hb HB0 HX0 HS1 HA
  go_wp2
  go_ret
  exact ⟨rfl, HB1.out⟩
set_option maxRecDepth 40000 in
set_option maxHeartbeats 8000000 in
theorem impl_blame (t : Tb) (a : Ad) (b : Option Addr) (cb : Nat) (xs : List saT) (w : World) (hm : TM 0 w t a) (hw : TW t a) (hs : TS a) (he : TabE w) (hcp : a.pn ≤ a.pc) (hcs : a.sn ≤ a.sc) (hb : GSeg 4 w b xs.length (saX xs)) (hx : xs.length ≤ 1048576) :
    Calls Tryz.prog 24 #[tbV t a, .slice b xs.length cb] w fun e w' => e = .returned (.int .i64 (blmV t xs)) ∧ Below w.heap.size w w' := by
  obtain ⟨q, hq⟩ := told (Sd t)
  have HB0 : Hid (Below w.heap.size w (w.alloc (.cells (tbA t a) 33))) := (Below.refl _ _).alloc (Nat.le_refl _) _
  have HX0 : Hid (TBx (w.alloc (.cells (tbA t a) 33)) w.heap.size t a) := TBx.new w t a _ rfl
  have HSD : Hid (Calls Tryz.prog 13 #[tbV t a] (w.alloc (.cells (tbA t a) 33)) fun e w' => e = .returned (.bool q) ∧ Below (w.alloc (.cells (tbA t a) 33)).heap.size (w.alloc (.cells (tbA t a) 33)) w') := impl_sound t a q (w.alloc (.cells (tbA t a) 33)) (hm.below HB0.out) hw hs (he.below HB0.out) hcp hq
  have HQ : Hid (q = true ↔ Sd t) := hq
  have HXS : Hid (∀ X, Below w.heap.size w X → GSeg 4 X b xs.length (saX xs)) := fun X hX => hb.below hX
  have HONE : Hid (Sd t → ∀ (x : saT) X, TBx X w.heap.size t a → Below w.heap.size w X → Calls Tryz.prog 56 #[saV x, .pointer (some ⟨w.heap.size, 0, none⟩)] X fun e w' => e = .returned (.bool (!decide (spGood t x))) ∧ Below X.heap.size X w') := fun h x X h1 h2 => bl_one t a x _ X h1 (hm.below h2) hw hs hcs (sd_tm h)
  obtain ⟨v, HV⟩ : ∃ v : Int, Hid (blmV t xs = v) := ⟨_, rfl⟩
  rw [HV.out]
  clear hm hw hs he hcp hcs hb hq
  by_cases h5 : xs.length ≤ 5000
  rotate_left
  · have HT : Hid (v = -1) := by show _ = _; rw [← HV.out]; unfold blmV; rw [if_neg (fun h => h5 h.2)]
    have hgt : (5000 : Int) < (xs.length : Int) := by omega
    have hgd : decide ((5000 : Int) < (xs.length : Int)) = true := decide_eq_true hgt
    generalize xs.length = n at *
    clear HSD HQ HXS HONE h5
    go_enter Tryz.func24, Tryz.ntmps24
    go_wp2
    go_ret
    exact ⟨by rw [HT.out]; rfl, HB0.out⟩
  have hgt : ¬ ((5000 : Int) < (xs.length : Int)) := by omega
  have hgd : decide ((5000 : Int) < (xs.length : Int)) = false := decide_eq_false hgt
  have HL5 : Hid (xs.length ≤ 5000) := h5
  obtain ⟨n, hn⟩ : ∃ n, xs.length = n := ⟨_, rfl⟩
  have HN : Hid (xs.length = n) := hn
  rw [hn] at hgt hgd hx h5 HXS ⊢
  clear hn
  go_enter Tryz.func24, Tryz.ntmps24
  go_wp2_with (first | (refine wpList_load_rowG rfl 33 (.tmp 2) rfl w.heap.size rfl 33 (tbA t a) (0, 0) _ HX0.out Tryz.underlying33 rfl (by kernel_rfl) ?_) | (refine wpList_load_row rfl 33 (.tmp 2) rfl w.heap.size rfl 33 (tbA t a) (0, 0) _ (HX0.out) Tryz.underlying33 rfl (by kernel_rfl) ?_) | fail)
  refine Calls.mono HSD.out ?_
  rintro e w1 ⟨rfl, hb1⟩
  have HB1 : Hid (Below w.heap.size w w1) := HB0.out.trans (hb1.mono HB0.out.size)
  have HX1 : Hid (TBx w1 w.heap.size t a) := HX0.out.below hb1
  clear hb1 HB0 HX0 HSD
  cases q
  · have HT : Hid (v = -1) := by show _ = _; rw [← HV.out]; unfold blmV; rw [if_neg (fun h => by have := HQ.out.2 h.1; cases this)]
    clear HQ HXS HONE
    go_wp2
    go_ret
    exact ⟨by rw [HT.out]; rfl, HB1.out⟩
  have HSQ : Hid (Sd t) := HQ.out.1 rfl
  have HVE : Hid (blF t xs n = v) := by show _ = _; rw [← HV.out]; unfold blmV; rw [if_pos ⟨HSQ.out, HL5.out⟩, HN.out]
  have HIX : Hid (Calls Tryz.prog 55 #[.slice b n cb, .func (.func 56) #[] #[.pointer (some ⟨w.heap.size, 0, none⟩)]] w1 fun e w' => (∃ r : Int, e = .returned (.int .i64 r) ∧ ((r = -1 ∧ ∀ i, i < n → (!decide (spGood t (xs.getD i sa0))) = false) ∨ ∃ k : Nat, r = (k : Int) ∧ k < n ∧ (!decide (spGood t (xs.getD k sa0))) = true ∧ ∀ i, i < k → (!decide (spGood t (xs.getD i sa0))) = false)) ∧ Below w1.heap.size w1 w') :=
    sa_index b cb n xs (fun i => !decide (spGood t (xs.getD i sa0))) 56 #[.pointer (some ⟨w.heap.size, 0, none⟩)] w1 (HXS.out _ HB1.out) (by omega) e_bl1 (fun i hi X hX => HONE.out HSQ.out (xs.getD i sa0) X (HX1.out.below hX) (HB1.out.trans (hX.mono HB1.out.size)))
  clear HQ HXS HONE HX1
  go_wp2_with fail
  refine Calls.mono HIX.out ?_
  rintro e w2 ⟨⟨r, rfl, hr⟩, hb2⟩
  have HB2 : Hid (Below w.heap.size w w2) := HB1.out.trans (hb2.mono HB1.out.size)
  have HRV : Hid (r = v) := by
    show _ = _
    rw [← HVE.out]
    rcases hr with ⟨rfl, h⟩ | ⟨k, rfl, hk, h1, h2⟩
    · exact (blF_none n (fun i hi => by simpa using h i hi)).symm
    · exact (blF_at (fun i hi => by simpa using h2 i hi) (by simpa using h1) n hk).symm
  clear hr hb2 HB1 HIX
  go_wp2
  go_ret
  exact ⟨by rw [HRV.out]; rfl, HB2.out⟩
end Go.Proofs.YtlomcdgfcocmmaaGreatDoor
namespace Go.Proofs.YtlomcdgfcocmmaaGreatDoor
open Go.ChangeShapes Go.WideShapes Go.ChangeAt Go.RowKit Go.Deep Go.Joins
set_option linter.unusedVariables false

theorem spL_pre {t : Tb} {f : Int} {k : Nat} : spL t f k = [] ↔ k = 0 := by
  constructor
  · intro h
    rcases Nat.eq_zero_or_pos k with g | g
    · exact g
    · rw [spL_some (by omega)] at h
      simp at h
  · rintro rfl; rfl
set_option maxRecDepth 40000 in
set_option maxHeartbeats 16000000 in
theorem spec_spans (t : Tb) (a : Ad) (f u : Int) (w : World) (hm : TM 0 w t a) (hw : TW t a) (hs : TS a) :
    Calls Tryz.prog 22 #[tbV t a, .int .i64 f, .int .i64 u] w fun e w' => ∃ v, e = .returned v ∧ OwnS w' (w.heap.size + 1) v (spAll t f u) ∧ Below w.heap.size w w' := by
  obtain ⟨q, hq⟩ := told (Sd t ∧ IsC f)
  have HB0 : Hid (Below w.heap.size w (w.alloc (.cells (tbA t a) 33))) := (Below.refl _ _).alloc (Nat.le_refl _) _
  have HX0 : Hid (TBx (w.alloc (.cells (tbA t a) 33)) w.heap.size t a) := TBx.new w t a _ rfl
  have hbE : Below (w.alloc (.cells (tbA t a) 33)).heap.size (w.alloc (.cells (tbA t a) 33)) ((w.alloc (.cells (tbA t a) 33)).alloc (.cells #[] 50)) := (Below.refl _ _).alloc (Nat.le_refl _) _
  have HBE : Hid (Below w.heap.size w ((w.alloc (.cells (tbA t a) 33)).alloc (.cells #[] 50))) := HB0.out.trans (hbE.mono HB0.out.size)
  have HXE : Hid (TBx ((w.alloc (.cells (tbA t a) 33)).alloc (.cells #[] 50)) w.heap.size t a) := HX0.out.below hbE
  have HOE : Hid (OwnS ((w.alloc (.cells (tbA t a) 33)).alloc (.cells #[] 50)) (w.heap.size + 1) (.slice (some ⟨w.heap.size + 1, 0, none⟩) 0 0) []) := OwnS.new (w.alloc (.cells (tbA t a) 33)) _ (by simp)
  have HK : Hid (Calls Tryz.prog 51 #[tbV t a, .int .i64 f] ((w.alloc (.cells (tbA t a) 33)).alloc (.cells #[] 50)) fun e w' => e = .returned (.bool q) ∧ Below ((w.alloc (.cells (tbA t a) 33)).alloc (.cells #[] 50)).heap.size ((w.alloc (.cells (tbA t a) 33)).alloc (.cells #[] 50)) w') := spec_tok t a f q ((w.alloc (.cells (tbA t a) 33)).alloc (.cells #[] 50)) (hm.below HBE.out) hw hs hq
  have HIN : Hid (∀ (x a b : Int) (X : World), Calls Tryz.prog 33 #[.int .i64 x, .int .i64 a, .int .i64 b] X fun e w' => e = .returned (.bool (inr x a b)) ∧ w' = X) := in_any
  have HWH : Hid (Sd t → ∀ c : Int, 0 ≤ c → c ≤ 50000 → ∀ X, Below w.heap.size w X → Calls Tryz.prog 52 #[tbV t a, .int .i64 c] X fun e w' => e = .returned (.tuple #[.int .i64 (phaseV t (c % t.maj)), .int .i64 (whoV t (c % t.maj))]) ∧ Below X.heap.size X w') := fun h c h1 h2 X hX => spec_who t a c X (hm.below hX) hw hs (sd_tm h) h1 (by omega)
  have HSL : Hid (Sd t → ∀ c : Int, 0 ≤ c → c ≤ 50000 → ∀ X, Below w.heap.size w X → Calls Tryz.prog 53 #[tbV t a, .int .i64 c] X fun e w' => e = .returned (.int .i64 (slotV t (c % t.maj))) ∧ Below X.heap.size X w') := fun h c h1 h2 X hX => spec_slot t a c X (hm.below hX) hw hs (sd_tm h) h1 (by omega)
  have HQ : Hid (q = true ↔ (Sd t ∧ IsC f)) := hq
  clear hm hw hs hq hbE HB0 HX0
  go_enter Tryz.func22, Tryz.ntmps22
  go_wp2_with (first | (refine wpList_load_row rfl 33 (.tmp 3) rfl w.heap.size rfl 33 (tbA t a) (0, 0) _ HXE.out Tryz.underlying33 rfl (by kernel_rfl) ?_) | fail)
  refine Calls.mono HK.out ?_
  rintro e w1 ⟨rfl, hb1⟩
  have HB1 : Hid (Below w.heap.size w w1) := HBE.out.trans (hb1.mono HBE.out.size)
  have HX1 : Hid (TBx w1 w.heap.size t a) := HXE.out.below hb1
  have HO1 : Hid (OwnS w1 (w.heap.size + 1) (.slice (some ⟨w.heap.size + 1, 0, none⟩) 0 0) []) := HOE.out.below hb1
  clear hb1 HBE HXE HK HOE
  cases q
  · have HT : Hid (spAll t f u = []) := by
      show _ = _
      unfold spAll
      rw [if_neg (fun h => by have := HQ.out.2 ⟨h.1, h.2.1⟩; cases this)]
    clear HQ HWH HSL HX1
    go_wp2_with fail
    go_ret
    rw [HT.out]
    exact ⟨_, rfl, HO1.out, HB1.out⟩
  have HT : Hid (Sd t ∧ IsC f) := HQ.out.1 rfl
  clear HQ
  have hy := HT.out.2
  unfold IsC at hy
  by_cases hz : 0 ≤ u ∧ u ≤ 50000
  rotate_left
  · have HN : Hid (spAll t f u = []) := by
      show _ = _
      unfold spAll
      rw [if_neg (fun h => hz h.2.2.1)]
    have k1 := inr_no hz
    clear HWH HSL HX1 hz hy
    go_wp2_with (first | (go_at_call 33; refine (HIN.out _ _ _ _).mono ?_; rintro u' w2 ⟨rfl, hww⟩; rw [hww, k1]; clear hww) | fail)
    go_ret
    rw [HN.out]
    exact ⟨_, rfl, HO1.out, HB1.out⟩
  have k1 := inr_yes hz
  have hwd : IntKind.i64.wrap (u - f) = u - f := by rw [IntKind.wrap_i64]; omega
  by_cases hcnt : 1 ≤ u - f ∧ u - f ≤ 5000
  rotate_left
  · have HN : Hid (spAll t f u = []) := by
      show _ = _
      unfold spAll
      rw [if_neg (fun h => hcnt h.2.2.2)]
    have k2 := inr_no hcnt
    clear HWH HSL HX1 hcnt hy hz
    go_wp2_with (first | (go_at_call 33; refine (HIN.out _ _ _ _).mono ?_; rintro u' w2 ⟨rfl, hww⟩; first | rw [hww, k1] | rw [hww, k2]; clear hww) | fail)
    go_ret
    rw [HN.out]
    exact ⟨_, rfl, HO1.out, HB1.out⟩
  have k2 := inr_yes hcnt
  have HAL : Hid (spAll t f u = spL t f (u - f).toNat) := by
    show _ = _
    unfold spAll
    rw [if_pos ⟨HT.out.1, HT.out.2, hz, hcnt.1, hcnt.2⟩]
  have HWH' : Hid _ := HWH.out HT.out.1
  have HSL' : Hid _ := HSL.out HT.out.1
  have HTM : Hid (Tm t) := sd_tm HT.out.1
  obtain ⟨ii, hii, hz0', hs0, hb0⟩ := sa_info'
  have HII : Hid (Tryz.prog.info? 50 = some ii ∧ ii.zero = some (.agg #[.int .i64 0, .int .i64 0, .int .i64 0, .int .i64 0]) ∧ ii.size = 4 ∧ ii.bytes = 32) := ⟨hii, hz0', hs0, hb0⟩
  clear HWH HSL hii hz0' hs0 hb0
  go_wp2_with (first | (go_at_call 33; refine (HIN.out _ _ _ _).mono ?_; rintro u' w2 ⟨rfl, hww⟩; first | rw [hww, k1] | rw [hww, k2]; clear hww) | fail)
  go_loopw [7, 8] (fun v i wr => ∃ (k m g cap : Nat), v = .slice (some ⟨g, 0, none⟩) m cap ∧ i = .int .i64 (f + (k : Int)) ∧ f + (k : Int) ≤ u ∧ m ≤ k ∧ Hid (OwnS wr (w.heap.size + 1) (.slice (some ⟨g, 0, none⟩) m cap) (spL t f k)) ∧ Hid (m = (spL t f k).length) ∧ Hid (Below w.heap.size w wr) ∧ Hid (TBx wr w.heap.size t a)) (fun _ i _ => (u - intOf i).toNat)
  case atStart => exact ⟨0, 0, w.heap.size + 1, 0, rfl, by simp, by omega, by omega, HO1.out, rfl, HB1.out, HX1.out⟩
  case round =>
    clear HO1 HB1 HX1 k1 k2 HIN
    obtain ⟨k, m, g, cap, rfl, rfl, hku, hmk, HOW, HML, HBW, HXW⟩ := hrel
    by_cases hlt : f + (k : Int) < u
    rotate_left
    · have HE : Hid (spAll t f u = spL t f k) := by
        have : (u - f).toNat = k := by omega
        show _ = _
        rw [HAL.out, this]
      go_wp2
      go_ret
      rw [HE.out]
      exact ⟨_, rfl, HOW.out, HBW.out⟩
    have hgl := HOW.out.gl
    have hmj := HTM.out.maj1
    have hm0 : ¬ (t.maj = 0) := by omega
    have hwc : IntKind.i64.wrap (f + (k : Int) + 1) = f + (k : Int) + 1 := by rw [IntKind.wrap_i64]; omega
    have hwc2 : IntKind.i64.wrap (f + (k : Int) - 1) = f + (k : Int) - 1 := by rw [IntKind.wrap_i64]; omega
    have hwm : IntKind.i64.wrap ((m : Int) - 1) = (m : Int) - 1 := by rw [IntKind.wrap_i64]; omega
    have hc0 : 0 ≤ f + (k : Int) := by omega
    go_wp2_with (first | (refine wpList_load_row rfl 33 (.tmp 3) rfl w.heap.size rfl 33 (tbA t a) (0, 0) _ HXW.out Tryz.underlying33 rfl (by kernel_rfl) ?_) | fail)
    refine Calls.mono (HWH'.out _ hc0 (by omega) _ HBW.out) ?_
    rintro e w2 ⟨rfl, hb2⟩
    have HB2 : Hid (Below w.heap.size w w2) := HBW.out.trans (hb2.mono HBW.out.size)
    have HX2 : Hid (TBx w2 w.heap.size t a) := HXW.out.below hb2
    have HO2 : Hid (OwnS w2 (w.heap.size + 1) (.slice (some ⟨g, 0, none⟩) m cap) (spL t f k)) := HOW.out.below hb2
    have k14 : w2.cell? ⟨w.heap.size, 14, none⟩ = some (.int .i64 t.maj) := HX2.out.cell 14 rfl
    clear hb2 HBW HXW HOW
    have HCS : Hid (∀ c : Int, 0 ≤ c → c ≤ 50000 → ∀ X : Gr w2, Calls Tryz.prog 53 #[tbV t a, .int .i64 c] X.w fun e w' => e = .returned (.int .i64 (slotV t (c % t.maj))) ∧ Below X.w.heap.size X.w w') := fun c h1 h2 X => HSL'.out c h1 h2 _ (HB2.out.trans (X.h.mono HB2.out.size))
    have HXX : Hid (∀ w', (∃ X : Gr w2, w' = X.w) → w'.heap[w.heap.size]? = some (.cells (tbA t a) 33 (0, 0))) := fun w' hX => by
      obtain ⟨X, rfl⟩ := hX
      exact HX2.out.below X.h
    obtain ⟨x4, HX4⟩ : ∃ x, Hid (phaseV t ((f + (k : Int)) % t.maj) = x) := ⟨_, rfl⟩
    obtain ⟨x3, HX3⟩ : ∃ x, Hid (whoV t ((f + (k : Int)) % t.maj) = x) := ⟨_, rfl⟩
    rw [HX4.out, HX3.out]
    by_cases hsame : k ≠ 0 ∧ Same t (f + (k : Int))
    · have HK0 := hsame.1
      have hk0 : k ≠ 0 := HK0
      have HDX : Hid (spL t f k = (spDC t f k).1 ++ [(spDC t f k).2]) := spL_some hk0
      have HPX : Hid ((spDC t f k).2.2.2.2 = phaseV t ((f + (k : Int) - 1) % t.maj)) := spDC_phase t f k hk0
      have hml : m = (spDC t f k).1.length + 1 := by have := HML.out; rw [HDX.out] at this; simpa using this
      obtain ⟨D, hD⟩ : ∃ D, (spDC t f k).1 = D := ⟨_, rfl⟩
      obtain ⟨y, hy2⟩ : ∃ y, (spDC t f k).2 = y := ⟨_, rfl⟩
      rw [hD] at hml HDX
      rw [hy2] at HDX HPX
      have HO2c : Hid (OwnS w2 (w.heap.size + 1) (.slice (some ⟨g, 0, none⟩) m cap) (spL t f k)) := HO2.out
      rw [HDX.out] at HO2c
      obtain ⟨n, hn⟩ : ∃ n, D.length = n := ⟨_, rfl⟩
      rw [hn] at hml
      subst hml
      have hs1 := HO2c.out.set1 (f + (k : Int) + 1)
      rw [hn] at hs1
      have c3 := hs1.2.2.1
      rw [HPX.out] at c3
      have hm1 : (0 : Int) < ((n + 1 : Nat) : Int) := by omega
      have hi1 : ((n + 1 : Nat) : Int) - 1 = (n : Int) := by omega
      have hi2 : (n : Int) < ((n + 1 : Nat) : Int) := by omega
      have HSM := hsame.2
      have hr0 : ¬ ((f + (k : Int)) % t.maj = 0) := HSM.1
      have hr1 : (((f + (k : Int)) % t.maj) != 0) = true := by simpa using HSM.1
      have hp1 := HSM.2.1
      rw [HX4.out] at hp1
      rw [← hp1] at c3
      have hs2 := HSM.2.2
      have HSLT : Hid (slotV t ((f + (k : Int)) % t.maj) = slotV t ((f + (k : Int) - 1) % t.maj)) := hs2
      have HNW : Hid (spL t f (k + 1) = D ++ [(y.1, f + (k : Int) + 1, y.2.2.1, y.2.2.2)]) := by
        show _ = _
        rw [spL_some (by omega), spDC_on hsame, hD, hy2]
      clear hs1 HSM hp1 hsame
      have G14 := fun X => gr_cell (W0 := w2) k14 X
      have G3 := fun X => gr_cell (W0 := w2) c3 X
      go_wp2
      have hgr := gr_some w2
      refine region_alike (by kernel_rfl) (by kernel_rfl) ?_
      repeat (first | go_big_quiet_skip | (refine wpQuiet_load_row rfl 33 (.tmp 3) rfl w.heap.size rfl 33 (tbA t a) (0, 0) _ HXX.out Tryz.underlying33 rfl (by kernel_rfl) ?_; simp only [Act.put, List.setIfInBounds_toArray, List.set_cons_zero, List.set_cons_succ]) | go_big_quiet_step (first | (go_at_call 53; exact gr_call (HCS.out _ (by omega) (by omega) _))))
      refine wpQuiet_nil ?_
      intro _ hw'
      obtain ⟨X1, rfl⟩ := hw'
      have hb3 := X1.h
      generalize X1.w = W1 at hb3 ⊢
      have HB3 : Hid (Below w.heap.size w W1) := HB2.out.trans (hb3.mono HB2.out.size)
      have HX5 : Hid (TBx W1 w.heap.size t a) := HX2.out.below hb3
      have HO3 : Hid (OwnS W1 (w.heap.size + 1) (.slice (some ⟨g, 0, none⟩) (n + 1) cap) (D ++ [y])) := HO2c.out.below hb3
      have hs3 := HO3.out.set1 (f + (k : Int) + 1)
      rw [hn] at hs3
      have f1 := hs3.1
      have c1 := hs3.2.1
      have HO4 : Hid _ := hs3.2.2.2
      have hBG : w.heap.size ≤ g := by omega
      clear hs3 hb3 G14 G3 HXX HCS k14 c3 hgr
      have HX6 : Hid (TBx (W1.setCell ⟨g, n * 4 + 1, none⟩ (.int .i64 (f + (k : Int) + 1))) w.heap.size t a) := row_other HX5.out (by omega)
      have HB6 : Hid (Below w.heap.size w (W1.setCell ⟨g, n * 4 + 1, none⟩ (.int .i64 (f + (k : Int) + 1)))) := HB3.out.setCell (p := ⟨g, n * 4 + 1, none⟩) hBG _
      clear HX5 HB3 HO3 HO2 HO2c
      go_wp2
      go_roundw
      case rel => exact ⟨k + 1, n + 1, g, cap, rfl, (by congr 1; omega), by omega, by omega, (by show OwnS _ _ _ _; rw [HNW.out]; exact HO4.out), (by show _ = _; rw [HNW.out, List.length_append, hn]; rfl), HB6.out, HX6.out⟩
      case measure => simp [intOf]; omega
    by_cases hk : k = 0
    · have hm00 : m = 0 := by have := HML.out; rw [hk] at this; exact this
      subst hm00
      have hgx : decide ((0 : Int) < ((0 : Nat) : Int)) = false := by decide
      have hgy : decide ((0 : Int) < 0) = false := by decide
      clear hk
      go_wp2
      have hgr := gr_some w2
      refine region_alike (by kernel_rfl) (by kernel_rfl) ?_
      repeat (first | go_big_quiet_skip | (refine wpQuiet_load_row rfl 33 (.tmp 3) rfl w.heap.size rfl 33 (tbA t a) (0, 0) _ HXX.out Tryz.underlying33 rfl (by kernel_rfl) ?_; simp only [Act.put, List.setIfInBounds_toArray, List.set_cons_zero, List.set_cons_succ]) | go_big_quiet_step (first | (go_at_call 53; exact gr_call (HCS.out _ (by omega) (by omega) _))))
      refine wpQuiet_nil ?_
      intro _ hw'
      obtain ⟨X1, rfl⟩ := hw'
      have hb3 := X1.h
      generalize X1.w = W1 at hb3 ⊢
      have HB3 : Hid (Below w.heap.size w W1) := HB2.out.trans (hb3.mono HB2.out.size)
      have HX5 : Hid (TBx W1 w.heap.size t a) := HX2.out.below hb3
      have HO3 : Hid (OwnS W1 (w.heap.size + 1) (.slice (some ⟨g, 0, none⟩) 0 cap) (spL t f k)) := HO2.out.below hb3
      have HNW : Hid (spL t f (k + 1) = spL t f k ++ [(f + (k : Int), f + (k : Int) + 1, x3, x4)]) := by
        show _ = _
        rw [spL_new hsame, HX3.out, HX4.out]
      have HLN : Hid (0 = (spL t f k).length) := HML.out
      have hown : (W1.alloc (.cells #[.int .i64 (f + (k : Int)), .int .i64 (f + (k : Int) + 1), .int .i64 x3, .int .i64 x4] 50)).ownsRow (w.heap.size + 1) 50 4 (.slice (some ⟨g, 0, none⟩) 0 cap) 0 (scells (spL t f k)) := by
        have := HO3.out.below ((Below.refl W1.heap.size W1).alloc (Nat.le_refl _) (.cells #[.int .i64 (f + (k : Int)), .int .i64 (f + (k : Int) + 1), .int .i64 x3, .int .i64 x4] 50))
        unfold OwnS at this
        rw [← HLN.out] at this
        exact this
      have HZk : Hid (∀ (gg cap1 : Nat) (w9 : World), w9.ownsRow (w.heap.size + 1) 50 4 (.slice (some ⟨gg, 0, none⟩) (0 + 1) cap1) (0 + 1) (scells (spL t f k) ++ [.int .i64 (f + (k : Int)), .int .i64 (f + (k : Int) + 1), .int .i64 x3, .int .i64 x4]) → (W1.alloc (.cells #[.int .i64 (f + (k : Int)), .int .i64 (f + (k : Int) + 1), .int .i64 x3, .int .i64 x4] 50)).grownBy w9 (Value.slice (some ⟨g, 0, none⟩) 0 cap).ownBlock → OwnS w9 (w.heap.size + 1) (.slice (some ⟨gg, 0, none⟩) (0 + 1) cap1) (spL t f (k + 1)) ∧ 0 + 1 = (spL t f (k + 1)).length ∧ Below w.heap.size w w9 ∧ TBx w9 w.heap.size t a) := fun gg cap1 w9 h1 h2 => by
        have hal : Below W1.heap.size W1 (W1.alloc (.cells #[.int .i64 (f + (k : Int)), .int .i64 (f + (k : Int) + 1), .int .i64 x3, .int .i64 x4] 50)) := (Below.refl _ _).alloc (Nat.le_refl _) _
        have hlen : (spL t f (k + 1)).length = 0 + 1 := by rw [HNW.out, List.length_append, ← HLN.out]; rfl
        refine ⟨?_, hlen.symm, ?_, ?_⟩
        · unfold OwnS
          rw [hlen, HNW.out, scells_app, scells_sing]
          exact h1
        · have hb9 := HB3.out.trans (hal.mono HB3.out.size)
          exact Below.grown hb9 h2 hb9.size (fun q e => by simp [Value.ownBlock] at e; omega)
        · exact (h2.block _ (Nat.lt_of_lt_of_le HX5.out.lt hal.size) (by simp [Value.ownBlock]; omega)).trans (HX5.out.below hal)
      have hlow : w.heap.size + 1 ≤ W1.heap.size := by have := HO3.out.gl; omega
      clear hb3 HXX HCS HB3 HX5 HO2 HB2 HX2 HLN HNW hsame
      go_wp2_with (first | (at_builtin; (refine wpList_append_lies _ rfl (.tmp 82) (.tmp 89) 45 rfl (w.heap.size + 1) 50 ii (.agg #[.int .i64 0, .int .i64 0, .int .i64 0, .int .i64 0]) 4 32 Tryz.underlying45 HII.out.1 HII.out.2.1 HII.out.2.2.1 HII.out.2.2.2 rfl (by omega) _ _ _ rfl hown _ 1 1 [.int .i64 (f + (k : Int)), .int .i64 (f + (k : Int) + 1), .int .i64 x3, .int .i64 x4] rfl rfl (sa_new _ (f + (k : Int), f + (k : Int) + 1, x3, x4) _ (by simp)) (sa_one _ _ _ _) (by omega) (by unfold maxLen; omega) (by omega) (by simp; omega) _ rfl ?_; intro gg cap1 w9 hown1 hgrow hat hlt1; have HY : Hid _ := HZk.out gg cap1 w9 hown1 hgrow; clear hown1 hgrow hat hlt1)) | fail)
      go_roundw
      case rel => exact ⟨k + 1, 0 + 1, gg, cap1, rfl, (by congr 1; omega), by omega, by omega, HY.out.1, HY.out.2.1, HY.out.2.2.1, HY.out.2.2.2⟩
      case measure => simp [intOf]; omega
    by_cases hr : (f + (k : Int)) % t.maj = 0
    · have HK0 := hk
      have hk0 : k ≠ 0 := HK0
      have HDX : Hid (spL t f k = (spDC t f k).1 ++ [(spDC t f k).2]) := spL_some hk0
      have HPX : Hid ((spDC t f k).2.2.2.2 = phaseV t ((f + (k : Int) - 1) % t.maj)) := spDC_phase t f k hk0
      have hml : m = (spDC t f k).1.length + 1 := by have := HML.out; rw [HDX.out] at this; simpa using this
      obtain ⟨D, hD⟩ : ∃ D, (spDC t f k).1 = D := ⟨_, rfl⟩
      obtain ⟨y, hy2⟩ : ∃ y, (spDC t f k).2 = y := ⟨_, rfl⟩
      rw [hD] at hml HDX
      rw [hy2] at HDX HPX
      have HO2c : Hid (OwnS w2 (w.heap.size + 1) (.slice (some ⟨g, 0, none⟩) m cap) (spL t f k)) := HO2.out
      rw [HDX.out] at HO2c
      obtain ⟨n, hn⟩ : ∃ n, D.length = n := ⟨_, rfl⟩
      rw [hn] at hml
      subst hml
      have hs1 := HO2c.out.set1 (f + (k : Int) + 1)
      rw [hn] at hs1
      have c3 := hs1.2.2.1
      rw [HPX.out] at c3
      have hm1 : (0 : Int) < ((n + 1 : Nat) : Int) := by omega
      have hi1 : ((n + 1 : Nat) : Int) - 1 = (n : Int) := by omega
      have hi2 : (n : Int) < ((n + 1 : Nat) : Int) := by omega
      have hr1 : (((f + (k : Int)) % t.maj) != 0) = false := by rw [hr]; rfl
      clear hs1 c3
      have G14 := fun X => gr_cell (W0 := w2) k14 X
      go_wp2
      have hgr := gr_some w2
      refine region_alike (by kernel_rfl) (by kernel_rfl) ?_
      repeat (first | go_big_quiet_skip | (refine wpQuiet_load_row rfl 33 (.tmp 3) rfl w.heap.size rfl 33 (tbA t a) (0, 0) _ HXX.out Tryz.underlying33 rfl (by kernel_rfl) ?_; simp only [Act.put, List.setIfInBounds_toArray, List.set_cons_zero, List.set_cons_succ]) | go_big_quiet_step (first | (go_at_call 53; exact gr_call (HCS.out _ (by omega) (by omega) _))))
      refine wpQuiet_nil ?_
      intro _ hw'
      obtain ⟨X1, rfl⟩ := hw'
      have hb3 := X1.h
      generalize X1.w = W1 at hb3 ⊢
      have HB3 : Hid (Below w.heap.size w W1) := HB2.out.trans (hb3.mono HB2.out.size)
      have HX5 : Hid (TBx W1 w.heap.size t a) := HX2.out.below hb3
      have HO3 : Hid (OwnS W1 (w.heap.size + 1) (.slice (some ⟨g, 0, none⟩) (n + 1) cap) (spL t f k)) := HO2.out.below hb3
      have HNW : Hid (spL t f (k + 1) = spL t f k ++ [(f + (k : Int), f + (k : Int) + 1, x3, x4)]) := by
        show _ = _
        rw [spL_new hsame, HX3.out, HX4.out]
      have HLN : Hid ((n + 1) = (spL t f k).length) := HML.out
      have hown : (W1.alloc (.cells #[.int .i64 (f + (k : Int)), .int .i64 (f + (k : Int) + 1), .int .i64 x3, .int .i64 x4] 50)).ownsRow (w.heap.size + 1) 50 4 (.slice (some ⟨g, 0, none⟩) (n + 1) cap) (n + 1) (scells (spL t f k)) := by
        have := HO3.out.below ((Below.refl W1.heap.size W1).alloc (Nat.le_refl _) (.cells #[.int .i64 (f + (k : Int)), .int .i64 (f + (k : Int) + 1), .int .i64 x3, .int .i64 x4] 50))
        unfold OwnS at this
        rw [← HLN.out] at this
        exact this
      have HZk : Hid (∀ (gg cap1 : Nat) (w9 : World), w9.ownsRow (w.heap.size + 1) 50 4 (.slice (some ⟨gg, 0, none⟩) ((n + 1) + 1) cap1) ((n + 1) + 1) (scells (spL t f k) ++ [.int .i64 (f + (k : Int)), .int .i64 (f + (k : Int) + 1), .int .i64 x3, .int .i64 x4]) → (W1.alloc (.cells #[.int .i64 (f + (k : Int)), .int .i64 (f + (k : Int) + 1), .int .i64 x3, .int .i64 x4] 50)).grownBy w9 (Value.slice (some ⟨g, 0, none⟩) (n + 1) cap).ownBlock → OwnS w9 (w.heap.size + 1) (.slice (some ⟨gg, 0, none⟩) ((n + 1) + 1) cap1) (spL t f (k + 1)) ∧ (n + 1) + 1 = (spL t f (k + 1)).length ∧ Below w.heap.size w w9 ∧ TBx w9 w.heap.size t a) := fun gg cap1 w9 h1 h2 => by
        have hal : Below W1.heap.size W1 (W1.alloc (.cells #[.int .i64 (f + (k : Int)), .int .i64 (f + (k : Int) + 1), .int .i64 x3, .int .i64 x4] 50)) := (Below.refl _ _).alloc (Nat.le_refl _) _
        have hlen : (spL t f (k + 1)).length = (n + 1) + 1 := by rw [HNW.out, List.length_append, ← HLN.out]; rfl
        refine ⟨?_, hlen.symm, ?_, ?_⟩
        · unfold OwnS
          rw [hlen, HNW.out, scells_app, scells_sing]
          exact h1
        · have hb9 := HB3.out.trans (hal.mono HB3.out.size)
          exact Below.grown hb9 h2 hb9.size (fun q e => by simp [Value.ownBlock] at e; omega)
        · exact (h2.block _ (Nat.lt_of_lt_of_le HX5.out.lt hal.size) (by simp [Value.ownBlock]; omega)).trans (HX5.out.below hal)
      have hlow : w.heap.size + 1 ≤ W1.heap.size := by have := HO3.out.gl; omega
      clear hb3 HXX HCS HB3 HX5 HO2 HB2 HX2 HLN HNW hsame
      go_wp2_with (first | (at_builtin; (refine wpList_append_lies _ rfl (.tmp 82) (.tmp 89) 45 rfl (w.heap.size + 1) 50 ii (.agg #[.int .i64 0, .int .i64 0, .int .i64 0, .int .i64 0]) 4 32 Tryz.underlying45 HII.out.1 HII.out.2.1 HII.out.2.2.1 HII.out.2.2.2 rfl (by omega) _ _ _ rfl hown _ 1 1 [.int .i64 (f + (k : Int)), .int .i64 (f + (k : Int) + 1), .int .i64 x3, .int .i64 x4] rfl rfl (sa_new _ (f + (k : Int), f + (k : Int) + 1, x3, x4) _ (by simp)) (sa_one _ _ _ _) (by omega) (by unfold maxLen; omega) (by omega) (by simp; omega) _ rfl ?_; intro gg cap1 w9 hown1 hgrow hat hlt1; have HY : Hid _ := HZk.out gg cap1 w9 hown1 hgrow; clear hown1 hgrow hat hlt1)) | fail)
      go_roundw
      case rel => exact ⟨k + 1, (n + 1) + 1, gg, cap1, rfl, (by congr 1; omega), by omega, by omega, HY.out.1, HY.out.2.1, HY.out.2.2.1, HY.out.2.2.2⟩
      case measure => simp [intOf]; omega
    by_cases hp : phaseV t ((f + (k : Int)) % t.maj) = phaseV t ((f + (k : Int) - 1) % t.maj)
    rotate_left
    · have HK0 := hk
      have hk0 : k ≠ 0 := HK0
      have HDX : Hid (spL t f k = (spDC t f k).1 ++ [(spDC t f k).2]) := spL_some hk0
      have HPX : Hid ((spDC t f k).2.2.2.2 = phaseV t ((f + (k : Int) - 1) % t.maj)) := spDC_phase t f k hk0
      have hml : m = (spDC t f k).1.length + 1 := by have := HML.out; rw [HDX.out] at this; simpa using this
      obtain ⟨D, hD⟩ : ∃ D, (spDC t f k).1 = D := ⟨_, rfl⟩
      obtain ⟨y, hy2⟩ : ∃ y, (spDC t f k).2 = y := ⟨_, rfl⟩
      rw [hD] at hml HDX
      rw [hy2] at HDX HPX
      have HO2c : Hid (OwnS w2 (w.heap.size + 1) (.slice (some ⟨g, 0, none⟩) m cap) (spL t f k)) := HO2.out
      rw [HDX.out] at HO2c
      obtain ⟨n, hn⟩ : ∃ n, D.length = n := ⟨_, rfl⟩
      rw [hn] at hml
      subst hml
      have hs1 := HO2c.out.set1 (f + (k : Int) + 1)
      rw [hn] at hs1
      have c3 := hs1.2.2.1
      rw [HPX.out] at c3
      have hm1 : (0 : Int) < ((n + 1 : Nat) : Int) := by omega
      have hi1 : ((n + 1 : Nat) : Int) - 1 = (n : Int) := by omega
      have hi2 : (n : Int) < ((n + 1 : Nat) : Int) := by omega
      have hr0 : ¬ ((f + (k : Int)) % t.maj = 0) := hr
      have hr1 : (((f + (k : Int)) % t.maj) != 0) = true := by simpa using hr
      obtain ⟨z4, hz4⟩ : ∃ z, phaseV t ((f + (k : Int) - 1) % t.maj) = z := ⟨_, rfl⟩
      rw [hz4] at c3 hp
      have hp2 : (z4 == x4) = false := by simpa using fun e => hp (by rw [HX4.out]; exact e.symm)
      clear hs1
      have G14 := fun X => gr_cell (W0 := w2) k14 X
      have G3 := fun X => gr_cell (W0 := w2) c3 X
      go_wp2
      have hgr := gr_some w2
      refine region_alike (by kernel_rfl) (by kernel_rfl) ?_
      repeat (first | go_big_quiet_skip | (refine wpQuiet_load_row rfl 33 (.tmp 3) rfl w.heap.size rfl 33 (tbA t a) (0, 0) _ HXX.out Tryz.underlying33 rfl (by kernel_rfl) ?_; simp only [Act.put, List.setIfInBounds_toArray, List.set_cons_zero, List.set_cons_succ]) | go_big_quiet_step (first | (go_at_call 53; exact gr_call (HCS.out _ (by omega) (by omega) _))))
      refine wpQuiet_nil ?_
      intro _ hw'
      obtain ⟨X1, rfl⟩ := hw'
      have hb3 := X1.h
      generalize X1.w = W1 at hb3 ⊢
      have HB3 : Hid (Below w.heap.size w W1) := HB2.out.trans (hb3.mono HB2.out.size)
      have HX5 : Hid (TBx W1 w.heap.size t a) := HX2.out.below hb3
      have HO3 : Hid (OwnS W1 (w.heap.size + 1) (.slice (some ⟨g, 0, none⟩) (n + 1) cap) (spL t f k)) := HO2.out.below hb3
      have HNW : Hid (spL t f (k + 1) = spL t f k ++ [(f + (k : Int), f + (k : Int) + 1, x3, x4)]) := by
        show _ = _
        rw [spL_new hsame, HX3.out, HX4.out]
      have HLN : Hid ((n + 1) = (spL t f k).length) := HML.out
      have hown : (W1.alloc (.cells #[.int .i64 (f + (k : Int)), .int .i64 (f + (k : Int) + 1), .int .i64 x3, .int .i64 x4] 50)).ownsRow (w.heap.size + 1) 50 4 (.slice (some ⟨g, 0, none⟩) (n + 1) cap) (n + 1) (scells (spL t f k)) := by
        have := HO3.out.below ((Below.refl W1.heap.size W1).alloc (Nat.le_refl _) (.cells #[.int .i64 (f + (k : Int)), .int .i64 (f + (k : Int) + 1), .int .i64 x3, .int .i64 x4] 50))
        unfold OwnS at this
        rw [← HLN.out] at this
        exact this
      have HZk : Hid (∀ (gg cap1 : Nat) (w9 : World), w9.ownsRow (w.heap.size + 1) 50 4 (.slice (some ⟨gg, 0, none⟩) ((n + 1) + 1) cap1) ((n + 1) + 1) (scells (spL t f k) ++ [.int .i64 (f + (k : Int)), .int .i64 (f + (k : Int) + 1), .int .i64 x3, .int .i64 x4]) → (W1.alloc (.cells #[.int .i64 (f + (k : Int)), .int .i64 (f + (k : Int) + 1), .int .i64 x3, .int .i64 x4] 50)).grownBy w9 (Value.slice (some ⟨g, 0, none⟩) (n + 1) cap).ownBlock → OwnS w9 (w.heap.size + 1) (.slice (some ⟨gg, 0, none⟩) ((n + 1) + 1) cap1) (spL t f (k + 1)) ∧ (n + 1) + 1 = (spL t f (k + 1)).length ∧ Below w.heap.size w w9 ∧ TBx w9 w.heap.size t a) := fun gg cap1 w9 h1 h2 => by
        have hal : Below W1.heap.size W1 (W1.alloc (.cells #[.int .i64 (f + (k : Int)), .int .i64 (f + (k : Int) + 1), .int .i64 x3, .int .i64 x4] 50)) := (Below.refl _ _).alloc (Nat.le_refl _) _
        have hlen : (spL t f (k + 1)).length = (n + 1) + 1 := by rw [HNW.out, List.length_append, ← HLN.out]; rfl
        refine ⟨?_, hlen.symm, ?_, ?_⟩
        · unfold OwnS
          rw [hlen, HNW.out, scells_app, scells_sing]
          exact h1
        · have hb9 := HB3.out.trans (hal.mono HB3.out.size)
          exact Below.grown hb9 h2 hb9.size (fun q e => by simp [Value.ownBlock] at e; omega)
        · exact (h2.block _ (Nat.lt_of_lt_of_le HX5.out.lt hal.size) (by simp [Value.ownBlock]; omega)).trans (HX5.out.below hal)
      have hlow : w.heap.size + 1 ≤ W1.heap.size := by have := HO3.out.gl; omega
      clear hb3 HXX HCS HB3 HX5 HO2 HB2 HX2 HLN HNW hsame
      go_wp2_with (first | (at_builtin; (refine wpList_append_lies _ rfl (.tmp 82) (.tmp 89) 45 rfl (w.heap.size + 1) 50 ii (.agg #[.int .i64 0, .int .i64 0, .int .i64 0, .int .i64 0]) 4 32 Tryz.underlying45 HII.out.1 HII.out.2.1 HII.out.2.2.1 HII.out.2.2.2 rfl (by omega) _ _ _ rfl hown _ 1 1 [.int .i64 (f + (k : Int)), .int .i64 (f + (k : Int) + 1), .int .i64 x3, .int .i64 x4] rfl rfl (sa_new _ (f + (k : Int), f + (k : Int) + 1, x3, x4) _ (by simp)) (sa_one _ _ _ _) (by omega) (by unfold maxLen; omega) (by omega) (by simp; omega) _ rfl ?_; intro gg cap1 w9 hown1 hgrow hat hlt1; have HY : Hid _ := HZk.out gg cap1 w9 hown1 hgrow; clear hown1 hgrow hat hlt1)) | fail)
      go_roundw
      case rel => exact ⟨k + 1, (n + 1) + 1, gg, cap1, rfl, (by congr 1; omega), by omega, by omega, HY.out.1, HY.out.2.1, HY.out.2.2.1, HY.out.2.2.2⟩
      case measure => simp [intOf]; omega
    have hq : ¬ (slotV t ((f + (k : Int)) % t.maj) = slotV t ((f + (k : Int) - 1) % t.maj)) := fun e => hsame ⟨hk, hr, hp, e⟩
    have HK0 := hk
    have hk0 : k ≠ 0 := HK0
    have HDX : Hid (spL t f k = (spDC t f k).1 ++ [(spDC t f k).2]) := spL_some hk0
    have HPX : Hid ((spDC t f k).2.2.2.2 = phaseV t ((f + (k : Int) - 1) % t.maj)) := spDC_phase t f k hk0
    have hml : m = (spDC t f k).1.length + 1 := by have := HML.out; rw [HDX.out] at this; simpa using this
    obtain ⟨D, hD⟩ : ∃ D, (spDC t f k).1 = D := ⟨_, rfl⟩
    obtain ⟨y, hy2⟩ : ∃ y, (spDC t f k).2 = y := ⟨_, rfl⟩
    rw [hD] at hml HDX
    rw [hy2] at HDX HPX
    have HO2c : Hid (OwnS w2 (w.heap.size + 1) (.slice (some ⟨g, 0, none⟩) m cap) (spL t f k)) := HO2.out
    rw [HDX.out] at HO2c
    obtain ⟨n, hn⟩ : ∃ n, D.length = n := ⟨_, rfl⟩
    rw [hn] at hml
    subst hml
    have hs1 := HO2c.out.set1 (f + (k : Int) + 1)
    rw [hn] at hs1
    have c3 := hs1.2.2.1
    rw [HPX.out] at c3
    have hm1 : (0 : Int) < ((n + 1 : Nat) : Int) := by omega
    have hi1 : ((n + 1 : Nat) : Int) - 1 = (n : Int) := by omega
    have hi2 : (n : Int) < ((n + 1 : Nat) : Int) := by omega
    have hr0 : ¬ ((f + (k : Int)) % t.maj = 0) := hr
    have hr1 : (((f + (k : Int)) % t.maj) != 0) = true := by simpa using hr
    have hp2 := hp
    rw [HX4.out] at hp2
    rw [← hp2] at c3
    clear hp hp2
    have hq2 : (slotV t ((f + (k : Int)) % t.maj) == slotV t ((f + (k : Int) - 1) % t.maj)) = false := by simpa using hq
    clear hs1
    have G14 := fun X => gr_cell (W0 := w2) k14 X
    have G3 := fun X => gr_cell (W0 := w2) c3 X
    go_wp2
    have hgr := gr_some w2
    refine region_alike (by kernel_rfl) (by kernel_rfl) ?_
    repeat (first | go_big_quiet_skip | (refine wpQuiet_load_row rfl 33 (.tmp 3) rfl w.heap.size rfl 33 (tbA t a) (0, 0) _ HXX.out Tryz.underlying33 rfl (by kernel_rfl) ?_; simp only [Act.put, List.setIfInBounds_toArray, List.set_cons_zero, List.set_cons_succ]) | go_big_quiet_step (first | (go_at_call 53; exact gr_call (HCS.out _ (by omega) (by omega) _))))
    refine wpQuiet_nil ?_
    intro _ hw'
    obtain ⟨X1, rfl⟩ := hw'
    have hb3 := X1.h
    generalize X1.w = W1 at hb3 ⊢
    have HB3 : Hid (Below w.heap.size w W1) := HB2.out.trans (hb3.mono HB2.out.size)
    have HX5 : Hid (TBx W1 w.heap.size t a) := HX2.out.below hb3
    have HO3 : Hid (OwnS W1 (w.heap.size + 1) (.slice (some ⟨g, 0, none⟩) (n + 1) cap) (spL t f k)) := HO2.out.below hb3
    have HNW : Hid (spL t f (k + 1) = spL t f k ++ [(f + (k : Int), f + (k : Int) + 1, x3, x4)]) := by
      show _ = _
      rw [spL_new hsame, HX3.out, HX4.out]
    have HLN : Hid ((n + 1) = (spL t f k).length) := HML.out
    have hown : (W1.alloc (.cells #[.int .i64 (f + (k : Int)), .int .i64 (f + (k : Int) + 1), .int .i64 x3, .int .i64 x4] 50)).ownsRow (w.heap.size + 1) 50 4 (.slice (some ⟨g, 0, none⟩) (n + 1) cap) (n + 1) (scells (spL t f k)) := by
      have := HO3.out.below ((Below.refl W1.heap.size W1).alloc (Nat.le_refl _) (.cells #[.int .i64 (f + (k : Int)), .int .i64 (f + (k : Int) + 1), .int .i64 x3, .int .i64 x4] 50))
      unfold OwnS at this
      rw [← HLN.out] at this
      exact this
    have HZk : Hid (∀ (gg cap1 : Nat) (w9 : World), w9.ownsRow (w.heap.size + 1) 50 4 (.slice (some ⟨gg, 0, none⟩) ((n + 1) + 1) cap1) ((n + 1) + 1) (scells (spL t f k) ++ [.int .i64 (f + (k : Int)), .int .i64 (f + (k : Int) + 1), .int .i64 x3, .int .i64 x4]) → (W1.alloc (.cells #[.int .i64 (f + (k : Int)), .int .i64 (f + (k : Int) + 1), .int .i64 x3, .int .i64 x4] 50)).grownBy w9 (Value.slice (some ⟨g, 0, none⟩) (n + 1) cap).ownBlock → OwnS w9 (w.heap.size + 1) (.slice (some ⟨gg, 0, none⟩) ((n + 1) + 1) cap1) (spL t f (k + 1)) ∧ (n + 1) + 1 = (spL t f (k + 1)).length ∧ Below w.heap.size w w9 ∧ TBx w9 w.heap.size t a) := fun gg cap1 w9 h1 h2 => by
      have hal : Below W1.heap.size W1 (W1.alloc (.cells #[.int .i64 (f + (k : Int)), .int .i64 (f + (k : Int) + 1), .int .i64 x3, .int .i64 x4] 50)) := (Below.refl _ _).alloc (Nat.le_refl _) _
      have hlen : (spL t f (k + 1)).length = (n + 1) + 1 := by rw [HNW.out, List.length_append, ← HLN.out]; rfl
      refine ⟨?_, hlen.symm, ?_, ?_⟩
      · unfold OwnS
        rw [hlen, HNW.out, scells_app, scells_sing]
        exact h1
      · have hb9 := HB3.out.trans (hal.mono HB3.out.size)
        exact Below.grown hb9 h2 hb9.size (fun q e => by simp [Value.ownBlock] at e; omega)
      · exact (h2.block _ (Nat.lt_of_lt_of_le HX5.out.lt hal.size) (by simp [Value.ownBlock]; omega)).trans (HX5.out.below hal)
    have hlow : w.heap.size + 1 ≤ W1.heap.size := by have := HO3.out.gl; omega
    clear hb3 HXX HCS HB3 HX5 HO2 HB2 HX2 HLN HNW hsame
    go_wp2_with (first | (at_builtin; (refine wpList_append_lies _ rfl (.tmp 82) (.tmp 89) 45 rfl (w.heap.size + 1) 50 ii (.agg #[.int .i64 0, .int .i64 0, .int .i64 0, .int .i64 0]) 4 32 Tryz.underlying45 HII.out.1 HII.out.2.1 HII.out.2.2.1 HII.out.2.2.2 rfl (by omega) _ _ _ rfl hown _ 1 1 [.int .i64 (f + (k : Int)), .int .i64 (f + (k : Int) + 1), .int .i64 x3, .int .i64 x4] rfl rfl (sa_new _ (f + (k : Int), f + (k : Int) + 1, x3, x4) _ (by simp)) (sa_one _ _ _ _) (by omega) (by unfold maxLen; omega) (by omega) (by simp; omega) _ rfl ?_; intro gg cap1 w9 hown1 hgrow hat hlt1; have HY : Hid _ := HZk.out gg cap1 w9 hown1 hgrow; clear hown1 hgrow hat hlt1)) | fail)
    go_roundw
    case rel => exact ⟨k + 1, (n + 1) + 1, gg, cap1, rfl, (by congr 1; omega), by omega, by omega, HY.out.1, HY.out.2.1, HY.out.2.2.1, HY.out.2.2.2⟩
    case measure => simp [intOf]; omega

end Go.Proofs.YtlomcdgfcocmmaaGreatDoor
namespace Go.Proofs.YtlomcdgfcocmmaaGreatDoor
open Go.ChangeShapes Go.WideShapes Go.ChangeAt Go.RowKit Go.Deep Go.Joins
set_option linter.unusedVariables false

theorem tabE_pos {w : World} (h : TabE w) : 0 < w.heap.size := Nat.lt_of_le_of_lt (Nat.zero_le _) (World.block_lt_of_cell? w _ (h 0 (by omega)))
theorem spAll_len (t : Tb) (f u : Int) : (spAll t f u).length ≤ 5000 := by
  unfold spAll
  split
  · rename_i h
    have := (spL_len t f (u - f).toNat).1
    have h2 := h.2.2.2.2
    omega
  · simp
theorem spec_spans' (t : Tb) (a : Ad) (f u : Int) (w : World) (hm : TM 0 w t a) (hw : TW t a) (hs : TS a) : Calls Tryz.prog 22 #[tbV t a, .int .i64 f, .int .i64 u] w fun e w' => ∃ A c, e = .returned (.slice A (spAll t f u).length c) ∧ Below w.heap.size w w' ∧ OS w' w.heap.size w'.heap.size A (spAll t f u).length (saX (spAll t f u)) :=
  (spec_spans t a f u w hm hw hs).mono fun e w' ⟨v, he, ho, hb⟩ => by
    obtain ⟨A, c, rfl, h⟩ := ho.os
    exact ⟨A, c, he, hb, h.wide (by omega) (Nat.le_refl _)⟩
theorem impl_spans' (t : Tb) (a : Ad) (f u : Int) (w : World) (hm : TM 0 w t a) (hw : TW t a) (hs : TS a) (he : TabE w) (hcp : a.pn ≤ a.pc) (hcs : a.sn ≤ a.sc) : Calls Tryz.prog 21 #[tbV t a, .int .i64 f, .int .i64 u] w fun e w' => ∃ A c, e = .returned (.slice A (spAll t f u).length c) ∧ Below w.heap.size w w' ∧ OS w' w.heap.size w'.heap.size A (spAll t f u).length (saX (spAll t f u)) :=
  (impl_spans t a f u w hm hw hs he hcp hcs).mono fun e w' ⟨v, he, ho, hb⟩ => by
    obtain ⟨A, c, rfl, h⟩ := ho.os
    exact ⟨A, c, he, hb, h.wide (by omega) (Nat.le_refl _)⟩
end Go.Proofs.YtlomcdgfcocmmaaGreatDoor
namespace Go.Proofs.YtlomcdgfcocmmaaGreatDoor
open Go.ChangeShapes Go.WideShapes Go.ChangeAt Go.RowKit Go.Deep Go.Joins
set_option linter.unusedVariables false

theorem ext_sa {xs ys : List saT} (hl : xs.length = ys.length) (h : ∀ i, i < xs.length → xs.getD i sa0 = ys.getD i sa0) : xs = ys := by
  refine List.ext_getElem hl fun i h1 h2 => ?_
  have := h i h1
  simpa [List.getD, h1, h2] using this
set_option maxRecDepth 20000 in
set_option maxHeartbeats 4000000 in
theorem eq_sa (a b : Option Addr) (ca cb : Nat) (xs ys : List saT) (q : Bool) (w : World) (ha : GSeg 4 w a xs.length (saX xs)) (hb : GSeg 4 w b ys.length (saX ys)) (hx : xs.length ≤ 1048576) (hy : ys.length ≤ 1048576) (hq : decide (xs = ys) = q) :
    Calls Tryz.prog 54 #[.slice a xs.length ca, .slice b ys.length cb] w fun e w' => e = .returned (.bool q) ∧ Below w.heap.size w w' := by
  have HS : Hid ((GSeg 4 w a xs.length (saX xs)) ∧ (GSeg 4 w b ys.length (saX ys))) := And.intro ha hb
  have HQ : Hid (decide (xs = ys) = q) := hq
  clear ha hb hq
  by_cases hl : xs.length = ys.length
  rotate_left
  · have hlb : ((xs.length : Int) != (ys.length : Int)) = true := by simp; omega
    have HT : Hid (q = false) := by show _ = _; rw [← HQ.out]; exact decide_eq_false (fun e => hl (by rw [e]))
    clear hl
    go_enter Tryz.func54, Tryz.ntmps54
    go_wp2
    go_ret
    exact ⟨by rw [HT.out]; rfl, Below.refl _ _⟩
  have HL : Hid (xs.length = ys.length) := hl
  obtain ⟨n, hn⟩ : ∃ n, n = xs.length := ⟨_, rfl⟩
  rw [← hl, ← hn]
  rw [← hn] at hx
  have hlb : ((n : Int) != (n : Int)) = false := by simp
  clear hl hy
  go_enter Tryz.func54, Tryz.ntmps54
  go_wp2
  go_loopw [13] (fun i wr => ∃ k : Nat, k ≤ n ∧ i = .int .i64 k ∧ Hid (Below w.heap.size w wr ∧ ∀ j, j < k → xs.getD j sa0 = ys.getD j sa0)) (fun i _ => n - (intOf i).toNat)
  case atStart => exact ⟨0, by omega, rfl, Below.refl _ _, fun j hj => by omega⟩
  case round =>
    obtain ⟨k, hk, rfl, HR⟩ := hrel
    by_cases hkn : k < n
    rotate_left
    · obtain rfl : k = n := by omega
      have hkk : ¬ ((k : Int) < (k : Int)) := by omega
      have HT : Hid (q = true) := by show _ = _; rw [← HQ.out]; exact decide_eq_true (ext_sa HL.out (by rw [← hn]; exact HR.out.2))
      go_wp2
      go_ret
      exact ⟨by rw [HT.out]; rfl, HR.out.1⟩
    have hkn' : (k : Int) < (n : Int) := by omega
    have HBW : Hid (Below w.heap.size w wr) := HR.out.1
    obtain ⟨b1, o1, rfl, hbl1, p1⟩ := HS.out.1.at k (by omega)
    obtain ⟨b2, o2, rfl, hbl2, p2⟩ := HS.out.2.at k (by have := HL.out; omega)
    replace p1 := p1.of (w' := wr) (fun j => HBW.out.cell (p := ⟨b1, j, none⟩) hbl1)
    replace p2 := p2.of (w' := wr) (fun j => HBW.out.cell (p := ⟨b2, j, none⟩) hbl2)
    simp only [saX] at p1 p2
    obtain ⟨x, HX⟩ : ∃ x, Hid (xs.getD k sa0 = x) := ⟨_, rfl⟩
    obtain ⟨y, HY⟩ : ∃ y, Hid (ys.getD k sa0 = y) := ⟨_, rfl⟩
    rw [HX.out] at p1
    rw [HY.out] at p2
    obtain ⟨c0, c1, c2, c3⟩ := sa_cells p1
    obtain ⟨d0, d1, d2, d3⟩ := sa_cells p2
    clear hbl1 hbl2 p1 p2
    by_cases hxy : x = y
    · subst hxy
      have HN : Hid (∀ j, j < k + 1 → xs.getD j sa0 = ys.getD j sa0) := fun j hj => by
        by_cases e : j = k
        · subst e; rw [HX.out, HY.out]
        · exact HR.out.2 j (by omega)
      clear HR HX HY
      obtain ⟨x1, x2, x3, x4⟩ := x
      simp only at c0 c1 c2 c3 d0 d1 d2 d3
      replace c0 := fun X => gr_cell c0 X
      replace c1 := fun X => gr_cell c1 X
      replace c2 := fun X => gr_cell c2 X
      replace c3 := fun X => gr_cell c3 X
      replace d0 := fun X => gr_cell d0 X
      replace d1 := fun X => gr_cell d1 X
      replace d2 := fun X => gr_cell d2 X
      replace d3 := fun X => gr_cell d3 X
      go_wp2
      have hgr := gr_some wr
      refine region_alike (by kernel_rfl) (by kernel_rfl) ?_
      repeat (go_big_quiet_step (fail))
      refine wpQuiet_nil ?_
      intro _ hw'
      obtain ⟨X1, rfl⟩ := hw'
      have hb2 := X1.h
      generalize X1.w = W1 at hb2 ⊢
      have HB1 : Hid (Below w.heap.size w W1) := HBW.out.trans (hb2.mono HBW.out.size)
      clear hb2 c0 c1 c2 c3 d0 d1 d2 d3
      go_wp2
      go_roundw
      case rel => exact ⟨k + 1, by omega, by go_num, HB1.out, HN.out⟩
      case measure => simp [intOf]; omega
    · have HT : Hid (q = false) := by show _ = _; rw [← HQ.out]; exact decide_eq_false (fun e => hxy (by rw [← HX.out, ← HY.out, e]))
      clear HR
      obtain ⟨x1, x2, x3, x4⟩ := x
      obtain ⟨y1, y2, y3, y4⟩ := y
      simp only at c0 c1 c2 c3 d0 d1 d2 d3
      have hne : x1 ≠ y1 ∨ (x1 = y1 ∧ x2 ≠ y2) ∨ (x1 = y1 ∧ x2 = y2 ∧ x3 ≠ y3) ∨ (x1 = y1 ∧ x2 = y2 ∧ x3 = y3 ∧ x4 ≠ y4) := by simp only [Prod.mk.injEq] at hxy; omega
      clear hxy HX HY
      replace c0 := fun X => gr_cell c0 X
      replace c1 := fun X => gr_cell c1 X
      replace c2 := fun X => gr_cell c2 X
      replace c3 := fun X => gr_cell c3 X
      replace d0 := fun X => gr_cell d0 X
      replace d1 := fun X => gr_cell d1 X
      replace d2 := fun X => gr_cell d2 X
      replace d3 := fun X => gr_cell d3 X
      rcases hne with hd | ⟨rfl, hd⟩ | ⟨rfl, rfl, hd⟩ | ⟨rfl, rfl, rfl, hd⟩
      · have hdd := decide_eq_false hd
        go_wp2
        have hgr := gr_some wr
        refine region_alike (by kernel_rfl) (by kernel_rfl) ?_
        repeat (go_big_quiet_step (fail))
        refine wpQuiet_nil ?_
        intro _ hw'
        obtain ⟨X1, rfl⟩ := hw'
        have hb2 := X1.h
        generalize X1.w = W1 at hb2 ⊢
        have HB1 : Hid (Below w.heap.size w W1) := HBW.out.trans (hb2.mono HBW.out.size)
        clear hb2 c0 c1 c2 c3 d0 d1 d2 d3
        go_wp2
        go_ret
        exact ⟨by rw [HT.out]; rfl, HB1.out⟩
      · have hdd := decide_eq_false hd
        go_wp2
        have hgr := gr_some wr
        refine region_alike (by kernel_rfl) (by kernel_rfl) ?_
        repeat (go_big_quiet_step (fail))
        refine wpQuiet_nil ?_
        intro _ hw'
        obtain ⟨X1, rfl⟩ := hw'
        have hb2 := X1.h
        generalize X1.w = W1 at hb2 ⊢
        have HB1 : Hid (Below w.heap.size w W1) := HBW.out.trans (hb2.mono HBW.out.size)
        clear hb2 c0 c1 c2 c3 d0 d1 d2 d3
        go_wp2
        go_ret
        exact ⟨by rw [HT.out]; rfl, HB1.out⟩
      · have hdd := decide_eq_false hd
        go_wp2
        have hgr := gr_some wr
        refine region_alike (by kernel_rfl) (by kernel_rfl) ?_
        repeat (go_big_quiet_step (fail))
        refine wpQuiet_nil ?_
        intro _ hw'
        obtain ⟨X1, rfl⟩ := hw'
        have hb2 := X1.h
        generalize X1.w = W1 at hb2 ⊢
        have HB1 : Hid (Below w.heap.size w W1) := HBW.out.trans (hb2.mono HBW.out.size)
        clear hb2 c0 c1 c2 c3 d0 d1 d2 d3
        go_wp2
        go_ret
        exact ⟨by rw [HT.out]; rfl, HB1.out⟩
      · have hdd := decide_eq_false hd
        go_wp2
        have hgr := gr_some wr
        refine region_alike (by kernel_rfl) (by kernel_rfl) ?_
        repeat (go_big_quiet_step (fail))
        refine wpQuiet_nil ?_
        intro _ hw'
        obtain ⟨X1, rfl⟩ := hw'
        have hb2 := X1.h
        generalize X1.w = W1 at hb2 ⊢
        have HB1 : Hid (Below w.heap.size w W1) := HBW.out.trans (hb2.mono HBW.out.size)
        clear hb2 c0 c1 c2 c3 d0 d1 d2 d3
        go_wp2
        go_ret
        exact ⟨by rw [HT.out]; rfl, HB1.out⟩
/-- Whether a list is the spans, and not empty. -/
noncomputable def sokV (t : Tb) (f u : Int) (xs : List saT) : Bool := decide (xs.length ≠ 0 ∧ xs = spAll t f u)
set_option maxRecDepth 20000 in
set_option maxHeartbeats 8000000 in
theorem impl_sok (t : Tb) (a : Ad) (f u : Int) (b : Option Addr) (cb : Nat) (xs : List saT) (w : World) (hm : TM 0 w t a) (hw : TW t a) (hs : TS a) (he : TabE w) (hcp : a.pn ≤ a.pc) (hcs : a.sn ≤ a.sc) (hb : GSeg 4 w b xs.length (saX xs)) (hx : xs.length ≤ 1048576) :
    Calls Tryz.prog 23 #[tbV t a, .int .i64 f, .int .i64 u, .slice b xs.length cb] w fun e w' => e = .returned (.bool (sokV t f u xs)) ∧ Below w.heap.size w w' := by
  have HB0 : Hid (Below w.heap.size w (w.alloc (.cells (tbA t a) 33))) := (Below.refl _ _).alloc (Nat.le_refl _) _
  have HX0 : Hid (TBx (w.alloc (.cells (tbA t a) 33)) w.heap.size t a) := TBx.new w t a _ rfl
  have HSI : Hid (∀ X, Below w.heap.size w X → Calls Tryz.prog 21 #[tbV t a, .int .i64 f, .int .i64 u] X fun e w' => ∃ A c, e = .returned (.slice A (spAll t f u).length c) ∧ Below X.heap.size X w' ∧ OS w' X.heap.size w'.heap.size A (spAll t f u).length (saX (spAll t f u))) := fun X hX => impl_spans' t a f u X (hm.below hX) hw hs (he.below hX) hcp hcs
  have HXS : Hid (∀ X, Below w.heap.size w X → GSeg 4 X b xs.length (saX xs)) := fun X hX => hb.below hX
  have hzl : (spAll t f u).length ≤ 5000 := spAll_len t f u
  unfold sokV
  generalize spAll t f u = zs at HSI hzl ⊢
  obtain ⟨q, HQ⟩ : ∃ q : Bool, Hid (decide (xs.length ≠ 0 ∧ xs = zs) = q) := ⟨_, rfl⟩
  rw [HQ.out]
  clear hm hw hs he hcp hcs hb
  by_cases h0 : xs.length = 0
  · have HT : Hid (q = false) := by show _ = _; rw [← HQ.out]; exact decide_eq_false (fun h => h.1 h0)
    have hle : decide ((0 : Int) < (xs.length : Int)) = false := decide_eq_false (by omega)
    have hle2 : ¬ ((0 : Int) < (xs.length : Int)) := by omega
    generalize xs.length = n at hle hle2
    clear h0
    go_enter Tryz.func23, Tryz.ntmps23
    go_wp2
    go_ret
    exact ⟨by rw [HT.out]; rfl, HB0.out⟩
  have HEQ : Hid (∀ (A : Option Addr) (c : Nat) X, GSeg 4 X b xs.length (saX xs) → GSeg 4 X A zs.length (saX zs) → Calls Tryz.prog 54 #[.slice b xs.length cb, .slice A zs.length c] X fun e w' => e = .returned (.bool q) ∧ Below X.heap.size X w') := fun A c X h1 h2 => eq_sa b A cb c xs zs q X h1 h2 hx (by omega) (by rw [← HQ.out]; simp [h0])
  have hle2 : ((0 : Int) < (xs.length : Int)) := by omega
  obtain ⟨n, hn⟩ : ∃ n, xs.length = n := ⟨_, rfl⟩
  rw [hn] at HXS HEQ hle2 ⊢
  clear h0 hn HQ
  go_enter Tryz.func23, Tryz.ntmps23
  go_wp2_with (first | (refine wpList_load_rowG rfl 33 (.tmp 4) rfl w.heap.size rfl 33 (tbA t a) (0, 0) _ HX0.out Tryz.underlying33 rfl (by kernel_rfl) ?_) | (refine wpList_load_row rfl 33 (.tmp 4) rfl w.heap.size rfl 33 (tbA t a) (0, 0) _ HX0.out Tryz.underlying33 rfl (by kernel_rfl) ?_) | fail)
  refine Calls.mono (HSI.out _ HB0.out) ?_
  rintro e w1 ⟨A, c, rfl, hb1, hA⟩
  have HB1 : Hid (Below w.heap.size w w1) := HB0.out.trans (hb1.mono HB0.out.size)
  have HA : Hid (GSeg 4 w1 A zs.length (saX zs)) := hA.2
  clear hb1 hA HB0 HX0 HSI
  go_wp2_with fail
  refine Calls.mono (HEQ.out A c _ (HXS.out _ HB1.out) HA.out) ?_
  rintro e w2 ⟨rfl, hb2⟩
  have HB2 : Hid (Below w.heap.size w w2) := HB1.out.trans (hb2.mono HB1.out.size)
  clear hb2 HB1 HA HEQ HXS
  cases q
  · go_wp2
    go_ret
    exact ⟨rfl, HB2.out⟩
  · go_wp2
    go_ret
    exact ⟨rfl, HB2.out⟩
end Go.Proofs.YtlomcdgfcocmmaaGreatDoor
namespace Go.Proofs.YtlomcdgfcocmmaaGreatDoor
open Go.ChangeShapes Go.WideShapes Go.ChangeAt Go.RowKit Go.Deep Go.Joins
set_option linter.unusedVariables false

def SpG (t : Tb) (f z : Int) (x : saT) : Prop := f ≤ x.1 ∧ x.1 < x.2.1 ∧ x.2.1 ≤ z ∧ ∀ c, x.1 ≤ c → c < x.2.1 → InP t x.2.2.1 x.2.2.2 c
theorem SpG.more {t : Tb} {f z z' : Int} {x : saT} (h : SpG t f z x) (hz : z ≤ z') : SpG t f z' x := ⟨h.1, h.2.1, Int.le_trans h.2.2.1 hz, h.2.2.2⟩
theorem inp_same {t : Tb} {p q d : Int} (h : Same t d) (g : InP t p q (d - 1)) : InP t p q d := by
  unfold InP whoV at g ⊢
  rw [h.2.1, h.2.2]
  exact g
theorem spDC_good (t : Tb) (f : Int) : ∀ k : Nat, (∀ x ∈ (spDC t f k).1, SpG t f (f + (k : Int)) x) ∧ (k ≠ 0 → SpG t f (f + (k : Int)) (spDC t f k).2 ∧ (spDC t f k).2.2.1 = f + (k : Int)) := by
  intro k
  induction k with
  | zero => exact ⟨fun x hx => by simp [spDC] at hx, fun h => absurd rfl h⟩
  | succ k ih =>
    have hz : f + (k : Int) ≤ f + ((k + 1 : Nat) : Int) := by omega
    by_cases g : k ≠ 0 ∧ Same t (f + (k : Int))
    · obtain ⟨h1, h2⟩ := ih.2 g.1
      rw [spDC_on g]
      refine ⟨fun x hx => (ih.1 x hx).more hz, fun _ => ⟨⟨h1.1, ?_, ?_, fun c c1 c2 => ?_⟩, ?_⟩⟩
      · have := h1.2.1; show (spDC t f k).2.1 < f + (k : Int) + 1; omega
      · show f + (k : Int) + 1 ≤ _; omega
      · have c2' : c < f + (k : Int) + 1 := c2
        by_cases e : c < f + (k : Int)
        · exact h1.2.2.2 c c1 (by rw [h2]; exact e)
        · have ec : c = f + (k : Int) := by omega
          rw [ec]
          have h3 := h1.2.1
          exact inp_same g.2 (h1.2.2.2 (f + (k : Int) - 1) (by omega) (by omega))
      · show f + (k : Int) + 1 = _; omega
    · rw [spDC_new g]
      refine ⟨fun x hx => ?_, fun _ => ⟨⟨by show f ≤ f + (k : Int); omega, by show f + (k : Int) < f + (k : Int) + 1; omega, by show f + (k : Int) + 1 ≤ _; omega, fun c c1 c2 => ?_⟩, by show f + (k : Int) + 1 = _; omega⟩⟩
      · by_cases e : k = 0
        · subst e; simp [spL] at hx
        · have hx' : x ∈ spL t f k := hx
          rw [spL_some e, List.mem_append] at hx'
          rcases hx' with hx' | hx'
          · exact (ih.1 x hx').more hz
          · simp only [List.mem_cons, List.not_mem_nil, or_false] at hx'
            rw [hx']
            exact (ih.2 e).1.more hz
      · have c1' : f + (k : Int) ≤ c := c1
        have c2' : c < f + (k : Int) + 1 := c2
        have ec : c = f + (k : Int) := by omega
        rw [ec]
        exact ⟨rfl, rfl⟩
theorem spL_good (t : Tb) (f : Int) (k : Nat) : ∀ x ∈ spL t f k, SpG t f (f + (k : Int)) x := by
  intro x hx
  by_cases e : k = 0
  · subst e; simp [spL] at hx
  · rw [spL_some e, List.mem_append] at hx
    rcases hx with hx | hx
    · exact (spDC_good t f k).1 x hx
    · simp only [List.mem_cons, List.not_mem_nil, or_false] at hx
      rw [hx]
      exact ((spDC_good t f k).2 e).1
theorem spAll_ok {t : Tb} {f u : Int} (h : (spAll t f u).length ≠ 0) : SPok t f u ∧ spAll t f u = spL t f (u - f).toNat := by
  unfold spAll at h ⊢
  by_cases g : SPok t f u
  · rw [if_pos g]; exact ⟨g, rfl⟩
  · rw [if_neg g] at h; exact absurd rfl h
theorem getD_mem_sa {xs : List saT} {i : Nat} (h : i < xs.length) : xs.getD i sa0 ∈ xs := by
  rw [List.getD_eq_getElem?_getD, List.getElem?_eq_getElem h]
  exact List.getElem_mem h
theorem spAll_good {t : Tb} {f u : Int} {i : Nat} (h : i < (spAll t f u).length) : SpG t f u ((spAll t f u).getD i sa0) := by
  obtain ⟨g, e⟩ := spAll_ok (t := t) (f := f) (u := u) (by omega)
  have hm := getD_mem_sa h
  rw [e] at hm ⊢
  have := spL_good t f (u - f).toNat _ hm
  have h4 := g.2.2.2
  exact this.more (by omega)
theorem spAll_spGood {t : Tb} {f u : Int} {i : Nat} (h : i < (spAll t f u).length) : spGood t ((spAll t f u).getD i sa0) := by
  obtain ⟨g, e⟩ := spAll_ok (t := t) (f := f) (u := u) (by omega)
  have k := spAll_good h
  have h1 := g.2.1
  have h2 := g.2.2.1
  unfold IsC at h1 h2
  exact ⟨⟨by have := k.1; omega, k.2.1, by have := k.2.2.1; omega⟩, k.2.2.2⟩
theorem saD_set_eq {xs : List saT} {i : Nat} (x : saT) (h : i < xs.length) : (xs.set i x).getD i sa0 = x := by
  rw [List.getD_eq_getElem?_getD, List.getElem?_set, if_pos rfl, if_pos h]; rfl
theorem saD_set_ne {xs : List saT} {i j : Nat} (x : saT) (h : i ≠ j) : (xs.set i x).getD j sa0 = xs.getD j sa0 := by
  rw [List.getD_eq_getElem?_getD, List.getElem?_set, if_neg h, ← List.getD_eq_getElem?_getD]
/-- A list with the i-th span turned. -/
theorem turned {t : Tb} {f u : Int} {i : Nat} {x' : saT} (h : i < (spAll t f u).length) (hx : x'.1 = ((spAll t f u).getD i sa0).1) (hn : x'.2.2.2 ≠ ((spAll t f u).getD i sa0).2.2.2 ∨ x'.2.2.1 ≠ ((spAll t f u).getD i sa0).2.2.1) (hx2 : x'.2.1 = ((spAll t f u).getD i sa0).2.1) :
    blmV t ((spAll t f u).set i x') = (i : Int) ∧ sokV t f u ((spAll t f u).set i x') = false := by
  obtain ⟨g, e⟩ := spAll_ok (t := t) (f := f) (u := u) (by omega)
  have hg := spAll_good h
  constructor
  · unfold blmV
    rw [if_pos ⟨g.1, by rw [List.length_set]; exact spAll_len t f u⟩, List.length_set]
    refine blF_at (fun j hj => ?_) (fun k => ?_) _ h
    · rw [saD_set_ne _ (by omega)]
      exact spAll_spGood (by omega)
    · rw [saD_set_eq _ h] at k
      have k1 := k.2 x'.1 (Int.le_refl _) k.1.2.1
      have k2 := hg.2.2.2 x'.1 (by rw [hx]; exact Int.le_refl _) (by rw [hx]; exact hg.2.1)
      rcases hn with hn | hn
      · exact hn (k1.1.symm.trans k2.1)
      · exact hn (k1.2.symm.trans k2.2)
  · unfold sokV
    refine decide_eq_false (fun k => ?_)
    have k2 : ((spAll t f u).set i x').getD i sa0 = (spAll t f u).getD i sa0 := by rw [k.2]
    rw [saD_set_eq _ h] at k2
    rcases hn with hn | hn
    · exact hn (by rw [k2])
    · exact hn (by rw [k2])
theorem spAll_phase {t : Tb} {f u : Int} {i : Nat} (h : i < (spAll t f u).length) : 0 ≤ ((spAll t f u).getD i sa0).2.2.2 ∧ ((spAll t f u).getD i sa0).2.2.2 ≤ 3 := by
  have hg := spAll_good h
  have k := (hg.2.2.2 _ (Int.le_refl _) hg.2.1).1
  rw [← k]
  rcases phaseV_cases t (((spAll t f u).getD i sa0).1 % t.maj) with e | e | e | e <;> rw [e] <;> decide
theorem spAll_who {t : Tb} {f u : Int} {i : Nat} (h : i < (spAll t f u).length) (hp : t.ps.length ≤ 1048576) : -1 ≤ ((spAll t f u).getD i sa0).2.2.1 ∧ ((spAll t f u).getD i sa0).2.2.1 ≤ 1048576 := by
  obtain ⟨g, _⟩ := spAll_ok (t := t) (f := f) (u := u) (by omega)
  have hg := spAll_good h
  have k := (hg.2.2.2 _ (Int.le_refl _) hg.2.1).2
  rw [← k]
  unfold whoV
  rcases slotV_cases t (((spAll t f u).getD i sa0).1 % t.maj) with ⟨e, _⟩ | ⟨j, hj, e, _⟩
  · rw [e, if_pos (by decide)]; decide
  · rw [e, if_neg (by omega)]
    have := (sd_tm g.1).pt j hj
    show -1 ≤ (t.ss.getD j sl0).1 ∧ (t.ss.getD j sl0).1 ≤ 1048576
    omega
theorem scells_setj : ∀ (xs : List saT) (i : Nat) (hi : i < xs.length) (j : Nat) (hj : j < 4) (v : Value) (x' : saT) (hx : saL x' = (saL (xs.getD i sa0)).set j v), (scells xs).set (i * 4 + j) v = scells (xs.set i x')
  | [], i, hi, _, _, _, _, _ => absurd hi (by simp)
  | x :: xs, 0, hi, j, hj, v, x', hx => by
    have e : ∀ (y : saT) ys, scells (y :: ys) = saL y ++ scells ys := fun y ys => by simp [scells]
    rw [e, List.set_cons_zero, e, Nat.zero_mul, Nat.zero_add, List.set_append_left _ _ (by simpa [saL] using hj), hx]
    rfl
  | x :: xs, i + 1, hi, j, hj, v, x', hx => by
    have e : ∀ (y : saT) ys, scells (y :: ys) = saL y ++ scells ys := fun y ys => by simp [scells]
    have hl : (saL x).length = 4 := rfl
    rw [e, List.set_cons_succ, e, List.set_append_right _ _ (by rw [hl]; omega), hl, show (i + 1) * 4 + j - 4 = i * 4 + j by omega, scells_setj xs i (by simpa using hi) j hj v x' hx]
theorem OwnS.setj {W : World} {base g cap m : Nat} {xs : List saT} (h : OwnS W base (.slice (some ⟨g, 0, none⟩) m cap) xs) (i : Nat) (hi : i < xs.length) (j : Nat) (hj : j < 4) (v : Value) (x' : saT) (hx : saL x' = (saL (xs.getD i sa0)).set j v) :
    W.frozen? ⟨g, i * 4 + j, none⟩ = false ∧ (∀ q u, (saL (xs.getD i sa0))[q]? = some u → W.cell? ⟨g, i * 4 + q, none⟩ = some u) ∧ OwnS (W.setCell ⟨g, i * 4 + j, none⟩ v) base (.slice (some ⟨g, 0, none⟩) m cap) (xs.set i x') := by
  obtain ⟨a, cap', e, hcp, hs⟩ := h.seg
  injection e with e1 e2 e3
  subst e1
  obtain ⟨b, off, eb, hlt, hc⟩ := hs (by omega)
  cases eb
  have hcx := hc i hi
  rw [Nat.zero_add] at hcx
  rcases h.2 with ⟨h1, h2⟩ | ⟨g', cap2, cur, e', hb, hg, h1, h2, h3, h4⟩
  · omega
  · injection e' with e1 e2 e3
    cases e1
    refine ⟨by simp [World.frozen?, hg], fun q u hq => hcx q u hq, ?_, .inr ⟨g, cap2, cur.setIfInBounds (i * 4 + j) v, ?_, hb, ?_, ?_, h2, by simp [h3], ?_⟩⟩
    · rw [scells_len]
    · rw [e2, e3, List.length_set]
    · rw [setCell_eq_setRow W g (i * 4 + j) cur 50 (0, 0) _ hg, setRow_heap W g _ _ 50 (0, 0) hg]
    · rw [List.length_set]; exact h1
    · rw [Array.toList_setIfInBounds, List.take_set, List.length_set, h4, scells_setj xs i hi j hj v x' hx]
end Go.Proofs.YtlomcdgfcocmmaaGreatDoor
