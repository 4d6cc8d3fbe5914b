/-
  Which registers an instruction writes and reads: one list for the specification and the program, and what the program's own Writes and Reads return. Condition: the program's tables lie in memory as the program's text lays them.
-/
import Derived.Test.YtiekejplgoomfabDoorSpec
import Derived.Test.YtiekejplgoomfabDoorRegs
import Derived.Deep.RegionHeld3
namespace Go.Proofs.YtiekejplgoomfabDoor
open Go.ChangeShapes Go.WideShapes Go.ChangeAt Go.RowKit
set_option linter.unusedVariables false

def wr : List Int := [0, 1, 1, 1, 1, 1, 1, 1, 1, 1, 1, 1, 1, 1, 1, 1, 0, 1, 0, 0, 0, 0, 1, 0, 1, 1, 3, 3, 1, 0, 0, 0, 0]
def rd : List Int := [0, 6, 6, 6, 6, 6, 6, 6, 6, 6, 6, 6, 6, 2, 0, 2, 3, 2, 3, 3, 3, 3, 0, 2, 0, 2, 0, 0, 0, 1, 0, 0, 0]
def TabW (w : World) : Prop := ∀ i, i < 33 → w.cell? ⟨0, i, none⟩ = some (.int .i64 (wr.getD i 0))
def TabR (w : World) : Prop := ∀ i, i < 33 → w.cell? ⟨1, i, none⟩ = some (.int .i64 (rd.getD i 0))
theorem TabW.below {w w' : World} (h : TabW w) (hb : Below w.heap.size w w') : TabW w' := fun i hi =>
  (hb.cell (p := ⟨0, i, none⟩) (World.block_lt_of_cell? w _ (h i hi))).trans (h i hi)
theorem TabR.below {w w' : World} (h : TabR w) (hb : Below w.heap.size w w') : TabR w' := fun i hi =>
  (hb.cell (p := ⟨1, i, none⟩) (World.block_lt_of_cell? w _ (h i hi))).trans (h i hi)
theorem kp_0_1 (x : Int) : kp 0 1 x = 0 := by unfold kp; rw [if_pos (by decide)]
theorem kp_0_2 (x : Int) : kp 0 2 x = 0 := by unfold kp; rw [if_pos (by decide)]
theorem kp_0_4 (x : Int) : kp 0 4 x = 0 := by unfold kp; rw [if_pos (by decide)]
theorem kp_1_1 (x : Int) : kp 1 1 x = x := by unfold kp; rw [if_neg (by decide)]
theorem kp_1_2 (x : Int) : kp 1 2 x = 0 := by unfold kp; rw [if_pos (by decide)]
theorem kp_1_4 (x : Int) : kp 1 4 x = 0 := by unfold kp; rw [if_pos (by decide)]
theorem kp_2_1 (x : Int) : kp 2 1 x = 0 := by unfold kp; rw [if_pos (by decide)]
theorem kp_2_2 (x : Int) : kp 2 2 x = x := by unfold kp; rw [if_neg (by decide)]
theorem kp_2_4 (x : Int) : kp 2 4 x = 0 := by unfold kp; rw [if_pos (by decide)]
theorem kp_3_1 (x : Int) : kp 3 1 x = x := by unfold kp; rw [if_neg (by decide)]
theorem kp_3_2 (x : Int) : kp 3 2 x = x := by unfold kp; rw [if_neg (by decide)]
theorem kp_3_4 (x : Int) : kp 3 4 x = 0 := by unfold kp; rw [if_pos (by decide)]
theorem kp_6_1 (x : Int) : kp 6 1 x = 0 := by unfold kp; rw [if_pos (by decide)]
theorem kp_6_2 (x : Int) : kp 6 2 x = x := by unfold kp; rw [if_neg (by decide)]
theorem kp_6_4 (x : Int) : kp 6 4 x = x := by unfold kp; rw [if_neg (by decide)]
theorem kp_bd (f bit x : Int) (h1 : 0 ≤ x) (h2 : x ≤ 15) : 0 ≤ kp f bit x ∧ kp f bit x ≤ 15 := by
  unfold kp
  split <;> omega
theorem setOf_congr (zs ys : List Int) (h : ∀ r : Int, 1 ≤ r → zs.contains r = ys.contains r) : setOf zs = setOf ys := by
  unfold setOf
  apply List.filter_congr
  intro r hr
  obtain ⟨i, _, rfl⟩ := List.mem_map.1 hr
  exact h _ (by omega)
theorem not0 (r : Int) (h : 1 ≤ r) : ¬ r = 0 := by omega
theorem setOf_a (x : Int) : setOf [x, 0, 0] = setOf [x] := setOf_congr _ _ fun r h => by simp [not0 r h]
theorem setOf_b (x : Int) : setOf [0, x, 0] = setOf [x] := setOf_congr _ _ fun r h => by simp [not0 r h]
theorem setOf_ab (x y : Int) : setOf [x, y, 0] = setOf [x, y] := setOf_congr _ _ fun r h => by simp [not0 r h]
theorem setOf_bc (x y : Int) : setOf [0, x, y] = setOf [x, y] := setOf_congr _ _ fun r h => by simp [not0 r h]
theorem setOf_0 : setOf [0, 0, 0] = [] := by decide
/-- The registers that a form names. -/
def regset (f a b c : Int) : List Int := setOf [kp f 1 a, kp f 2 b, kp f 4 c]
theorem regset_0 (a b c : Int) : regset 0 a b c = [] := by unfold regset; rw [kp_0_1, kp_0_2, kp_0_4, setOf_0]
theorem regset_1 (a b c : Int) : regset 1 a b c = setOf [a] := by unfold regset; rw [kp_1_1, kp_1_2, kp_1_4, setOf_a]
theorem regset_2 (a b c : Int) : regset 2 a b c = setOf [b] := by unfold regset; rw [kp_2_1, kp_2_2, kp_2_4, setOf_b]
theorem regset_3 (a b c : Int) : regset 3 a b c = setOf [a, b] := by unfold regset; rw [kp_3_1, kp_3_2, kp_3_4, setOf_ab]
theorem regset_6 (a b c : Int) : regset 6 a b c = setOf [b, c] := by unfold regset; rw [kp_6_1, kp_6_2, kp_6_4, setOf_bc]
theorem wr_low : ∀ k : Fin 33, 1 ≤ k.val → k.val ≤ 15 → wr.getD k.val 0 = 1 := by decide
theorem wr_all : ∀ k : Fin 33, wr.getD k.val 0 = 0 ∨ (1 ≤ k.val ∧ k.val ≤ 15) ∨ k.val = 17 ∨ k.val = 22 ∨ k.val = 24 ∨ k.val = 25 ∨ k.val = 28 ∨ k.val = 26 ∨ k.val = 27 := by decide
theorem wr_none (k : Fin 33) (h : ¬ (1 ≤ k.val ∧ k.val ≤ 15)) (h1 : k.val ≠ 17) (h2 : k.val ≠ 22) (h3 : k.val ≠ 24) (h4 : k.val ≠ 25) (h5 : k.val ≠ 28) (h6 : k.val ≠ 26) (h7 : k.val ≠ 27) : wr.getD k.val 0 = 0 := by
  rcases wr_all k with g | g | g | g | g | g | g | g | g
  · exact g
  · exact absurd g h
  all_goals omega
theorem rd_low : ∀ k : Fin 33, 1 ≤ k.val → k.val ≤ 12 → rd.getD k.val 0 = 6 := by decide
theorem rd_mid : ∀ k : Fin 33, 19 ≤ k.val → k.val ≤ 21 → rd.getD k.val 0 = 3 := by decide
theorem rd_all : ∀ k : Fin 33, rd.getD k.val 0 = 0 ∨ (1 ≤ k.val ∧ k.val ≤ 12) ∨ (19 ≤ k.val ∧ k.val ≤ 21) ∨ k.val = 13 ∨ k.val = 15 ∨ k.val = 17 ∨ k.val = 23 ∨ k.val = 25 ∨ k.val = 16 ∨ k.val = 18 ∨ k.val = 29 := by decide
theorem rd_none (k : Fin 33) (h : ¬ (1 ≤ k.val ∧ k.val ≤ 12)) (h1 : k.val ≠ 13) (h2 : k.val ≠ 15) (h3 : k.val ≠ 17) (h4 : k.val ≠ 23) (h5 : k.val ≠ 25) (h6 : k.val ≠ 16) (h7 : k.val ≠ 18) (h8 : ¬ (19 ≤ k.val ∧ k.val ≤ 21)) (h9 : k.val ≠ 29) : rd.getD k.val 0 = 0 := by
  rcases rd_all k with g | g | g | g | g | g | g | g | g | g | g
  · exact g
  · exact absurd g h
  · exact absurd g h8
  all_goals omega
theorem to_nat {k n : Nat} (h : ((k : Int) == (n : Int)) = true) : k = n := by
  have := beq_iff_eq.1 h
  omega
theorem ne_nat {k n : Nat} (h : ((k : Int) == (n : Int)) = false) : k ≠ n := by
  have := beq_eq_false_iff_ne.1 h
  omega
theorem spec_writes (k : Nat) (a b c m : Int) (w : World) (hk : k < 33) (h : instrOk k a b c m = true) :
    Calls Tryd.prog 5 #[ins k a b c m] w fun e w' => ∃ ad cap, e = .returned (.slice ad (regset (wr.getD k 0) a b c).length cap) ∧ Seg .i64 w' ad (regset (wr.getD k 0) a b c) ∧ Below w.heap.size w w' := by
  by_cases hl : 1 ≤ k ∧ k ≤ 15
  · rw [wr_low ⟨k, hk⟩ hl.1 hl.2, regset_1]
    exact specW_low k a b c m w h (by omega) (by omega)
  · have hi : ¬ (1 ≤ (k : Int) ∧ (k : Int) ≤ 15) := by omega
    cases n17 : ((k : Int) == 17)
    case true =>
      obtain rfl : k = 17 := to_nat n17
      rw [show wr.getD 17 0 = 1 from rfl, regset_1]
      exact specW_17 _ a b c m w h hi n17
    case false =>
      cases n22 : ((k : Int) == 22)
      case true =>
        obtain rfl : k = 22 := to_nat n22
        rw [show wr.getD 22 0 = 1 from rfl, regset_1]
        exact specW_22 _ a b c m w h hi n17 n22
      case false =>
        cases n24 : ((k : Int) == 24)
        case true =>
          obtain rfl : k = 24 := to_nat n24
          rw [show wr.getD 24 0 = 1 from rfl, regset_1]
          exact specW_24 _ a b c m w h hi n17 n22 n24
        case false =>
          cases n25 : ((k : Int) == 25)
          case true =>
            obtain rfl : k = 25 := to_nat n25
            rw [show wr.getD 25 0 = 1 from rfl, regset_1]
            exact specW_25 _ a b c m w h hi n17 n22 n24 n25
          case false =>
            cases n28 : ((k : Int) == 28)
            case true =>
              obtain rfl : k = 28 := to_nat n28
              rw [show wr.getD 28 0 = 1 from rfl, regset_1]
              exact specW_28 _ a b c m w h hi n17 n22 n24 n25 n28
            case false =>
              cases n26 : ((k : Int) == 26)
              case true =>
                obtain rfl : k = 26 := to_nat n26
                rw [show wr.getD 26 0 = 3 from rfl, regset_3]
                exact specW_26 _ a b c m w h hi n17 n22 n24 n25 n28 n26
              case false =>
                cases n27 : ((k : Int) == 27)
                case true =>
                  obtain rfl : k = 27 := to_nat n27
                  rw [show wr.getD 27 0 = 3 from rfl, regset_3]
                  exact specW_27 _ a b c m w h hi n17 n22 n24 n25 n28 n26 n27
                case false =>
                  rw [wr_none ⟨k, hk⟩ hl (ne_nat n17) (ne_nat n22) (ne_nat n24) (ne_nat n25) (ne_nat n28) (ne_nat n26) (ne_nat n27), regset_0]
                  exact specW_none k a b c m w h hi n17 n22 n24 n25 n28 n26 n27
theorem spec_reads (k : Nat) (a b c m : Int) (w : World) (hk : k < 33) (h : instrOk k a b c m = true) :
    Calls Tryd.prog 11 #[ins k a b c m] w fun e w' => ∃ ad cap, e = .returned (.slice ad (regset (rd.getD k 0) a b c).length cap) ∧ Seg .i64 w' ad (regset (rd.getD k 0) a b c) ∧ Below w.heap.size w w' := by
  by_cases hl : 1 ≤ k ∧ k ≤ 12
  · rw [rd_low ⟨k, hk⟩ hl.1 hl.2, regset_6]
    exact specR_low k a b c m w h (by omega) (by omega)
  · have hi : ¬ (1 ≤ (k : Int) ∧ (k : Int) ≤ 12) := by omega
    cases n13 : ((k : Int) == 13)
    case true =>
      obtain rfl : k = 13 := to_nat n13
      rw [show rd.getD 13 0 = 2 from rfl, regset_2]
      exact specR_13 _ a b c m w h hi n13
    case false =>
      cases n15 : ((k : Int) == 15)
      case true =>
        obtain rfl : k = 15 := to_nat n15
        rw [show rd.getD 15 0 = 2 from rfl, regset_2]
        exact specR_15 _ a b c m w h hi n13 n15
      case false =>
        cases n17 : ((k : Int) == 17)
        case true =>
          obtain rfl : k = 17 := to_nat n17
          rw [show rd.getD 17 0 = 2 from rfl, regset_2]
          exact specR_17 _ a b c m w h hi n13 n15 n17
        case false =>
          cases n23 : ((k : Int) == 23)
          case true =>
            obtain rfl : k = 23 := to_nat n23
            rw [show rd.getD 23 0 = 2 from rfl, regset_2]
            exact specR_23 _ a b c m w h hi n13 n15 n17 n23
          case false =>
            cases n25 : ((k : Int) == 25)
            case true =>
              obtain rfl : k = 25 := to_nat n25
              rw [show rd.getD 25 0 = 2 from rfl, regset_2]
              exact specR_25 _ a b c m w h hi n13 n15 n17 n23 n25
            case false =>
              cases n16 : ((k : Int) == 16)
              case true =>
                obtain rfl : k = 16 := to_nat n16
                rw [show rd.getD 16 0 = 3 from rfl, regset_3]
                exact specR_16 _ a b c m w h hi n13 n15 n17 n23 n25 n16
              case false =>
                cases n18 : ((k : Int) == 18)
                case true =>
                  obtain rfl : k = 18 := to_nat n18
                  rw [show rd.getD 18 0 = 3 from rfl, regset_3]
                  exact specR_18 _ a b c m w h hi n13 n15 n17 n23 n25 n16 n18
                case false =>
                  by_cases hj : 19 ≤ k ∧ k ≤ 21
                  · rw [rd_mid ⟨k, hk⟩ hj.1 hj.2, regset_3]
                    exact specR_mid k a b c m w h hi n13 n15 n17 n23 n25 n16 n18 (by omega) (by omega)
                  · have hj' : ¬ (19 ≤ (k : Int) ∧ (k : Int) ≤ 21) := by omega
                    cases n29 : ((k : Int) == 29)
                    case true =>
                      obtain rfl : k = 29 := to_nat n29
                      rw [show rd.getD 29 0 = 1 from rfl, regset_1]
                      exact specR_29 _ a b c m w h hi n13 n15 n17 n23 n25 n16 n18 hj' n29
                    case false =>
                      rw [rd_none ⟨k, hk⟩ hl (ne_nat n13) (ne_nat n15) (ne_nat n17) (ne_nat n23) (ne_nat n25) (ne_nat n16) (ne_nat n18) hj (ne_nat n29), regset_0]
                      exact specR_none k a b c m w h hi n13 n15 n17 n23 n25 n16 n18 hj' n29
theorem instrOk_bounds (op a b c m : Int) (h : instrOk op a b c m = true) : 0 ≤ op ∧ op ≤ 32 ∧ 0 ≤ a ∧ a ≤ 15 ∧ 0 ≤ b ∧ b ≤ 15 ∧ 0 ≤ c ∧ c ≤ 15 ∧ -8192 ≤ m ∧ m ≤ 8191 := by
  by_cases ho : 0 ≤ op ∧ op < 33
  · obtain ⟨k, rfl⟩ := Int.eq_ofNat_of_zero_le ho.1
    by_cases hr : 0 ≤ a ∧ a ≤ 15 ∧ 0 ≤ b ∧ b ≤ 15 ∧ 0 ≤ c ∧ c ≤ 15 ∧ -8192 ≤ m ∧ m ≤ 8191
    · exact ⟨ho.1, by omega, hr⟩
    · rw [instrOk_far k a b c m _ (by omega) rfl hr] at h
      cases h
  · rw [instrOk_no op a b c m ho] at h
    cases h
theorem cell_kept {w w' : World} {a : Addr} {v : Value} (hb : Below w.heap.size w w') (h : w.cell? a = some v) : w'.cell? a = some v :=
  (hb.cell (World.block_lt_of_cell? w _ h)).trans h
end Go.Proofs.YtiekejplgoomfabDoor
