/-
  Whether a cache is right: the specification's own function tells it. Conditions: the rows and their ways are at most 1048576 together.
-/
import Derived.Test.YtifgmgehnbkbjaaRows
import Derived.Test.YtifgmgehnbkbjaaWeq
import Derived.Deep.QuietTactic
import Derived.BigQuiet
namespace Go.Proofs.Ytifgmgehnbkbjaa
open Go.ChangeShapes Go.WideShapes Go.ChangeAt Go.RowKit Go.Deep
set_option linter.unusedVariables false

abbrev tg (ws : List Wy) (i : Nat) : Int := (ws.getD i wd).1
def rowGood (ws : List Wy) (i : Nat) : Prop := (0 ≤ tg ws i ∧ tg ws i ≤ 65535) ∧ ∀ k, k < i → tg ws k ≠ tg ws i
def RowOk (y : Int) (ws : List Wy) : Prop := (ws.length : Int) ≤ y ∧ ∀ i, i < ws.length → rowGood ws i
def CacheOkP (s y l : Int) (n : Nat) (D : Nat → List Wy) : Prop := shapeOk s y l = true ∧ (n : Int) = s ∧ ∀ i, i < n → RowOk y (D i)
theorem told (P : Prop) : ∃ q : Bool, q = true ↔ P := by
  by_cases h : P
  · exact ⟨true, by simp [h]⟩
  · exact ⟨false, by simp [h]⟩
theorem told_no {P : Prop} {q : Bool} (hq : q = true ↔ P) (h : ¬ P) : false = q := by
  cases q
  · rfl
  · exact absurd (hq.1 rfl) h
theorem told_yes {P : Prop} {q : Bool} (hq : q = true ↔ P) (h : P) : true = q := (hq.2 h).symm
set_option maxHeartbeats 2000000 in
theorem spec_cachek (s y l : Int) (a : Option Addr) (cap n : Nat) (D : Nat → List Wy) (w : World) (hs : RSeg w a n D) (hn : n ≤ 1048576) (ht : tot D n ≤ 1048576) (q : Bool) (hq : q = true ↔ CacheOkP s y l n D) :
    Calls Try.prog 28 #[cch s y l (.slice a n cap)] w fun e w' => e = .returned (.bool q) ∧ Below w.heap.size w w' := by
  have HS : Hid _ := And.intro hs ht
  have HQ : Hid _ := hq
  clear hs ht hq
  by_cases hsh : shapeOk s y l = true
  rotate_left
  · have hsh' : shapeOk s y l = false := by simpa using hsh
    have HF : Hid (false = q) := told_no HQ.out (fun h => hsh h.1)
    clear hsh
    go_enter Try.func28, Try.ntmps28
    go_wp2_with fail
    refine (spec_shok s y l _).mono ?_
    rintro u w1 ⟨rfl, hb1⟩
    rw [hsh']
    have hb := ((Below.refl _ w).alloc (Nat.le_refl _) (.cells #[.int .i64 s, .int .i64 y, .int .i64 l, .slice a n cap] 43)).trans (hb1.mono (by simp))
    go_wp2
    go_ret
    exact ⟨ret_bool HF.out, hb⟩
  obtain ⟨sh, HSH⟩ : ∃ sh, Hid (shapeOk s y l = sh) := ⟨_, rfl⟩
  obtain rfl : sh = true := HSH.out.symm.trans hsh
  clear hsh
  go_enter Try.func28, Try.ntmps28
  go_wp2_with fail
  refine (spec_shok s y l _).mono ?_
  rintro u w1 ⟨rfl, hb1⟩
  rw [HSH.out]
  have hb := ((Below.refl _ w).alloc (Nat.le_refl _) (.cells #[.int .i64 s, .int .i64 y, .int .i64 l, .slice a n cap] 43)).trans (hb1.mono (by simp))
  have B0 := (Bk.new w #[.int .i64 s, .int .i64 y, .int .i64 l, .slice a n cap] 43 w.heap.size rfl).below hb1
  have k0 := B0.cell 0 _ rfl
  have k1 := B0.cell 1 _ rfl
  have k3 := B0.cell 3 _ rfl
  have HR : Hid _ := RSeg.below HS.out.1 hb
  have HB : Hid _ := hb
  have HK : Hid _ := And.intro k1 k3
  clear hb hb1 B0
  by_cases hns : (n : Int) = s
  rotate_left
  · have HF : Hid (false = q) := told_no HQ.out (fun h => hns h.2.1)
    have hns' : ((n : Int) == s) = false := by simpa using hns
    clear hns
    go_wp2
    go_ret
    exact ⟨ret_bool HF.out, HB.out⟩
  have HN : Hid (CacheOkP s y l n D ↔ ∀ i, i < n → RowOk y (D i)) := ⟨fun h => h.2.2, fun h => ⟨HSH.out, hns, h⟩⟩
  subst hns
  go_wp2
  clear k0 k1 k3
  go_loopw [3] (fun i wr => ∃ r : Nat, r ≤ n ∧ i = .int .i64 r ∧ Hid (Below w1.heap.size w1 wr) ∧ Hid (∀ j, j < r → RowOk y (D j))) (fun i _ => n - (intOf i).toNat)
  case atStart => exact ⟨0, by omega, rfl, Below.refl _ _, fun j hj => absurd hj (by omega)⟩
  case round =>
    obtain ⟨r, hr, rfl, HW, HJ⟩ := hrel
    have k1 := kept_cell HW.out HK.out.1
    have k3 := kept_cell HW.out HK.out.2
    by_cases hlt : r < n
    rotate_left
    · obtain rfl : r = n := by omega
      go_wp2
      go_ret
      exact ⟨ret_bool (told_yes HQ.out (HN.out.2 HJ.out)), HB.out.trans (HW.out.mono HB.out.size)⟩
    have hlt' : (r : Int) < (n : Int) := by omega
    obtain ⟨b1, o1, a1, c1, rfl, hbl1, e1, s1⟩ := RSeg.at (w := w1) HR.out r hlt
    replace e1 := kept_cell HW.out e1
    have hlen : (D r).length ≤ 1048576 := Nat.le_trans (tot_row D hlt) HS.out.2
    have HF : Hid (¬ RowOk y (D r) → false = q) := fun h => told_no HQ.out (fun g => h (HN.out.1 g r hlt))
    have HT : Hid (RowOk y (D r) → ∀ j, j < r + 1 → RowOk y (D j)) := fun g j hj => by
      by_cases e : j = r
      · subst e; exact g
      · exact HJ.out j (by omega)
    have HX : Hid _ := s1
    generalize D r = ws at e1 hlen HF HT HX
    clear s1 hbl1 HJ
    by_cases hy : y < (ws.length : Int)
    · have HF2 : Hid _ := HF.out (fun g => by have := g.1; omega)
      generalize ws.length = len at e1 hlen hy
      go_wp2
      go_ret
      exact ⟨ret_bool HF2.out, HB.out.trans (HW.out.mono HB.out.size)⟩
    have HL : Hid ((ws.length : Int) ≤ y) := by show _ ≤ _; omega
    obtain ⟨len, Hlen⟩ : ∃ len, Hid (ws.length = len) := ⟨_, rfl⟩
    rw [Hlen.out] at e1 hlen hy
    go_wp2
    clear k1 k3 e1
    go_loopw [5] (fun i wr' => ∃ i' : Nat, i' ≤ len ∧ i = .int .i64 i' ∧ Hid (Below w1.heap.size w1 wr') ∧ Hid (∀ j, j < i' → rowGood ws j)) (fun i _ => len - (intOf i).toNat)
    case atStart => exact ⟨0, by omega, rfl, HW, fun j hj => absurd hj (by omega)⟩
    case round =>
      obtain ⟨i, hi, rfl, HW2, HG⟩ := hrel
      clear HW
      by_cases hil : i < len
      rotate_left
      · obtain rfl : i = len := by omega
        have HT2 : Hid _ := HT.out ⟨HL.out, fun j hj => HG.out j (by rw [← Hlen.out]; exact hj)⟩
        go_wp2
        go_roundw
        case rel => exact ⟨r + 1, by omega, by go_num, HW2, HT2⟩
        case measure => simp [intOf]; omega
      have hil' : (i : Int) < (len : Int) := by omega
      obtain ⟨b2, o2, rfl, hbl2, c2, d2⟩ := WSeg.at (w := w1) HX.out i (by rw [Hlen.out]; exact hil)
      have HF3 : Hid (¬ rowGood ws i → false = q) := fun h => HF.out (fun g => h (g.2 i (by rw [Hlen.out]; exact hil)))
      have HT3 : Hid (rowGood ws i → ∀ j, j < i + 1 → rowGood ws j) := fun g j hj => by
        by_cases e : j = i
        · subst e; exact g
        · exact HG.out j (by omega)
      replace c2 := kept_cell HW2.out c2
      have HRG : Hid (rowGood ws i ↔ (0 ≤ tg ws i ∧ tg ws i ≤ 65535) ∧ ∀ k, k < i → tg ws k ≠ tg ws i) := Iff.rfl
      have HC2 : Hid (w1.cell? ⟨b2, o2 + i * 2, none⟩ = some (.int .i64 (ws.getD i wd).1)) := by
        obtain ⟨b, o, e, _, g, _⟩ := WSeg.at (w := w1) HX.out i (by rw [Hlen.out]; exact hil)
        cases e; exact g
      change _ = some (Value.int .i64 (tg ws i)) at c2
      change Hid (_ = some (Value.int .i64 (tg ws i))) at HC2
      generalize rowGood ws i = G at HF3 HT3 HRG
      generalize tg ws i = z at c2 HC2 HRG
      clear d2 hbl2 HG
      obtain ⟨qz, HQZ⟩ : ∃ qz, Hid (inr z 0 65535 = qz) := ⟨_, rfl⟩
      go_wp2_with fail
      refine (in_any z 0 65535 _).mono ?_
      rintro u w3 ⟨rfl, rfl⟩
      rw [HQZ.out]
      cases qz
      · have HF4 : Hid _ := HF3.out (fun g => by
          have := (HRG.out.1 g).1
          have h2 := inr_yes this
          rw [HQZ.out] at h2
          cases h2)
        go_wp2
        go_ret
        exact ⟨ret_bool HF4.out, HB.out.trans (HW2.out.mono HB.out.size)⟩
      have HZ : Hid _ := of_inr HQZ.out
      clear HQZ c2
      go_wp2
      go_loopw [6] (fun kk wr' => ∃ k : Nat, k ≤ i ∧ kk = .int .i64 k ∧ Hid (Below w1.heap.size w1 wr') ∧ Hid (∀ j, j < k → tg ws j ≠ z)) (fun kk _ => i - (intOf kk).toNat)
      case atStart => exact ⟨0, by omega, rfl, HW2, fun j hj => absurd hj (by omega)⟩
      case round =>
        obtain ⟨k, hk, rfl, HW3, HK3⟩ := hrel
        clear HW2
        by_cases hki : k < i
        rotate_left
        · obtain rfl : k = i := by omega
          have HT4 : Hid _ := HT3.out (HRG.out.2 ⟨HZ.out, HK3.out⟩)
          go_wp2
          go_roundw
          case rel => exact ⟨k + 1, by omega, by go_num, HW3, HT4⟩
          case measure => simp [intOf]; omega
        have hki' : (k : Int) < (i : Int) := by omega
        have c2 := kept_cell HW3.out HC2.out
        obtain ⟨b4, o4, e4, _, c4, _⟩ := WSeg.at (w := w1) HX.out k (by rw [Hlen.out]; omega)
        cases e4
        replace c4 := kept_cell HW3.out c4
        change _ = some (Value.int .i64 (tg ws k)) at c4
        have HF5 : Hid (tg ws k = z → false = q) := fun e => HF3.out (fun g => (HRG.out.1 g).2 k hki e)
        have HT5 : Hid (tg ws k ≠ z → ∀ j, j < k + 1 → tg ws j ≠ z) := fun g j hj => by
          by_cases e : j = k
          · subst e; exact g
          · exact HK3.out j (by omega)
        generalize tg ws k = v at c4 HF5 HT5
        have hkl : (k : Int) < (len : Int) := by omega
        by_cases hv : v = z
        · have hv' : (v == z) = true := by simpa using hv
          have HF6 : Hid _ := HF5.out hv
          clear hv HK3 HT5 HF5
          go_wp2
          go_quiet (fail)
          go_wp2
          go_ret
          exact ⟨ret_bool HF6.out, below_drewN (HB.out.trans (HW3.out.mono HB.out.size)) _⟩
        · have hv' : (v == z) = false := by simpa using hv
          have HT6 : Hid _ := HT5.out hv
          clear hv HK3 HT5 HF5
          go_wp2
          go_quiet (fail)
          go_wp2
          go_roundw
          case rel => exact ⟨k + 1, by omega, by go_num, below_drewN HW3.out _, HT6⟩
          case measure => simp [intOf]; omega
end Go.Proofs.Ytifgmgehnbkbjaa
