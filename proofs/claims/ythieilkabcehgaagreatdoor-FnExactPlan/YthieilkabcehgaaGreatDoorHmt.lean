
/-
  Marks that a law lays into tables of its own, as they then stand, and that tables still hold them. Conditions: the lists lie in blocks of their own, apart from each other, which may be written.
-/
import Derived.Test.YthieilkabcehgaaGreatDoorBas
import Derived.Test.YthieilkabcehgaaGreatDoorMkt
import Derived.Test.YthieilkabcehgaaGreatDoorLsw
namespace Go.Proofs.YthieilkabcehgaaGreatDoor
open Go.ChangeShapes Go.WideShapes Go.ChangeAt Go.RowKit Go.Deep Go.Joins
set_option linter.unusedVariables false

/-- A mark of 1 numbers. -/
def mk1 (K0 : Int) (i : Nat) : List Value := [.int .i64 (K0 + 1 * (i : Int))]
/-- A mark of 3 numbers. -/
def mk3 (K0 : Int) (i : Nat) : List Value := [.int .i64 (K0 + 3 * (i : Int)), .int .i64 (K0 + 3 * (i : Int) + 1), .int .i64 (K0 + 3 * (i : Int) + 2)]
/-- A mark of 4 numbers. -/
def mk4 (K0 : Int) (i : Nat) : List Value := [.int .i64 (K0 + 4 * (i : Int)), .int .i64 (K0 + 4 * (i : Int) + 1), .int .i64 (K0 + 4 * (i : Int) + 2), .int .i64 (K0 + 4 * (i : Int) + 3)]
theorem GSeg.mkd {k l1 h1 lo hi n : Nat} {w0 w w' : World} {a : Option Addr} {X : Nat → List Value} (h : GSeg k w a n X) (r : WR k l1 h1 w0 a n) (hl : w0.heap.size ≤ w.heap.size) (g : Mk lo hi w w') (hd : h1 ≤ lo ∨ hi ≤ l1) : GSeg k w' a n X := fun h0 => by
  obtain ⟨b, off, e, q1, q2, q3, _⟩ := r h0
  obtain ⟨b', off', e', q4, q5⟩ := h h0
  rw [e] at e'
  cases e'
  have hbl : w'.heap[b]? = w.heap[b]? := g.b.block b q4 (by omega)
  exact ⟨b, off, e, Nat.lt_of_lt_of_le q4 g.b.size, fun i hin => (q5 i hin).of (fun j => World.cell?_of_block (a := ⟨b, j, none⟩) hbl)⟩
theorem Mk.wide {l1 h1 lo hi : Nat} {w w' : World} (h : Mk l1 h1 w w') (g1 : lo ≤ l1) (g2 : h1 ≤ hi) : Mk lo hi w w' := ⟨⟨h.b.os, h.b.tape, h.b.output, h.b.size, fun k hk ho => h.b.block k hk (by omega)⟩, h.c, h.f⟩
set_option maxRecDepth 40000 in
set_option maxHeartbeats 4000000 in
theorem mkv_ints (lo hi cap n : Nat) (K0 : Int) (a : Option Addr) (w : World) (ho : WR 1 lo hi w a n) (hn : n ≤ 1048576) (h0 : 0 ≤ K0) (hk : K0 ≤ 1125899906842624) :
    Calls Tryz.prog 16 #[.slice a n cap, .int .i64 K0] w fun e w' => e = .returned (.int .i64 (K0 + 1 * (n : Int))) ∧ Mk lo hi w w' ∧ GSeg 1 w' a n (mk1 K0) := by
  by_cases hn0 : n = 0
  · subst hn0
    go_enter Tryz.func16, Tryz.ntmps16
    go_wp2
    refine wp_loop_rounds 1 ?_
    rw [rounds_succ]
    go_wp2
    go_ret
    exact ⟨ret_int (by simp), Mk.refl _ _ _, fun h => absurd h (by omega)⟩
  obtain ⟨B, off, rfl, hB1, hB2, hB3, hc, hf⟩ := ho (by omega)
  have HC : Hid (∀ i j, i < n → j < 1 → ∃ u, w.cell? ⟨B, off + i * 1 + j, none⟩ = some u) := hc
  have HF : Hid (∀ j, w.frozen? ⟨B, j, none⟩ = false) := hf
  have HB : Hid (lo ≤ B ∧ B < hi ∧ B < w.heap.size) := ⟨hB1, hB2, hB3⟩
  clear hc hf ho hB1 hB2 hB3
  go_enter Tryz.func16, Tryz.ntmps16
  go_wp2
  go_loopw [1, 5] (fun t i wr => ∃ (m : Nat) (K : Int), m ≤ n ∧ K = K0 + 1 * (m : Int) ∧ i = .int .i64 m ∧ t = .int .i64 K ∧ Hid (Mk lo hi w wr) ∧ Hid (∀ i, i < m → CellsAt wr B (off + i * 1) (mk1 K0 i))) (fun _ i _ => n - (intOf i).toNat)
  case atStart => exact ⟨0, K0, by omega, by omega, rfl, rfl, Mk.refl _ _ _, fun i hi => by omega⟩
  case round =>
    obtain ⟨m, K, hm, hK, rfl, rfl, HR, HCM⟩ := hrel
    have HKE : Hid (K = K0 + 1 * (m : Int)) := hK
    have hKb : 0 ≤ K ∧ K ≤ 1125899911036928 := by omega
    clear hK
    by_cases hmn : m < n
    rotate_left
    · obtain rfl : m = n := by omega
      have HE : Hid (K = K0 + 1 * (m : Int)) := HKE.out
      clear HKE
      go_wp2
      go_ret
      exact ⟨ret_int HE.out, HR.out, fun _ => ⟨B, off, rfl, Nat.lt_of_lt_of_le HB.out.2.2 HR.out.b.size, HCM.out⟩⟩
    have hmn' : (m : Int) < (n : Int) := by omega
    obtain ⟨u0, c00⟩ := HR.out.c B (off + m * 1 + 0) HB.out.2.2 (HC.out m 0 hmn (by omega))
    have f0 : wr.frozen? ⟨B, off + m * 1, none⟩ = false := (HR.out.f B _ HB.out.2.2).trans (HF.out _)
    rw [Nat.add_zero] at c00
    rw [Nat.mul_one] at c00 f0
    have HR2 : Hid (Mk lo hi w (wr.setCell ⟨B, off + m, none⟩ (.int .i64 K))) := (HR.out.set HB.out.1 HB.out.2.1)
    have HC2 : Hid (∀ i, i < m + 1 → CellsAt (wr.setCell ⟨B, off + m, none⟩ (.int .i64 K)) B (off + i * 1) (mk1 K0 i)) := fun i hi j v hj => by
      have hjk : j < 1 := by
        have := (List.getElem?_eq_some_iff.1 hj).1
        simpa [mk1] using this
      by_cases e : i = m
      · subst e
        have hk := HKE.out
        unfold mk1 at hj
        rw [← hk] at hj
        obtain rfl : j = 0 := by omega
        simp at hj
        subst hj
        rw [Nat.mul_one, Nat.add_zero]
        exact World.cell?_setCell_same _ _ _ c00
      · have h0 := HCM.out i (by omega) j v hj
        rw [World.cell?_setCell_other _ _ _ _ (by intro c; injection c with c1 c2 c3; omega)]
        exact h0
    have HK2 : Hid (K + 1 = K0 + 1 * ((m + 1 : Nat) : Int)) := by have := HKE.out; show _ = _; omega
    have hw1 : IntKind.i64.wrap (K + 1) = K + 1 := by rw [IntKind.wrap_i64]; omega
    clear HR HKE HCM
    go_wp2
    go_roundw
    case rel => exact ⟨m + 1, K + 1, by omega, HK2.out, by go_num, by first | rfl | go_num, HR2.out, HC2.out⟩
    case measure => simp [intOf]; omega
set_option maxRecDepth 40000 in
set_option maxHeartbeats 4000000 in
theorem mkv_slots (lo hi cap n : Nat) (K0 : Int) (a : Option Addr) (w : World) (ho : WR 3 lo hi w a n) (hn : n ≤ 1048576) (h0 : 0 ≤ K0) (hk : K0 ≤ 1125899906842624) :
    Calls Tryz.prog 51 #[.slice a n cap, .int .i64 K0] w fun e w' => e = .returned (.int .i64 (K0 + 3 * (n : Int))) ∧ Mk lo hi w w' ∧ GSeg 3 w' a n (mk3 K0) := by
  by_cases hn0 : n = 0
  · subst hn0
    go_enter Tryz.func51, Tryz.ntmps51
    go_wp2
    refine wp_loop_rounds 1 ?_
    rw [rounds_succ]
    go_wp2
    go_ret
    exact ⟨ret_int (by simp), Mk.refl _ _ _, fun h => absurd h (by omega)⟩
  obtain ⟨B, off, rfl, hB1, hB2, hB3, hc, hf⟩ := ho (by omega)
  have HC : Hid (∀ i j, i < n → j < 3 → ∃ u, w.cell? ⟨B, off + i * 3 + j, none⟩ = some u) := hc
  have HF : Hid (∀ j, w.frozen? ⟨B, j, none⟩ = false) := hf
  have HB : Hid (lo ≤ B ∧ B < hi ∧ B < w.heap.size) := ⟨hB1, hB2, hB3⟩
  clear hc hf ho hB1 hB2 hB3
  go_enter Tryz.func51, Tryz.ntmps51
  go_wp2
  go_loopw [1, 5] (fun t i wr => ∃ (m : Nat) (K : Int), m ≤ n ∧ K = K0 + 3 * (m : Int) ∧ i = .int .i64 m ∧ t = .int .i64 K ∧ Hid (Mk lo hi w wr) ∧ Hid (∀ i, i < m → CellsAt wr B (off + i * 3) (mk3 K0 i))) (fun _ i _ => n - (intOf i).toNat)
  case atStart => exact ⟨0, K0, by omega, by omega, rfl, rfl, Mk.refl _ _ _, fun i hi => by omega⟩
  case round =>
    obtain ⟨m, K, hm, hK, rfl, rfl, HR, HCM⟩ := hrel
    have HKE : Hid (K = K0 + 3 * (m : Int)) := hK
    have hKb : 0 ≤ K ∧ K ≤ 1125899911036928 := by omega
    clear hK
    by_cases hmn : m < n
    rotate_left
    · obtain rfl : m = n := by omega
      have HE : Hid (K = K0 + 3 * (m : Int)) := HKE.out
      clear HKE
      go_wp2
      go_ret
      exact ⟨ret_int HE.out, HR.out, fun _ => ⟨B, off, rfl, Nat.lt_of_lt_of_le HB.out.2.2 HR.out.b.size, HCM.out⟩⟩
    have hmn' : (m : Int) < (n : Int) := by omega
    obtain ⟨u0, c00⟩ := HR.out.c B (off + m * 3 + 0) HB.out.2.2 (HC.out m 0 hmn (by omega))
    obtain ⟨u1, c10⟩ := HR.out.c B (off + m * 3 + 1) HB.out.2.2 (HC.out m 1 hmn (by omega))
    obtain ⟨u2, c20⟩ := HR.out.c B (off + m * 3 + 2) HB.out.2.2 (HC.out m 2 hmn (by omega))
    have f0 : wr.frozen? ⟨B, off + m * 3, none⟩ = false := (HR.out.f B _ HB.out.2.2).trans (HF.out _)
    have f1 : wr.frozen? ⟨B, off + m * 3 + 1, none⟩ = false := (HR.out.f B _ HB.out.2.2).trans (HF.out _)
    have f2 : wr.frozen? ⟨B, off + m * 3 + 2, none⟩ = false := (HR.out.f B _ HB.out.2.2).trans (HF.out _)
    rw [Nat.add_zero] at c00
    have d1 : (wr.setCell ⟨B, off + m * 3, none⟩ (.int .i64 K)).cell? ⟨B, off + m * 3 + 1, none⟩ = some u1 := by rw [World.cell?_setCell_other _ _ _ _ (by simp)]; exact c10
    have d2 : ((wr.setCell ⟨B, off + m * 3, none⟩ (.int .i64 K)).setCell ⟨B, off + m * 3 + 1, none⟩ (.int .i64 (K + 1))).cell? ⟨B, off + m * 3 + 2, none⟩ = some u2 := by rw [World.cell?_setCell_other _ _ _ _ (by simp), World.cell?_setCell_other _ _ _ _ (by simp)]; exact c20
    have HR2 : Hid (Mk lo hi w (((wr.setCell ⟨B, off + m * 3, none⟩ (.int .i64 K)).setCell ⟨B, off + m * 3 + 1, none⟩ (.int .i64 (K + 1))).setCell ⟨B, off + m * 3 + 2, none⟩ (.int .i64 (K + 2)))) := (((HR.out.set HB.out.1 HB.out.2.1).set HB.out.1 HB.out.2.1).set HB.out.1 HB.out.2.1)
    have HC2 : Hid (∀ i, i < m + 1 → CellsAt (((wr.setCell ⟨B, off + m * 3, none⟩ (.int .i64 K)).setCell ⟨B, off + m * 3 + 1, none⟩ (.int .i64 (K + 1))).setCell ⟨B, off + m * 3 + 2, none⟩ (.int .i64 (K + 2))) B (off + i * 3) (mk3 K0 i)) := fun i hi j v hj => by
      have hjk : j < 3 := by
        have := (List.getElem?_eq_some_iff.1 hj).1
        simpa [mk3] using this
      by_cases e : i = m
      · subst e
        have hk := HKE.out
        unfold mk3 at hj
        rw [← hk] at hj
        have : j = 0 ∨ j = 1 ∨ j = 2 := by omega
        rcases this with rfl | rfl | rfl
        · simp at hj
          subst hj
          rw [Nat.add_zero, World.cell?_setCell_other _ _ _ _ (by simp), World.cell?_setCell_other _ _ _ _ (by simp)]
          exact World.cell?_setCell_same _ _ _ c00
        · simp at hj
          subst hj
          rw [World.cell?_setCell_other _ _ _ _ (by simp)]
          exact World.cell?_setCell_same _ _ _ d1
        · simp at hj
          subst hj
          exact World.cell?_setCell_same _ _ _ d2
      · have h0 := HCM.out i (by omega) j v hj
        rw [World.cell?_setCell_other _ _ _ _ (by intro c; injection c with c1 c2 c3; omega), World.cell?_setCell_other _ _ _ _ (by intro c; injection c with c1 c2 c3; omega), World.cell?_setCell_other _ _ _ _ (by intro c; injection c with c1 c2 c3; omega)]
        exact h0
    have HK2 : Hid (K + 3 = K0 + 3 * ((m + 1 : Nat) : Int)) := by have := HKE.out; show _ = _; omega
    have hw1 : IntKind.i64.wrap (K + 1) = K + 1 := by rw [IntKind.wrap_i64]; omega
    have hw2 : IntKind.i64.wrap (K + 1 + 1) = K + 2 := by rw [IntKind.wrap_i64]; omega
    have hw3 : IntKind.i64.wrap (K + 2 + 1) = K + 3 := by rw [IntKind.wrap_i64]; omega
    clear HR HKE HCM
    go_wp2
    go_roundw
    case rel => exact ⟨m + 1, K + 3, by omega, HK2.out, by go_num, by first | rfl | go_num, HR2.out, HC2.out⟩
    case measure => simp [intOf]; omega
set_option maxRecDepth 40000 in
set_option maxHeartbeats 4000000 in
theorem mkv_chans (lo hi cap n : Nat) (K0 : Int) (a : Option Addr) (w : World) (ho : WR 4 lo hi w a n) (hn : n ≤ 1048576) (h0 : 0 ≤ K0) (hk : K0 ≤ 1125899906842624) :
    Calls Tryz.prog 50 #[.slice a n cap, .int .i64 K0] w fun e w' => e = .returned (.int .i64 (K0 + 4 * (n : Int))) ∧ Mk lo hi w w' ∧ GSeg 4 w' a n (mk4 K0) := by
  by_cases hn0 : n = 0
  · subst hn0
    go_enter Tryz.func50, Tryz.ntmps50
    go_wp2
    refine wp_loop_rounds 1 ?_
    rw [rounds_succ]
    go_wp2
    go_ret
    exact ⟨ret_int (by simp), Mk.refl _ _ _, fun h => absurd h (by omega)⟩
  obtain ⟨B, off, rfl, hB1, hB2, hB3, hc, hf⟩ := ho (by omega)
  have HC : Hid (∀ i j, i < n → j < 4 → ∃ u, w.cell? ⟨B, off + i * 4 + j, none⟩ = some u) := hc
  have HF : Hid (∀ j, w.frozen? ⟨B, j, none⟩ = false) := hf
  have HB : Hid (lo ≤ B ∧ B < hi ∧ B < w.heap.size) := ⟨hB1, hB2, hB3⟩
  clear hc hf ho hB1 hB2 hB3
  go_enter Tryz.func50, Tryz.ntmps50
  go_wp2
  go_loopw [1, 5] (fun t i wr => ∃ (m : Nat) (K : Int), m ≤ n ∧ K = K0 + 4 * (m : Int) ∧ i = .int .i64 m ∧ t = .int .i64 K ∧ Hid (Mk lo hi w wr) ∧ Hid (∀ i, i < m → CellsAt wr B (off + i * 4) (mk4 K0 i))) (fun _ i _ => n - (intOf i).toNat)
  case atStart => exact ⟨0, K0, by omega, by omega, rfl, rfl, Mk.refl _ _ _, fun i hi => by omega⟩
  case round =>
    obtain ⟨m, K, hm, hK, rfl, rfl, HR, HCM⟩ := hrel
    have HKE : Hid (K = K0 + 4 * (m : Int)) := hK
    have hKb : 0 ≤ K ∧ K ≤ 1125899911036928 := by omega
    clear hK
    by_cases hmn : m < n
    rotate_left
    · obtain rfl : m = n := by omega
      have HE : Hid (K = K0 + 4 * (m : Int)) := HKE.out
      clear HKE
      go_wp2
      go_ret
      exact ⟨ret_int HE.out, HR.out, fun _ => ⟨B, off, rfl, Nat.lt_of_lt_of_le HB.out.2.2 HR.out.b.size, HCM.out⟩⟩
    have hmn' : (m : Int) < (n : Int) := by omega
    obtain ⟨u0, c00⟩ := HR.out.c B (off + m * 4 + 0) HB.out.2.2 (HC.out m 0 hmn (by omega))
    obtain ⟨u1, c10⟩ := HR.out.c B (off + m * 4 + 1) HB.out.2.2 (HC.out m 1 hmn (by omega))
    obtain ⟨u2, c20⟩ := HR.out.c B (off + m * 4 + 2) HB.out.2.2 (HC.out m 2 hmn (by omega))
    obtain ⟨u3, c30⟩ := HR.out.c B (off + m * 4 + 3) HB.out.2.2 (HC.out m 3 hmn (by omega))
    have f0 : wr.frozen? ⟨B, off + m * 4, none⟩ = false := (HR.out.f B _ HB.out.2.2).trans (HF.out _)
    have f1 : wr.frozen? ⟨B, off + m * 4 + 1, none⟩ = false := (HR.out.f B _ HB.out.2.2).trans (HF.out _)
    have f2 : wr.frozen? ⟨B, off + m * 4 + 2, none⟩ = false := (HR.out.f B _ HB.out.2.2).trans (HF.out _)
    have f3 : wr.frozen? ⟨B, off + m * 4 + 3, none⟩ = false := (HR.out.f B _ HB.out.2.2).trans (HF.out _)
    rw [Nat.add_zero] at c00
    have d1 : (wr.setCell ⟨B, off + m * 4, none⟩ (.int .i64 K)).cell? ⟨B, off + m * 4 + 1, none⟩ = some u1 := by rw [World.cell?_setCell_other _ _ _ _ (by simp)]; exact c10
    have d2 : ((wr.setCell ⟨B, off + m * 4, none⟩ (.int .i64 K)).setCell ⟨B, off + m * 4 + 1, none⟩ (.int .i64 (K + 1))).cell? ⟨B, off + m * 4 + 2, none⟩ = some u2 := by rw [World.cell?_setCell_other _ _ _ _ (by simp), World.cell?_setCell_other _ _ _ _ (by simp)]; exact c20
    have d3 : (((wr.setCell ⟨B, off + m * 4, none⟩ (.int .i64 K)).setCell ⟨B, off + m * 4 + 1, none⟩ (.int .i64 (K + 1))).setCell ⟨B, off + m * 4 + 2, none⟩ (.int .i64 (K + 2))).cell? ⟨B, off + m * 4 + 3, none⟩ = some u3 := by rw [World.cell?_setCell_other _ _ _ _ (by simp), World.cell?_setCell_other _ _ _ _ (by simp), World.cell?_setCell_other _ _ _ _ (by simp)]; exact c30
    have HR2 : Hid (Mk lo hi w ((((wr.setCell ⟨B, off + m * 4, none⟩ (.int .i64 K)).setCell ⟨B, off + m * 4 + 1, none⟩ (.int .i64 (K + 1))).setCell ⟨B, off + m * 4 + 2, none⟩ (.int .i64 (K + 2))).setCell ⟨B, off + m * 4 + 3, none⟩ (.int .i64 (K + 3)))) := ((((HR.out.set HB.out.1 HB.out.2.1).set HB.out.1 HB.out.2.1).set HB.out.1 HB.out.2.1).set HB.out.1 HB.out.2.1)
    have HC2 : Hid (∀ i, i < m + 1 → CellsAt ((((wr.setCell ⟨B, off + m * 4, none⟩ (.int .i64 K)).setCell ⟨B, off + m * 4 + 1, none⟩ (.int .i64 (K + 1))).setCell ⟨B, off + m * 4 + 2, none⟩ (.int .i64 (K + 2))).setCell ⟨B, off + m * 4 + 3, none⟩ (.int .i64 (K + 3))) B (off + i * 4) (mk4 K0 i)) := fun i hi j v hj => by
      have hjk : j < 4 := by
        have := (List.getElem?_eq_some_iff.1 hj).1
        simpa [mk4] using this
      by_cases e : i = m
      · subst e
        have hk := HKE.out
        unfold mk4 at hj
        rw [← hk] at hj
        have : j = 0 ∨ j = 1 ∨ j = 2 ∨ j = 3 := by omega
        rcases this with rfl | rfl | rfl | rfl
        · simp at hj
          subst hj
          rw [Nat.add_zero, World.cell?_setCell_other _ _ _ _ (by simp), World.cell?_setCell_other _ _ _ _ (by simp), World.cell?_setCell_other _ _ _ _ (by simp)]
          exact World.cell?_setCell_same _ _ _ c00
        · simp at hj
          subst hj
          rw [World.cell?_setCell_other _ _ _ _ (by simp), World.cell?_setCell_other _ _ _ _ (by simp)]
          exact World.cell?_setCell_same _ _ _ d1
        · simp at hj
          subst hj
          rw [World.cell?_setCell_other _ _ _ _ (by simp)]
          exact World.cell?_setCell_same _ _ _ d2
        · simp at hj
          subst hj
          exact World.cell?_setCell_same _ _ _ d3
      · have h0 := HCM.out i (by omega) j v hj
        rw [World.cell?_setCell_other _ _ _ _ (by intro c; injection c with c1 c2 c3; omega), World.cell?_setCell_other _ _ _ _ (by intro c; injection c with c1 c2 c3; omega), World.cell?_setCell_other _ _ _ _ (by intro c; injection c with c1 c2 c3; omega), World.cell?_setCell_other _ _ _ _ (by intro c; injection c with c1 c2 c3; omega)]
        exact h0
    have HK2 : Hid (K + 4 = K0 + 4 * ((m + 1 : Nat) : Int)) := by have := HKE.out; show _ = _; omega
    have hw1 : IntKind.i64.wrap (K + 1) = K + 1 := by rw [IntKind.wrap_i64]; omega
    have hw2 : IntKind.i64.wrap (K + 1 + 1) = K + 2 := by rw [IntKind.wrap_i64]; omega
    have hw3 : IntKind.i64.wrap (K + 2 + 1) = K + 3 := by rw [IntKind.wrap_i64]; omega
    have hw4 : IntKind.i64.wrap (K + 3 + 1) = K + 4 := by rw [IntKind.wrap_i64]; omega
    clear HR HKE HCM
    go_wp2
    go_roundw
    case rel => exact ⟨m + 1, K + 4, by omega, HK2.out, by go_num, by first | rfl | go_num, HR2.out, HC2.out⟩
    case measure => simp [intOf]; omega
set_option maxRecDepth 40000 in
set_option maxHeartbeats 4000000 in
theorem mkv_wins (lo hi cap n : Nat) (K0 : Int) (a : Option Addr) (w : World) (ho : WR 3 lo hi w a n) (hn : n ≤ 1048576) (h0 : 0 ≤ K0) (hk : K0 ≤ 1125899906842624) :
    Calls Tryz.prog 84 #[.slice a n cap, .int .i64 K0] w fun e w' => e = .returned (.int .i64 (K0 + 3 * (n : Int))) ∧ Mk lo hi w w' ∧ GSeg 3 w' a n (mk3 K0) := by
  by_cases hn0 : n = 0
  · subst hn0
    go_enter Tryz.func84, Tryz.ntmps84
    go_wp2
    refine wp_loop_rounds 1 ?_
    rw [rounds_succ]
    go_wp2
    go_ret
    exact ⟨ret_int (by simp), Mk.refl _ _ _, fun h => absurd h (by omega)⟩
  obtain ⟨B, off, rfl, hB1, hB2, hB3, hc, hf⟩ := ho (by omega)
  have HC : Hid (∀ i j, i < n → j < 3 → ∃ u, w.cell? ⟨B, off + i * 3 + j, none⟩ = some u) := hc
  have HF : Hid (∀ j, w.frozen? ⟨B, j, none⟩ = false) := hf
  have HB : Hid (lo ≤ B ∧ B < hi ∧ B < w.heap.size) := ⟨hB1, hB2, hB3⟩
  clear hc hf ho hB1 hB2 hB3
  go_enter Tryz.func84, Tryz.ntmps84
  go_wp2
  go_loopw [1, 5] (fun t i wr => ∃ (m : Nat) (K : Int), m ≤ n ∧ K = K0 + 3 * (m : Int) ∧ i = .int .i64 m ∧ t = .int .i64 K ∧ Hid (Mk lo hi w wr) ∧ Hid (∀ i, i < m → CellsAt wr B (off + i * 3) (mk3 K0 i))) (fun _ i _ => n - (intOf i).toNat)
  case atStart => exact ⟨0, K0, by omega, by omega, rfl, rfl, Mk.refl _ _ _, fun i hi => by omega⟩
  case round =>
    obtain ⟨m, K, hm, hK, rfl, rfl, HR, HCM⟩ := hrel
    have HKE : Hid (K = K0 + 3 * (m : Int)) := hK
    have hKb : 0 ≤ K ∧ K ≤ 1125899911036928 := by omega
    clear hK
    by_cases hmn : m < n
    rotate_left
    · obtain rfl : m = n := by omega
      have HE : Hid (K = K0 + 3 * (m : Int)) := HKE.out
      clear HKE
      go_wp2
      go_ret
      exact ⟨ret_int HE.out, HR.out, fun _ => ⟨B, off, rfl, Nat.lt_of_lt_of_le HB.out.2.2 HR.out.b.size, HCM.out⟩⟩
    have hmn' : (m : Int) < (n : Int) := by omega
    obtain ⟨u0, c00⟩ := HR.out.c B (off + m * 3 + 0) HB.out.2.2 (HC.out m 0 hmn (by omega))
    obtain ⟨u1, c10⟩ := HR.out.c B (off + m * 3 + 1) HB.out.2.2 (HC.out m 1 hmn (by omega))
    obtain ⟨u2, c20⟩ := HR.out.c B (off + m * 3 + 2) HB.out.2.2 (HC.out m 2 hmn (by omega))
    have f0 : wr.frozen? ⟨B, off + m * 3, none⟩ = false := (HR.out.f B _ HB.out.2.2).trans (HF.out _)
    have f1 : wr.frozen? ⟨B, off + m * 3 + 1, none⟩ = false := (HR.out.f B _ HB.out.2.2).trans (HF.out _)
    have f2 : wr.frozen? ⟨B, off + m * 3 + 2, none⟩ = false := (HR.out.f B _ HB.out.2.2).trans (HF.out _)
    rw [Nat.add_zero] at c00
    have d1 : (wr.setCell ⟨B, off + m * 3, none⟩ (.int .i64 K)).cell? ⟨B, off + m * 3 + 1, none⟩ = some u1 := by rw [World.cell?_setCell_other _ _ _ _ (by simp)]; exact c10
    have d2 : ((wr.setCell ⟨B, off + m * 3, none⟩ (.int .i64 K)).setCell ⟨B, off + m * 3 + 1, none⟩ (.int .i64 (K + 1))).cell? ⟨B, off + m * 3 + 2, none⟩ = some u2 := by rw [World.cell?_setCell_other _ _ _ _ (by simp), World.cell?_setCell_other _ _ _ _ (by simp)]; exact c20
    have HR2 : Hid (Mk lo hi w (((wr.setCell ⟨B, off + m * 3, none⟩ (.int .i64 K)).setCell ⟨B, off + m * 3 + 1, none⟩ (.int .i64 (K + 1))).setCell ⟨B, off + m * 3 + 2, none⟩ (.int .i64 (K + 2)))) := (((HR.out.set HB.out.1 HB.out.2.1).set HB.out.1 HB.out.2.1).set HB.out.1 HB.out.2.1)
    have HC2 : Hid (∀ i, i < m + 1 → CellsAt (((wr.setCell ⟨B, off + m * 3, none⟩ (.int .i64 K)).setCell ⟨B, off + m * 3 + 1, none⟩ (.int .i64 (K + 1))).setCell ⟨B, off + m * 3 + 2, none⟩ (.int .i64 (K + 2))) B (off + i * 3) (mk3 K0 i)) := fun i hi j v hj => by
      have hjk : j < 3 := by
        have := (List.getElem?_eq_some_iff.1 hj).1
        simpa [mk3] using this
      by_cases e : i = m
      · subst e
        have hk := HKE.out
        unfold mk3 at hj
        rw [← hk] at hj
        have : j = 0 ∨ j = 1 ∨ j = 2 := by omega
        rcases this with rfl | rfl | rfl
        · simp at hj
          subst hj
          rw [Nat.add_zero, World.cell?_setCell_other _ _ _ _ (by simp), World.cell?_setCell_other _ _ _ _ (by simp)]
          exact World.cell?_setCell_same _ _ _ c00
        · simp at hj
          subst hj
          rw [World.cell?_setCell_other _ _ _ _ (by simp)]
          exact World.cell?_setCell_same _ _ _ d1
        · simp at hj
          subst hj
          exact World.cell?_setCell_same _ _ _ d2
      · have h0 := HCM.out i (by omega) j v hj
        rw [World.cell?_setCell_other _ _ _ _ (by intro c; injection c with c1 c2 c3; omega), World.cell?_setCell_other _ _ _ _ (by intro c; injection c with c1 c2 c3; omega), World.cell?_setCell_other _ _ _ _ (by intro c; injection c with c1 c2 c3; omega)]
        exact h0
    have HK2 : Hid (K + 3 = K0 + 3 * ((m + 1 : Nat) : Int)) := by have := HKE.out; show _ = _; omega
    have hw1 : IntKind.i64.wrap (K + 1) = K + 1 := by rw [IntKind.wrap_i64]; omega
    have hw2 : IntKind.i64.wrap (K + 1 + 1) = K + 2 := by rw [IntKind.wrap_i64]; omega
    have hw3 : IntKind.i64.wrap (K + 2 + 1) = K + 3 := by rw [IntKind.wrap_i64]; omega
    clear HR HKE HCM
    go_wp2
    go_roundw
    case rel => exact ⟨m + 1, K + 3, by omega, HK2.out, by go_num, by first | rfl | go_num, HR2.out, HC2.out⟩
    case measure => simp [intOf]; omega
set_option maxRecDepth 40000 in
set_option maxHeartbeats 4000000 in
theorem held_ints (a : Option Addr) (cap n : Nat) (K0 : Int) (w : World) (hs : GSeg 1 w a n (mk1 K0)) (hn : n ≤ 1048576) (h0 : 0 ≤ K0) (hk : K0 ≤ 1125899906842624) :
    Calls Tryz.prog 53 #[.slice a n cap, .int .i64 K0] w fun e w' => e = .returned (.int .i64 (K0 + 1 * (n : Int))) ∧ w' = w := by
  have HS : Hid (GSeg 1 w a n (mk1 K0)) := hs
  clear hs
  go_enter Tryz.func53, Tryz.ntmps53
  go_wp2
  go_loopw [1, 5] (fun t i wr => ∃ (m : Nat) (K : Int), m ≤ n ∧ K = K0 + 1 * (m : Int) ∧ i = .int .i64 m ∧ t = .int .i64 K ∧ wr = w) (fun _ i _ => n - (intOf i).toNat)
  case atStart => exact ⟨0, K0, by omega, by omega, rfl, rfl, rfl⟩
  case round =>
    obtain ⟨m, K, hm, hK, rfl, rfl, rfl⟩ := hrel
    have HKE : Hid (K = K0 + 1 * (m : Int)) := hK
    have hKb : 0 ≤ K ∧ K ≤ 1125899911036928 := by omega
    clear hK
    by_cases hlt : m < n
    · have hlt' : (m : Int) < (n : Int) := by omega
      obtain ⟨b1, o1, rfl, hbl1, p1⟩ := GSeg.at HS.out m hlt
      unfold mk1 at p1
      rw [← HKE.out] at p1
      have c0 : wr.cell? ⟨b1, o1 + m * 1, none⟩ = some (.int .i64 (K)) := p1 0 _ rfl
      rw [Nat.mul_one] at c0
      have HK2 : Hid (K + 1 = K0 + 1 * ((m + 1 : Nat) : Int)) := by have := HKE.out; show _ = _; omega
      have hw1 : IntKind.i64.wrap (K + 1) = K + 1 := by rw [IntKind.wrap_i64]; omega
      clear hbl1 p1 HKE
      go_wp2
      go_roundw
      case rel => exact ⟨m + 1, K + 1, by omega, HK2.out, by go_num, by first | rfl | go_num, by first | rfl | trivial⟩
      case measure => simp [intOf]; omega
    · obtain rfl : m = n := by omega
      go_wp2
      go_ret
      exact ⟨ret_int HKE.out, rfl⟩
set_option maxRecDepth 40000 in
set_option maxHeartbeats 4000000 in
theorem held_slots (a : Option Addr) (cap n : Nat) (K0 : Int) (w : World) (hs : GSeg 3 w a n (mk3 K0)) (hn : n ≤ 1048576) (h0 : 0 ≤ K0) (hk : K0 ≤ 1125899906842624) :
    Calls Tryz.prog 55 #[.slice a n cap, .int .i64 K0] w fun e w' => e = .returned (.int .i64 (K0 + 3 * (n : Int))) ∧ w' = w := by
  have HS : Hid (GSeg 3 w a n (mk3 K0)) := hs
  clear hs
  go_enter Tryz.func55, Tryz.ntmps55
  go_wp2
  go_loopw [1, 5] (fun t i wr => ∃ (m : Nat) (K : Int), m ≤ n ∧ K = K0 + 3 * (m : Int) ∧ i = .int .i64 m ∧ t = .int .i64 K ∧ wr = w) (fun _ i _ => n - (intOf i).toNat)
  case atStart => exact ⟨0, K0, by omega, by omega, rfl, rfl, rfl⟩
  case round =>
    obtain ⟨m, K, hm, hK, rfl, rfl, rfl⟩ := hrel
    have HKE : Hid (K = K0 + 3 * (m : Int)) := hK
    have hKb : 0 ≤ K ∧ K ≤ 1125899911036928 := by omega
    clear hK
    by_cases hlt : m < n
    · have hlt' : (m : Int) < (n : Int) := by omega
      obtain ⟨b1, o1, rfl, hbl1, p1⟩ := GSeg.at HS.out m hlt
      unfold mk3 at p1
      rw [← HKE.out] at p1
      have c0 : wr.cell? ⟨b1, o1 + m * 3, none⟩ = some (.int .i64 (K)) := p1 0 _ rfl
      have c1 : wr.cell? ⟨b1, o1 + m * 3 + 1, none⟩ = some (.int .i64 (K + 1)) := p1 1 _ rfl
      have c2 : wr.cell? ⟨b1, o1 + m * 3 + 2, none⟩ = some (.int .i64 (K + 2)) := p1 2 _ rfl
      have HK2 : Hid (K + 3 = K0 + 3 * ((m + 1 : Nat) : Int)) := by have := HKE.out; show _ = _; omega
      have hw1 : IntKind.i64.wrap (K + 1) = K + 1 := by rw [IntKind.wrap_i64]; omega
      have hw2 : IntKind.i64.wrap (K + 1 + 1) = K + 2 := by rw [IntKind.wrap_i64]; omega
      have hw3 : IntKind.i64.wrap (K + 2 + 1) = K + 3 := by rw [IntKind.wrap_i64]; omega
      clear hbl1 p1 HKE
      go_wp2
      go_roundw
      case rel => exact ⟨m + 1, K + 3, by omega, HK2.out, by go_num, by first | rfl | go_num, by first | rfl | trivial⟩
      case measure => simp [intOf]; omega
    · obtain rfl : m = n := by omega
      go_wp2
      go_ret
      exact ⟨ret_int HKE.out, rfl⟩
set_option maxRecDepth 40000 in
set_option maxHeartbeats 4000000 in
theorem held_chans (a : Option Addr) (cap n : Nat) (K0 : Int) (w : World) (hs : GSeg 4 w a n (mk4 K0)) (hn : n ≤ 1048576) (h0 : 0 ≤ K0) (hk : K0 ≤ 1125899906842624) :
    Calls Tryz.prog 54 #[.slice a n cap, .int .i64 K0] w fun e w' => e = .returned (.int .i64 (K0 + 4 * (n : Int))) ∧ w' = w := by
  have HS : Hid (GSeg 4 w a n (mk4 K0)) := hs
  clear hs
  go_enter Tryz.func54, Tryz.ntmps54
  go_wp2
  go_loopw [1, 5] (fun t i wr => ∃ (m : Nat) (K : Int), m ≤ n ∧ K = K0 + 4 * (m : Int) ∧ i = .int .i64 m ∧ t = .int .i64 K ∧ wr = w) (fun _ i _ => n - (intOf i).toNat)
  case atStart => exact ⟨0, K0, by omega, by omega, rfl, rfl, rfl⟩
  case round =>
    obtain ⟨m, K, hm, hK, rfl, rfl, rfl⟩ := hrel
    have HKE : Hid (K = K0 + 4 * (m : Int)) := hK
    have hKb : 0 ≤ K ∧ K ≤ 1125899911036928 := by omega
    clear hK
    by_cases hlt : m < n
    · have hlt' : (m : Int) < (n : Int) := by omega
      obtain ⟨b1, o1, rfl, hbl1, p1⟩ := GSeg.at HS.out m hlt
      unfold mk4 at p1
      rw [← HKE.out] at p1
      have c0 : wr.cell? ⟨b1, o1 + m * 4, none⟩ = some (.int .i64 (K)) := p1 0 _ rfl
      have c1 : wr.cell? ⟨b1, o1 + m * 4 + 1, none⟩ = some (.int .i64 (K + 1)) := p1 1 _ rfl
      have c2 : wr.cell? ⟨b1, o1 + m * 4 + 2, none⟩ = some (.int .i64 (K + 2)) := p1 2 _ rfl
      have c3 : wr.cell? ⟨b1, o1 + m * 4 + 3, none⟩ = some (.int .i64 (K + 3)) := p1 3 _ rfl
      have HK2 : Hid (K + 4 = K0 + 4 * ((m + 1 : Nat) : Int)) := by have := HKE.out; show _ = _; omega
      have hw1 : IntKind.i64.wrap (K + 1) = K + 1 := by rw [IntKind.wrap_i64]; omega
      have hw2 : IntKind.i64.wrap (K + 1 + 1) = K + 2 := by rw [IntKind.wrap_i64]; omega
      have hw3 : IntKind.i64.wrap (K + 2 + 1) = K + 3 := by rw [IntKind.wrap_i64]; omega
      have hw4 : IntKind.i64.wrap (K + 3 + 1) = K + 4 := by rw [IntKind.wrap_i64]; omega
      clear hbl1 p1 HKE
      go_wp2
      go_roundw
      case rel => exact ⟨m + 1, K + 4, by omega, HK2.out, by go_num, by first | rfl | go_num, by first | rfl | trivial⟩
      case measure => simp [intOf]; omega
    · obtain rfl : m = n := by omega
      go_wp2
      go_ret
      exact ⟨ret_int HKE.out, rfl⟩
set_option maxRecDepth 40000 in
set_option maxHeartbeats 4000000 in
theorem held_wins (a : Option Addr) (cap n : Nat) (K0 : Int) (w : World) (hs : GSeg 3 w a n (mk3 K0)) (hn : n ≤ 1048576) (h0 : 0 ≤ K0) (hk : K0 ≤ 1125899906842624) :
    Calls Tryz.prog 85 #[.slice a n cap, .int .i64 K0] w fun e w' => e = .returned (.int .i64 (K0 + 3 * (n : Int))) ∧ w' = w := by
  have HS : Hid (GSeg 3 w a n (mk3 K0)) := hs
  clear hs
  go_enter Tryz.func85, Tryz.ntmps85
  go_wp2
  go_loopw [1, 5] (fun t i wr => ∃ (m : Nat) (K : Int), m ≤ n ∧ K = K0 + 3 * (m : Int) ∧ i = .int .i64 m ∧ t = .int .i64 K ∧ wr = w) (fun _ i _ => n - (intOf i).toNat)
  case atStart => exact ⟨0, K0, by omega, by omega, rfl, rfl, rfl⟩
  case round =>
    obtain ⟨m, K, hm, hK, rfl, rfl, rfl⟩ := hrel
    have HKE : Hid (K = K0 + 3 * (m : Int)) := hK
    have hKb : 0 ≤ K ∧ K ≤ 1125899911036928 := by omega
    clear hK
    by_cases hlt : m < n
    · have hlt' : (m : Int) < (n : Int) := by omega
      obtain ⟨b1, o1, rfl, hbl1, p1⟩ := GSeg.at HS.out m hlt
      unfold mk3 at p1
      rw [← HKE.out] at p1
      have c0 : wr.cell? ⟨b1, o1 + m * 3, none⟩ = some (.int .i64 (K)) := p1 0 _ rfl
      have c1 : wr.cell? ⟨b1, o1 + m * 3 + 1, none⟩ = some (.int .i64 (K + 1)) := p1 1 _ rfl
      have c2 : wr.cell? ⟨b1, o1 + m * 3 + 2, none⟩ = some (.int .i64 (K + 2)) := p1 2 _ rfl
      have HK2 : Hid (K + 3 = K0 + 3 * ((m + 1 : Nat) : Int)) := by have := HKE.out; show _ = _; omega
      have hw1 : IntKind.i64.wrap (K + 1) = K + 1 := by rw [IntKind.wrap_i64]; omega
      have hw2 : IntKind.i64.wrap (K + 1 + 1) = K + 2 := by rw [IntKind.wrap_i64]; omega
      have hw3 : IntKind.i64.wrap (K + 2 + 1) = K + 3 := by rw [IntKind.wrap_i64]; omega
      clear hbl1 p1 HKE
      go_wp2
      go_roundw
      case rel => exact ⟨m + 1, K + 3, by omega, HK2.out, by go_num, by first | rfl | go_num, by first | rfl | trivial⟩
      case measure => simp [intOf]; omega
    · obtain rfl : m = n := by omega
      go_wp2
      go_ret
      exact ⟨ret_int HKE.out, rfl⟩
/-- The text of a mark. -/
def txs : Nat → Int → ByteArray → ByteArray
  | 0, _, s => s
  | m + 1, K, s => if 0 < K then txs m (K / 10) ((⟨#[UInt8.ofNat (48 + K % 10).toNat]⟩ : ByteArray) ++ s) else s
def tx (k : Int) : ByteArray := if k ≤ 0 then (⟨#[109, 48]⟩ : ByteArray) else (⟨#[109]⟩ : ByteArray) ++ txs 20 k ByteArray.empty
theorem txs_end (m : Nat) {K : Int} (s : ByteArray) (h : ¬ 0 < K) : txs m K s = s := by
  cases m with
  | zero => rfl
  | succ m => rw [txs, if_neg h]
set_option maxRecDepth 40000 in
set_option maxHeartbeats 4000000 in
theorem mkv_text (k : Int) (w : World) (h0 : 0 ≤ k) (hk : k ≤ 9007199254740992) :
    Calls Tryz.prog 83 #[.int .i64 k] w fun e w' => e = .returned (.string (tx k)) ∧ Below w.heap.size w w' := by
  by_cases hk0 : k ≤ 0
  · go_enter Tryz.func83, Tryz.ntmps83
    go_wp2
    go_ret
    refine ⟨?_, Below.refl _ _⟩
    unfold tx
    rw [if_pos hk0]
    rfl
  have HK20 : Hid (k < 10 ^ 20) := by show _ < _; omega
  go_enter Tryz.func83, Tryz.ntmps83
  go_wp2
  go_loopw [0, 3] (fun u v wr => ∃ (K : Int) (s : ByteArray) (m : Nat), 0 ≤ K ∧ K ≤ 9007199254740992 ∧ s.size + m ≤ 20 ∧ u = .int .i64 K ∧ v = .string s ∧ Hid (K < 10 ^ m) ∧ Hid (txs m K s = txs 20 k ByteArray.empty) ∧ Hid (Below w.heap.size w wr)) (fun u _ _ => (intOf u).toNat)
  case atStart => exact ⟨k, ByteArray.empty, 20, h0, hk, by simp, rfl, rfl, HK20.out, rfl, Below.refl _ _⟩
  case round =>
    clear HK20 h0 hk
    obtain ⟨K, s, m, hK0, hK1, hs, rfl, rfl, HM, HT, HB⟩ := hrel
    by_cases hp : 0 < K
    rotate_left
    · have hadd : ∀ W, (Op.stringOp .add (⟨#[109]⟩ : ByteArray) s).run Tryz.prog W = .ok (.string ((⟨#[109]⟩ : ByteArray) ++ s)) W := fun W => run_string_add_sum _ _ _ (by show 1 + s.size ≤ _; omega)
      go_wp2
      go_ret
      refine ⟨?_, HB.out⟩
      have ht := HT.out
      rw [txs_end m s (by omega)] at ht
      unfold tx
      rw [if_neg (by omega), ← ht]
      rfl
    obtain ⟨m2, rfl⟩ : ∃ m2, m = m2 + 1 := by
      cases m with
      | zero => have := HM.out; simp at this; omega
      | succ m => exact ⟨m, rfl⟩
    have HM2 : Hid (K / 10 < 10 ^ m2) := by
      have := HM.out
      rw [Int.pow_succ] at this
      show _ < _
      generalize (10 : Int) ^ m2 = p at this ⊢
      omega
    have HT2 : Hid (txs m2 (K / 10) ((⟨#[UInt8.ofNat (48 + K % 10).toNat]⟩ : ByteArray) ++ s) = txs 20 k ByteArray.empty) := by
      have := HT.out
      rw [txs, if_pos hp] at this
      exact this
    have hd1 : 0 ≤ K % 10 ∧ K % 10 < 10 := by omega
    obtain ⟨v, HV⟩ : ∃ v, Hid (48 + K % 10 = v) := ⟨_, rfl⟩
    rw [HV.out] at HT2
    have hv : 48 ≤ v ∧ v ≤ 57 := by have := HV.out; omega
    have hcv : (convert 134 9 (.slice (some ⟨wr.heap.size, 0, none⟩) 1 1)).run Tryz.prog (wr.alloc (.cells #[.int .u8 v] 5)) = .ok (.string ⟨#[UInt8.ofNat v.toNat]⟩) (wr.alloc (.cells #[.int .u8 v] 5)) :=
      run_convert_bytes_back (P := Tryz.prog) (wr.alloc (.cells #[.int .u8 v] 5)) 134 9 5 ⟨wr.heap.size, 0, none⟩ 1 [UInt8.ofNat v.toNat] Tryz.underlying134 Tryz.underlying5 Tryz.underlying9 (fun j hj => by
        have hj0 : j = 0 := by simpa using hj
        subst hj0
        have e : ((UInt8.ofNat v.toNat).toNat : Int) = v := by simp; omega
        show (wr.alloc (.cells #[.int .u8 v] 5)).cell? ⟨wr.heap.size, 0, none⟩ = some (.int .u8 ((UInt8.ofNat v.toNat).toNat : Int))
        rw [e]
        exact cell0 (CellsAt.new wr [.int .u8 v] 5 _ rfl) 0 rfl)
    have hadd : ∀ W, (Op.stringOp .add (⟨#[UInt8.ofNat v.toNat]⟩ : ByteArray) s).run Tryz.prog W = .ok (.string ((⟨#[UInt8.ofNat v.toNat]⟩ : ByteArray) ++ s)) W := fun W => run_string_add_sum _ _ _ (by show 1 + s.size ≤ _; omega)
    have HB2 : Hid (Below w.heap.size w (wr.alloc (.cells #[.int .u8 v] 5))) := HB.out.alloc HB.out.size _
    have hsz : ((⟨#[UInt8.ofNat v.toNat]⟩ : ByteArray) ++ s).size + m2 ≤ 20 := by
      have : ((⟨#[UInt8.ofNat v.toNat]⟩ : ByteArray) ++ s).size = 1 + s.size := by rw [ByteArray.size_append]; rfl
      omega
    have hw5 : IntKind.u8.wrap (48 + K % 10) = v := by rw [HV.out]; simp [IntKind.wrap, IntKind.bits]; omega
    clear HB HM HT
    go_wp2
    go_roundw
    case rel => exact ⟨K / 10, _, m2, by omega, by omega, hsz, rfl, rfl, HM2.out, HT2.out, HB2.out⟩
    case measure => simp [intOf]; omega
end Go.Proofs.YthieilkabcehgaaGreatDoor
