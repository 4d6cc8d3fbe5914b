
/-
  The marks that a law lays into tables of its own: nothing outside of their blocks is another. Conditions: the lists lie in blocks of their own, which may be written.
-/
import Derived.Test.YtphdijkpjjokaaaGreatDoorBas
import Derived.Test.YtphdijkpjjokaaaGreatDoorTbe
import Derived.Test.YtphdijkpjjokaaaGreatDoorNam
import Derived.Laws.IdiomStrings
namespace Go.Proofs.YtphdijkpjjokaaaGreatDoor
open Go.ChangeShapes Go.WideShapes Go.ChangeAt Go.RowKit Go.Deep Go.Joins
set_option linter.unusedVariables false

/-- Only blocks from 'lo' up to 'hi' have other cells; what was there to be written is there to be written. -/
structure Mk (lo hi : Nat) (w w' : World) : Prop where
  b : Betw lo hi w w'
  c : ∀ B i, B < w.heap.size → (∃ u, w.cell? ⟨B, i, none⟩ = some u) → ∃ u, w'.cell? ⟨B, i, none⟩ = some u
  f : ∀ B i, B < w.heap.size → w'.frozen? ⟨B, i, none⟩ = w.frozen? ⟨B, i, none⟩
theorem Mk.refl (lo hi : Nat) (w : World) : Mk lo hi w w := ⟨Betw.refl _ _ _, fun _ _ _ h => h, fun _ _ _ => rfl⟩
theorem Mk.trans {lo hi : Nat} {a b c : World} (h : Mk lo hi a b) (g : Mk lo hi b c) : Mk lo hi a c :=
  ⟨h.b.trans g.b, fun B i hB hu => g.c B i (Nat.lt_of_lt_of_le hB h.b.size) (h.c B i hB hu), fun B i hB => (g.f B i (Nat.lt_of_lt_of_le hB h.b.size)).trans (h.f B i hB)⟩
theorem Mk.set {lo hi B j : Nat} {w w' : World} {v : Value} (h : Mk lo hi w w') (h1 : lo ≤ B) (h2 : B < hi) : Mk lo hi w (w'.setCell ⟨B, j, none⟩ v) := by
  refine ⟨h.b.setCell (p := ⟨B, j, none⟩) h1 h2 _, fun B' i hB hu => ?_, fun B' i hB => by rw [World.frozen?_setCell]; exact h.f B' i hB⟩
  obtain ⟨u, hu2⟩ := h.c B' i hB hu
  by_cases e : (⟨B, j, none⟩ : Addr) = ⟨B', i, none⟩
  · rw [← e] at hu2 ⊢
    exact ⟨_, World.cell?_setCell_same _ _ _ hu2⟩
  · exact ⟨u, by rw [World.cell?_setCell_other _ _ _ _ e]; exact hu2⟩
theorem Mk.below {lo hi : Nat} {w w' w2 : World} (h : Mk lo hi w w') (hb : Below w'.heap.size w' w2) : Mk lo hi w w2 :=
  ⟨h.b.trans ⟨hb.os, hb.tape, hb.output, hb.size, fun k hk _ => hb.block k hk⟩, fun B i hB hu => by
    obtain ⟨u, hu2⟩ := h.c B i hB hu
    exact ⟨u, kept_cell hb hu2⟩, fun B i hB => (hb.frozen (p := ⟨B, i, none⟩) (Nat.lt_of_lt_of_le hB h.b.size)).trans (h.f B i hB)⟩
/-- A list of rows of k cells in a block of [lo, hi) that may be written. -/
def WR (k lo hi : Nat) (w : World) (a : Option Addr) (n : Nat) : Prop :=
  0 < n → ∃ b off, a = some ⟨b, off, none⟩ ∧ lo ≤ b ∧ b < hi ∧ b < w.heap.size ∧ (∀ i j, i < n → j < k → ∃ u, w.cell? ⟨b, off + i * k + j, none⟩ = some u) ∧ ∀ j, w.frozen? ⟨b, j, none⟩ = false
theorem WR.mk {k l1 h1 lo hi : Nat} {w w' : World} {a : Option Addr} {n : Nat} (h : WR k l1 h1 w a n) (g : Mk lo hi w w') : WR k l1 h1 w' a n := fun h0 => by
  obtain ⟨b, off, e, q1, q2, q3, q4, q5⟩ := h h0
  exact ⟨b, off, e, q1, q2, Nat.lt_of_lt_of_le q3 g.b.size, fun i j hi hj => g.c b _ q3 (q4 i j hi hj), fun j => (g.f b j q3).trans (q5 j)⟩
theorem WR.below {k l1 h1 : Nat} {w w' : World} {a : Option Addr} {n : Nat} (h : WR k l1 h1 w a n) (hb : Below w.heap.size w w') : WR k l1 h1 w' a n := h.mk ((Mk.refl 0 0 w).below hb)
theorem GSegL.wr {k lo : Nat} {w : World} {a : Option Addr} {n : Nat} {X : Nat → List Value} (h : GSegL k lo w a n X) (h0 : 0 < lo) (hX : ∀ i, (X i).length = k) : WR k lo w.heap.size w a n := fun hn => by
  obtain ⟨b, off, e, q1, q2, q3, q4⟩ := h hn
  refine ⟨b, off, e, q1, q2, q2, fun i j hi hj => ?_, q4 h0⟩
  have hl : j < (X i).length := by rw [hX i]; exact hj
  exact ⟨_, q3 i hi j _ (List.getElem?_eq_getElem hl)⟩
set_option maxRecDepth 40000 in
set_option maxHeartbeats 4000000 in
theorem mk_ints (lo hi cap n : Nat) (K0 : Int) (a : Option Addr) (w : World) (ho : WR 1 lo hi w a n) (hn : n ≤ 1048576) (h0 : 0 ≤ K0) (hk : K0 ≤ 1125899906842624) :
    Calls Tryz.prog 46 #[.slice a n cap, .int .i64 K0] w fun e w' => e = .returned (.int .i64 (K0 + 1 * (n : Int))) ∧ Mk lo hi w w' := by
  by_cases hn0 : n = 0
  · subst hn0
    go_enter Tryz.func46, Tryz.ntmps46
    go_wp2
    refine wp_loop_rounds 1 ?_
    rw [rounds_succ]
    go_wp2
    go_ret
    exact ⟨ret_int (by simp), Mk.refl _ _ _⟩
  obtain ⟨B, off, rfl, hB1, hB2, hB3, hc, hf⟩ := ho (by omega)
  have HC : Hid (∀ i j, i < n → j < 1 → ∃ u, w.cell? ⟨B, off + i * 1 + j, none⟩ = some u) := hc
  have HF : Hid (∀ j, w.frozen? ⟨B, j, none⟩ = false) := hf
  have HB : Hid (lo ≤ B ∧ B < hi ∧ B < w.heap.size) := ⟨hB1, hB2, hB3⟩
  clear hc hf ho hB1 hB2 hB3
  go_enter Tryz.func46, Tryz.ntmps46
  go_wp2
  go_loopw [1, 5] (fun t i wr => ∃ (m : Nat) (K : Int), m ≤ n ∧ K = K0 + 1 * (m : Int) ∧ i = .int .i64 m ∧ t = .int .i64 K ∧ Hid (Mk lo hi w wr)) (fun _ i _ => n - (intOf i).toNat)
  case atStart => exact ⟨0, K0, by omega, by omega, rfl, rfl, Mk.refl _ _ _⟩
  case round =>
    obtain ⟨m, K, hm, hK, rfl, rfl, HR⟩ := hrel
    have HKE : Hid (K = K0 + 1 * (m : Int)) := hK
    have hKb : 0 ≤ K ∧ K ≤ 1125899911036928 := by omega
    clear hK
    by_cases hmn : m < n
    rotate_left
    · obtain rfl : m = n := by omega
      have HE : Hid (K = K0 + 1 * (m : Int)) := HKE.out
      clear HKE
      go_wp2
      go_ret
      exact ⟨ret_int HE.out, HR.out⟩
    have hmn' : (m : Int) < (n : Int) := by omega
    obtain ⟨u0, c00⟩ := HR.out.c B (off + m * 1 + 0) HB.out.2.2 (HC.out m 0 hmn (by omega))
    have f0 : wr.frozen? ⟨B, off + m * 1, none⟩ = false := (HR.out.f B _ HB.out.2.2).trans (HF.out _)
    rw [Nat.add_zero] at c00
    rw [Nat.mul_one] at c00 f0
    have HR2 : Hid (Mk lo hi w (wr.setCell ⟨B, off + m, none⟩ (.int .i64 K))) := (HR.out.set HB.out.1 HB.out.2.1)
    have HK2 : Hid (K + 1 = K0 + 1 * ((m + 1 : Nat) : Int)) := by have := HKE.out; show _ = _; omega
    have hw1 : IntKind.i64.wrap (K + 1) = K + 1 := by rw [IntKind.wrap_i64]; omega
    clear HR HKE
    go_wp2
    go_roundw
    case rel => exact ⟨m + 1, K + 1, by omega, HK2.out, by go_num, by first | rfl | go_num, HR2.out⟩
    case measure => simp [intOf]; omega
set_option maxRecDepth 40000 in
set_option maxHeartbeats 4000000 in
theorem mk_slots (lo hi cap n : Nat) (K0 : Int) (a : Option Addr) (w : World) (ho : WR 3 lo hi w a n) (hn : n ≤ 1048576) (h0 : 0 ≤ K0) (hk : K0 ≤ 1125899906842624) :
    Calls Tryz.prog 48 #[.slice a n cap, .int .i64 K0] w fun e w' => e = .returned (.int .i64 (K0 + 3 * (n : Int))) ∧ Mk lo hi w w' := by
  by_cases hn0 : n = 0
  · subst hn0
    go_enter Tryz.func48, Tryz.ntmps48
    go_wp2
    refine wp_loop_rounds 1 ?_
    rw [rounds_succ]
    go_wp2
    go_ret
    exact ⟨ret_int (by simp), Mk.refl _ _ _⟩
  obtain ⟨B, off, rfl, hB1, hB2, hB3, hc, hf⟩ := ho (by omega)
  have HC : Hid (∀ i j, i < n → j < 3 → ∃ u, w.cell? ⟨B, off + i * 3 + j, none⟩ = some u) := hc
  have HF : Hid (∀ j, w.frozen? ⟨B, j, none⟩ = false) := hf
  have HB : Hid (lo ≤ B ∧ B < hi ∧ B < w.heap.size) := ⟨hB1, hB2, hB3⟩
  clear hc hf ho hB1 hB2 hB3
  go_enter Tryz.func48, Tryz.ntmps48
  go_wp2
  go_loopw [1, 5] (fun t i wr => ∃ (m : Nat) (K : Int), m ≤ n ∧ K = K0 + 3 * (m : Int) ∧ i = .int .i64 m ∧ t = .int .i64 K ∧ Hid (Mk lo hi w wr)) (fun _ i _ => n - (intOf i).toNat)
  case atStart => exact ⟨0, K0, by omega, by omega, rfl, rfl, Mk.refl _ _ _⟩
  case round =>
    obtain ⟨m, K, hm, hK, rfl, rfl, HR⟩ := hrel
    have HKE : Hid (K = K0 + 3 * (m : Int)) := hK
    have hKb : 0 ≤ K ∧ K ≤ 1125899911036928 := by omega
    clear hK
    by_cases hmn : m < n
    rotate_left
    · obtain rfl : m = n := by omega
      have HE : Hid (K = K0 + 3 * (m : Int)) := HKE.out
      clear HKE
      go_wp2
      go_ret
      exact ⟨ret_int HE.out, HR.out⟩
    have hmn' : (m : Int) < (n : Int) := by omega
    obtain ⟨u0, c00⟩ := HR.out.c B (off + m * 3 + 0) HB.out.2.2 (HC.out m 0 hmn (by omega))
    obtain ⟨u1, c10⟩ := HR.out.c B (off + m * 3 + 1) HB.out.2.2 (HC.out m 1 hmn (by omega))
    obtain ⟨u2, c20⟩ := HR.out.c B (off + m * 3 + 2) HB.out.2.2 (HC.out m 2 hmn (by omega))
    have f0 : wr.frozen? ⟨B, off + m * 3, none⟩ = false := (HR.out.f B _ HB.out.2.2).trans (HF.out _)
    have f1 : wr.frozen? ⟨B, off + m * 3 + 1, none⟩ = false := (HR.out.f B _ HB.out.2.2).trans (HF.out _)
    have f2 : wr.frozen? ⟨B, off + m * 3 + 2, none⟩ = false := (HR.out.f B _ HB.out.2.2).trans (HF.out _)
    rw [Nat.add_zero] at c00
    have d1 : (wr.setCell ⟨B, off + m * 3, none⟩ (.int .i64 K)).cell? ⟨B, off + m * 3 + 1, none⟩ = some u1 := by rw [World.cell?_setCell_other _ _ _ _ (by simp)]; exact c10
    have d2 : ((wr.setCell ⟨B, off + m * 3, none⟩ (.int .i64 K)).setCell ⟨B, off + m * 3 + 1, none⟩ (.int .i64 (K + 1))).cell? ⟨B, off + m * 3 + 2, none⟩ = some u2 := by rw [World.cell?_setCell_other _ _ _ _ (by simp), World.cell?_setCell_other _ _ _ _ (by simp)]; exact c20
    have HR2 : Hid (Mk lo hi w (((wr.setCell ⟨B, off + m * 3, none⟩ (.int .i64 K)).setCell ⟨B, off + m * 3 + 1, none⟩ (.int .i64 (K + 1))).setCell ⟨B, off + m * 3 + 2, none⟩ (.int .i64 (K + 2)))) := (((HR.out.set HB.out.1 HB.out.2.1).set HB.out.1 HB.out.2.1).set HB.out.1 HB.out.2.1)
    have HK2 : Hid (K + 3 = K0 + 3 * ((m + 1 : Nat) : Int)) := by have := HKE.out; show _ = _; omega
    have hw1 : IntKind.i64.wrap (K + 1) = K + 1 := by rw [IntKind.wrap_i64]; omega
    have hw2 : IntKind.i64.wrap (K + 1 + 1) = K + 2 := by rw [IntKind.wrap_i64]; omega
    have hw3 : IntKind.i64.wrap (K + 2 + 1) = K + 3 := by rw [IntKind.wrap_i64]; omega
    clear HR HKE
    go_wp2
    go_roundw
    case rel => exact ⟨m + 1, K + 3, by omega, HK2.out, by go_num, by first | rfl | go_num, HR2.out⟩
    case measure => simp [intOf]; omega
set_option maxRecDepth 40000 in
set_option maxHeartbeats 4000000 in
theorem mk_chans (lo hi cap n : Nat) (K0 : Int) (a : Option Addr) (w : World) (ho : WR 4 lo hi w a n) (hn : n ≤ 1048576) (h0 : 0 ≤ K0) (hk : K0 ≤ 1125899906842624) :
    Calls Tryz.prog 47 #[.slice a n cap, .int .i64 K0] w fun e w' => e = .returned (.int .i64 (K0 + 4 * (n : Int))) ∧ Mk lo hi w w' := by
  by_cases hn0 : n = 0
  · subst hn0
    go_enter Tryz.func47, Tryz.ntmps47
    go_wp2
    refine wp_loop_rounds 1 ?_
    rw [rounds_succ]
    go_wp2
    go_ret
    exact ⟨ret_int (by simp), Mk.refl _ _ _⟩
  obtain ⟨B, off, rfl, hB1, hB2, hB3, hc, hf⟩ := ho (by omega)
  have HC : Hid (∀ i j, i < n → j < 4 → ∃ u, w.cell? ⟨B, off + i * 4 + j, none⟩ = some u) := hc
  have HF : Hid (∀ j, w.frozen? ⟨B, j, none⟩ = false) := hf
  have HB : Hid (lo ≤ B ∧ B < hi ∧ B < w.heap.size) := ⟨hB1, hB2, hB3⟩
  clear hc hf ho hB1 hB2 hB3
  go_enter Tryz.func47, Tryz.ntmps47
  go_wp2
  go_loopw [1, 5] (fun t i wr => ∃ (m : Nat) (K : Int), m ≤ n ∧ K = K0 + 4 * (m : Int) ∧ i = .int .i64 m ∧ t = .int .i64 K ∧ Hid (Mk lo hi w wr)) (fun _ i _ => n - (intOf i).toNat)
  case atStart => exact ⟨0, K0, by omega, by omega, rfl, rfl, Mk.refl _ _ _⟩
  case round =>
    obtain ⟨m, K, hm, hK, rfl, rfl, HR⟩ := hrel
    have HKE : Hid (K = K0 + 4 * (m : Int)) := hK
    have hKb : 0 ≤ K ∧ K ≤ 1125899911036928 := by omega
    clear hK
    by_cases hmn : m < n
    rotate_left
    · obtain rfl : m = n := by omega
      have HE : Hid (K = K0 + 4 * (m : Int)) := HKE.out
      clear HKE
      go_wp2
      go_ret
      exact ⟨ret_int HE.out, HR.out⟩
    have hmn' : (m : Int) < (n : Int) := by omega
    obtain ⟨u0, c00⟩ := HR.out.c B (off + m * 4 + 0) HB.out.2.2 (HC.out m 0 hmn (by omega))
    obtain ⟨u1, c10⟩ := HR.out.c B (off + m * 4 + 1) HB.out.2.2 (HC.out m 1 hmn (by omega))
    obtain ⟨u2, c20⟩ := HR.out.c B (off + m * 4 + 2) HB.out.2.2 (HC.out m 2 hmn (by omega))
    obtain ⟨u3, c30⟩ := HR.out.c B (off + m * 4 + 3) HB.out.2.2 (HC.out m 3 hmn (by omega))
    have f0 : wr.frozen? ⟨B, off + m * 4, none⟩ = false := (HR.out.f B _ HB.out.2.2).trans (HF.out _)
    have f1 : wr.frozen? ⟨B, off + m * 4 + 1, none⟩ = false := (HR.out.f B _ HB.out.2.2).trans (HF.out _)
    have f2 : wr.frozen? ⟨B, off + m * 4 + 2, none⟩ = false := (HR.out.f B _ HB.out.2.2).trans (HF.out _)
    have f3 : wr.frozen? ⟨B, off + m * 4 + 3, none⟩ = false := (HR.out.f B _ HB.out.2.2).trans (HF.out _)
    rw [Nat.add_zero] at c00
    have d1 : (wr.setCell ⟨B, off + m * 4, none⟩ (.int .i64 K)).cell? ⟨B, off + m * 4 + 1, none⟩ = some u1 := by rw [World.cell?_setCell_other _ _ _ _ (by simp)]; exact c10
    have d2 : ((wr.setCell ⟨B, off + m * 4, none⟩ (.int .i64 K)).setCell ⟨B, off + m * 4 + 1, none⟩ (.int .i64 (K + 1))).cell? ⟨B, off + m * 4 + 2, none⟩ = some u2 := by rw [World.cell?_setCell_other _ _ _ _ (by simp), World.cell?_setCell_other _ _ _ _ (by simp)]; exact c20
    have d3 : (((wr.setCell ⟨B, off + m * 4, none⟩ (.int .i64 K)).setCell ⟨B, off + m * 4 + 1, none⟩ (.int .i64 (K + 1))).setCell ⟨B, off + m * 4 + 2, none⟩ (.int .i64 (K + 2))).cell? ⟨B, off + m * 4 + 3, none⟩ = some u3 := by rw [World.cell?_setCell_other _ _ _ _ (by simp), World.cell?_setCell_other _ _ _ _ (by simp), World.cell?_setCell_other _ _ _ _ (by simp)]; exact c30
    have HR2 : Hid (Mk lo hi w ((((wr.setCell ⟨B, off + m * 4, none⟩ (.int .i64 K)).setCell ⟨B, off + m * 4 + 1, none⟩ (.int .i64 (K + 1))).setCell ⟨B, off + m * 4 + 2, none⟩ (.int .i64 (K + 2))).setCell ⟨B, off + m * 4 + 3, none⟩ (.int .i64 (K + 3)))) := ((((HR.out.set HB.out.1 HB.out.2.1).set HB.out.1 HB.out.2.1).set HB.out.1 HB.out.2.1).set HB.out.1 HB.out.2.1)
    have HK2 : Hid (K + 4 = K0 + 4 * ((m + 1 : Nat) : Int)) := by have := HKE.out; show _ = _; omega
    have hw1 : IntKind.i64.wrap (K + 1) = K + 1 := by rw [IntKind.wrap_i64]; omega
    have hw2 : IntKind.i64.wrap (K + 1 + 1) = K + 2 := by rw [IntKind.wrap_i64]; omega
    have hw3 : IntKind.i64.wrap (K + 2 + 1) = K + 3 := by rw [IntKind.wrap_i64]; omega
    have hw4 : IntKind.i64.wrap (K + 3 + 1) = K + 4 := by rw [IntKind.wrap_i64]; omega
    clear HR HKE
    go_wp2
    go_roundw
    case rel => exact ⟨m + 1, K + 4, by omega, HK2.out, by go_num, by first | rfl | go_num, HR2.out⟩
    case measure => simp [intOf]; omega
set_option maxRecDepth 40000 in
set_option maxHeartbeats 4000000 in
theorem mk_wins (lo hi cap n : Nat) (K0 : Int) (a : Option Addr) (w : World) (ho : WR 3 lo hi w a n) (hn : n ≤ 1048576) (h0 : 0 ≤ K0) (hk : K0 ≤ 1125899906842624) :
    Calls Tryz.prog 69 #[.slice a n cap, .int .i64 K0] w fun e w' => e = .returned (.int .i64 (K0 + 3 * (n : Int))) ∧ Mk lo hi w w' := by
  by_cases hn0 : n = 0
  · subst hn0
    go_enter Tryz.func69, Tryz.ntmps69
    go_wp2
    refine wp_loop_rounds 1 ?_
    rw [rounds_succ]
    go_wp2
    go_ret
    exact ⟨ret_int (by simp), Mk.refl _ _ _⟩
  obtain ⟨B, off, rfl, hB1, hB2, hB3, hc, hf⟩ := ho (by omega)
  have HC : Hid (∀ i j, i < n → j < 3 → ∃ u, w.cell? ⟨B, off + i * 3 + j, none⟩ = some u) := hc
  have HF : Hid (∀ j, w.frozen? ⟨B, j, none⟩ = false) := hf
  have HB : Hid (lo ≤ B ∧ B < hi ∧ B < w.heap.size) := ⟨hB1, hB2, hB3⟩
  clear hc hf ho hB1 hB2 hB3
  go_enter Tryz.func69, Tryz.ntmps69
  go_wp2
  go_loopw [1, 5] (fun t i wr => ∃ (m : Nat) (K : Int), m ≤ n ∧ K = K0 + 3 * (m : Int) ∧ i = .int .i64 m ∧ t = .int .i64 K ∧ Hid (Mk lo hi w wr)) (fun _ i _ => n - (intOf i).toNat)
  case atStart => exact ⟨0, K0, by omega, by omega, rfl, rfl, Mk.refl _ _ _⟩
  case round =>
    obtain ⟨m, K, hm, hK, rfl, rfl, HR⟩ := hrel
    have HKE : Hid (K = K0 + 3 * (m : Int)) := hK
    have hKb : 0 ≤ K ∧ K ≤ 1125899911036928 := by omega
    clear hK
    by_cases hmn : m < n
    rotate_left
    · obtain rfl : m = n := by omega
      have HE : Hid (K = K0 + 3 * (m : Int)) := HKE.out
      clear HKE
      go_wp2
      go_ret
      exact ⟨ret_int HE.out, HR.out⟩
    have hmn' : (m : Int) < (n : Int) := by omega
    obtain ⟨u0, c00⟩ := HR.out.c B (off + m * 3 + 0) HB.out.2.2 (HC.out m 0 hmn (by omega))
    obtain ⟨u1, c10⟩ := HR.out.c B (off + m * 3 + 1) HB.out.2.2 (HC.out m 1 hmn (by omega))
    obtain ⟨u2, c20⟩ := HR.out.c B (off + m * 3 + 2) HB.out.2.2 (HC.out m 2 hmn (by omega))
    have f0 : wr.frozen? ⟨B, off + m * 3, none⟩ = false := (HR.out.f B _ HB.out.2.2).trans (HF.out _)
    have f1 : wr.frozen? ⟨B, off + m * 3 + 1, none⟩ = false := (HR.out.f B _ HB.out.2.2).trans (HF.out _)
    have f2 : wr.frozen? ⟨B, off + m * 3 + 2, none⟩ = false := (HR.out.f B _ HB.out.2.2).trans (HF.out _)
    rw [Nat.add_zero] at c00
    have d1 : (wr.setCell ⟨B, off + m * 3, none⟩ (.int .i64 K)).cell? ⟨B, off + m * 3 + 1, none⟩ = some u1 := by rw [World.cell?_setCell_other _ _ _ _ (by simp)]; exact c10
    have d2 : ((wr.setCell ⟨B, off + m * 3, none⟩ (.int .i64 K)).setCell ⟨B, off + m * 3 + 1, none⟩ (.int .i64 (K + 1))).cell? ⟨B, off + m * 3 + 2, none⟩ = some u2 := by rw [World.cell?_setCell_other _ _ _ _ (by simp), World.cell?_setCell_other _ _ _ _ (by simp)]; exact c20
    have HR2 : Hid (Mk lo hi w (((wr.setCell ⟨B, off + m * 3, none⟩ (.int .i64 K)).setCell ⟨B, off + m * 3 + 1, none⟩ (.int .i64 (K + 1))).setCell ⟨B, off + m * 3 + 2, none⟩ (.int .i64 (K + 2)))) := (((HR.out.set HB.out.1 HB.out.2.1).set HB.out.1 HB.out.2.1).set HB.out.1 HB.out.2.1)
    have HK2 : Hid (K + 3 = K0 + 3 * ((m + 1 : Nat) : Int)) := by have := HKE.out; show _ = _; omega
    have hw1 : IntKind.i64.wrap (K + 1) = K + 1 := by rw [IntKind.wrap_i64]; omega
    have hw2 : IntKind.i64.wrap (K + 1 + 1) = K + 2 := by rw [IntKind.wrap_i64]; omega
    have hw3 : IntKind.i64.wrap (K + 2 + 1) = K + 3 := by rw [IntKind.wrap_i64]; omega
    clear HR HKE
    go_wp2
    go_roundw
    case rel => exact ⟨m + 1, K + 3, by omega, HK2.out, by go_num, by first | rfl | go_num, HR2.out⟩
    case measure => simp [intOf]; omega
set_option maxRecDepth 40000 in
set_option maxHeartbeats 4000000 in
theorem mk_text (k : Int) (w : World) (h0 : 0 ≤ k) (hk : k ≤ 9007199254740992) :
    Calls Tryz.prog 68 #[.int .i64 k] w fun e w' => (∃ s, e = .returned (.string s)) ∧ Below w.heap.size w w' := by
  by_cases hk0 : k ≤ 0
  · go_enter Tryz.func68, Tryz.ntmps68
    go_wp2
    go_ret
    exact ⟨⟨_, rfl⟩, Below.refl _ _⟩
  have HK20 : Hid (k < 10 ^ 20) := by show _ < _; omega
  go_enter Tryz.func68, Tryz.ntmps68
  go_wp2
  go_loopw [0, 3] (fun u v wr => ∃ (K : Int) (s : ByteArray) (m : Nat), 0 ≤ K ∧ K ≤ 9007199254740992 ∧ s.size + m ≤ 20 ∧ u = .int .i64 K ∧ v = .string s ∧ Hid (K < 10 ^ m) ∧ Hid (Below w.heap.size w wr)) (fun u _ _ => (intOf u).toNat)
  case atStart => exact ⟨k, ByteArray.empty, 20, h0, hk, by simp, rfl, rfl, HK20.out, Below.refl _ _⟩
  case round =>
    clear HK20 h0 hk hk0
    obtain ⟨K, s, m, hK0, hK1, hs, rfl, rfl, HM, HB⟩ := hrel
    by_cases hp : 0 < K
    rotate_left
    · have hadd : ∀ W, (Op.stringOp .add (⟨#[109]⟩ : ByteArray) s).run Tryz.prog W = .ok (.string ((⟨#[109]⟩ : ByteArray) ++ s)) W := fun W => run_string_add_sum _ _ _ (by show 1 + s.size ≤ _; omega)
      go_wp2
      go_ret
      exact ⟨⟨_, rfl⟩, HB.out⟩
    obtain ⟨m2, rfl⟩ : ∃ m2, m = m2 + 1 := by
      cases m with
      | zero => have := HM.out; simp at this; omega
      | succ m => exact ⟨m, rfl⟩
    have HM2 : Hid (K / 10 < 10 ^ m2) := by
      have := HM.out
      rw [Int.pow_succ] at this
      show _ < _
      generalize (10 : Int) ^ m2 = p at this ⊢
      omega
    have hd1 : 0 ≤ K % 10 ∧ K % 10 < 10 := by omega
    obtain ⟨v, HV⟩ : ∃ v, Hid (48 + K % 10 = v) := ⟨_, rfl⟩
    have hv : 48 ≤ v ∧ v ≤ 57 := by have := HV.out; omega
    have hcv : (convert 129 9 (.slice (some ⟨wr.heap.size, 0, none⟩) 1 1)).run Tryz.prog (wr.alloc (.cells #[.int .u8 v] 5)) = .ok (.string ⟨#[UInt8.ofNat v.toNat]⟩) (wr.alloc (.cells #[.int .u8 v] 5)) :=
      run_convert_bytes_back (P := Tryz.prog) (wr.alloc (.cells #[.int .u8 v] 5)) 129 9 5 ⟨wr.heap.size, 0, none⟩ 1 [UInt8.ofNat v.toNat] Tryz.underlying129 Tryz.underlying5 Tryz.underlying9 (fun j hj => by
        have hj0 : j = 0 := by simpa using hj
        subst hj0
        have e : ((UInt8.ofNat v.toNat).toNat : Int) = v := by simp; omega
        show (wr.alloc (.cells #[.int .u8 v] 5)).cell? ⟨wr.heap.size, 0, none⟩ = some (.int .u8 ((UInt8.ofNat v.toNat).toNat : Int))
        rw [e]
        exact cell0 (CellsAt.new wr [.int .u8 v] 5 _ rfl) 0 rfl)
    have hadd : ∀ W, (Op.stringOp .add (⟨#[UInt8.ofNat v.toNat]⟩ : ByteArray) s).run Tryz.prog W = .ok (.string ((⟨#[UInt8.ofNat v.toNat]⟩ : ByteArray) ++ s)) W := fun W => run_string_add_sum _ _ _ (by show 1 + s.size ≤ _; omega)
    have HB2 : Hid (Below w.heap.size w (wr.alloc (.cells #[.int .u8 v] 5))) := HB.out.alloc HB.out.size _
    have hsz : ((⟨#[UInt8.ofNat v.toNat]⟩ : ByteArray) ++ s).size + m2 ≤ 20 := by
      have : ((⟨#[UInt8.ofNat v.toNat]⟩ : ByteArray) ++ s).size = 1 + s.size := by rw [ByteArray.size_append]; rfl
      omega
    have hw5 : IntKind.u8.wrap (48 + K % 10) = v := by rw [HV.out]; simp [IntKind.wrap, IntKind.bits]; omega
    clear HB HM
    go_wp2
    go_roundw
    case rel => exact ⟨K / 10, _, m2, by omega, by omega, hsz, rfl, rfl, HM2.out, HB2.out⟩
    case measure => simp [intOf]; omega
/-- Partitions in blocks of their own that may be written: the rows in one, the windows behind it. -/
structure WP (lo hi : Nat) (w : World) (a : Option Addr) (n : Nat) (Y : Nat → Rw) : Prop where
  r : WR 5 lo hi w a n
  g : ∀ b off, a = some ⟨b, off, none⟩ → ∀ i, i < n → w.cell? ⟨b, off + i * 5 + 4, none⟩ = some (.slice (Y i).wa (Y i).wn (Y i).wc)
  v : ∀ b off, a = some ⟨b, off, none⟩ → ∀ i, i < n → WR 3 (b + 1) hi w (Y i).wa (Y i).wn
theorem PSegL.wp {lo : Nat} {w : World} {a : Option Addr} {n : Nat} {ps : List Pt} {Y : Nat → Rw} (h : PSegL lo w a n ps Y) (h0 : 0 < lo) : WP lo w.heap.size w a n Y := by
  refine ⟨h.p1.wr h0 (fun i => rfl), fun b off e i hi => ?_, fun b off e i hi => (h.p3 h0 b off e i hi).sg.wr (by omega) (fun i => rfl)⟩
  obtain ⟨b', off', e', _, _, hc, _⟩ := h.p1 (by omega)
  rw [e] at e'
  cases e'
  exact (rw_cells (hc i hi)).2.2.2.2
set_option maxRecDepth 40000 in
set_option maxHeartbeats 4000000 in
theorem mk_parts (lo hi cap n : Nat) (K0 : Int) (a : Option Addr) (Y : Nat → Rw) (w : World) (ho : WP lo hi w a n Y) (hn : n ≤ 1048576) (hwn : ∀ i, i < n → (Y i).wn ≤ 1048576) (h0 : 0 ≤ K0) (hk : K0 ≤ 1000) :
    Calls Tryz.prog 45 #[.slice a n cap, .int .i64 K0] w fun e w' => (∃ r : Int, e = .returned (.int .i64 r) ∧ 0 ≤ r ∧ r ≤ 4000000000000) ∧ Mk lo hi w w' := by
  by_cases hn0 : n = 0
  · subst hn0
    go_enter Tryz.func45, Tryz.ntmps45
    go_wp2
    refine wp_loop_rounds 1 ?_
    rw [rounds_succ]
    go_wp2
    go_ret
    exact ⟨⟨_, rfl, h0, by omega⟩, Mk.refl _ _ _⟩
  obtain ⟨B, off, rfl, hB1, hB2, hB3, hc, hf⟩ := ho.r (by omega)
  have HC : Hid (∀ i j, i < n → j < 5 → ∃ u, w.cell? ⟨B, off + i * 5 + j, none⟩ = some u) := hc
  have HF : Hid (∀ j, w.frozen? ⟨B, j, none⟩ = false) := hf
  have HB : Hid (lo ≤ B ∧ B < hi ∧ B < w.heap.size) := ⟨hB1, hB2, hB3⟩
  have HG : Hid (∀ i, i < n → w.cell? ⟨B, off + i * 5 + 4, none⟩ = some (.slice (Y i).wa (Y i).wn (Y i).wc)) := ho.g B off rfl
  have HVW : Hid (∀ i, i < n → WR 3 (B + 1) hi w (Y i).wa (Y i).wn) := ho.v B off rfl
  have HWN : Hid (∀ i, i < n → (Y i).wn ≤ 1048576) := hwn
  clear hc hf ho hB1 hB2 hB3 hwn
  go_enter Tryz.func45, Tryz.ntmps45
  go_wp2
  go_loopw [1, 5] (fun t i wr => ∃ (m : Nat) (K : Int), m ≤ n ∧ 0 ≤ K ∧ K ≤ 1000 + 3145732 * (m : Int) ∧ i = .int .i64 m ∧ t = .int .i64 K ∧ Hid (Mk lo hi w wr) ∧ Hid (∀ i, i < n → wr.cell? ⟨B, off + i * 5 + 4, none⟩ = some (.slice (Y i).wa (Y i).wn (Y i).wc))) (fun _ i _ => n - (intOf i).toNat)
  case atStart => exact ⟨0, K0, by omega, h0, by omega, rfl, rfl, Mk.refl _ _ _, HG.out⟩
  case round =>
    clear HG h0 hk
    obtain ⟨m, K, hm, hK0, hK1, rfl, rfl, HR, HG⟩ := hrel
    by_cases hmn : m < n
    rotate_left
    · obtain rfl : m = n := by omega
      go_wp2
      go_ret
      exact ⟨⟨_, rfl, hK0, by omega⟩, HR.out⟩
    have hmn' : (m : Int) < (n : Int) := by omega
    have hwm := HWN.out m hmn
    have HMT : Hid (∀ X, Calls Tryz.prog 68 #[.int .i64 K] X fun e w' => (∃ s, e = .returned (.string s)) ∧ Below X.heap.size X w') := fun X => mk_text K X hK0 (by omega)
    go_wp2_with fail
    refine Calls.mono (HMT.out _) ?_
    rintro e w1 ⟨⟨s0, rfl⟩, hb1⟩
    have HR1 : Hid (Mk lo hi w w1) := HR.out.below hb1
    have HG1 : Hid (∀ i, i < n → w1.cell? ⟨B, off + i * 5 + 4, none⟩ = some (.slice (Y i).wa (Y i).wn (Y i).wc)) := fun i hi => kept_cell hb1 (HG.out i hi)
    clear hb1 HR HG HMT
    obtain ⟨u0, c00⟩ := HR1.out.c B (off + m * 5 + 0) HB.out.2.2 (HC.out m 0 hmn (by omega))
    have f0 : w1.frozen? ⟨B, off + m * 5, none⟩ = false := (HR1.out.f B _ HB.out.2.2).trans (HF.out _)
    obtain ⟨u1, c10⟩ := HR1.out.c B (off + m * 5 + 1) HB.out.2.2 (HC.out m 1 hmn (by omega))
    have f1 : w1.frozen? ⟨B, off + m * 5 + 1, none⟩ = false := (HR1.out.f B _ HB.out.2.2).trans (HF.out _)
    obtain ⟨u2, c20⟩ := HR1.out.c B (off + m * 5 + 2) HB.out.2.2 (HC.out m 2 hmn (by omega))
    have f2 : w1.frozen? ⟨B, off + m * 5 + 2, none⟩ = false := (HR1.out.f B _ HB.out.2.2).trans (HF.out _)
    obtain ⟨u3, c30⟩ := HR1.out.c B (off + m * 5 + 3) HB.out.2.2 (HC.out m 3 hmn (by omega))
    have f3 : w1.frozen? ⟨B, off + m * 5 + 3, none⟩ = false := (HR1.out.f B _ HB.out.2.2).trans (HF.out _)
    rw [Nat.add_zero] at c00
    have d1 : (w1.setCell ⟨B, off + m * 5, none⟩ (.string s0)).cell? ⟨B, off + m * 5 + 1, none⟩ = some u1 := by rw [World.cell?_setCell_other _ _ _ _ (by simp)]; exact c10
    have d2 : ((w1.setCell ⟨B, off + m * 5, none⟩ (.string s0)).setCell ⟨B, off + m * 5 + 1, none⟩ (.int .i64 (K + 1))).cell? ⟨B, off + m * 5 + 2, none⟩ = some u2 := by rw [World.cell?_setCell_other _ _ _ _ (by simp), World.cell?_setCell_other _ _ _ _ (by simp)]; exact c20
    have d3 : (((w1.setCell ⟨B, off + m * 5, none⟩ (.string s0)).setCell ⟨B, off + m * 5 + 1, none⟩ (.int .i64 (K + 1))).setCell ⟨B, off + m * 5 + 2, none⟩ (.int .i64 (K + 2))).cell? ⟨B, off + m * 5 + 3, none⟩ = some u3 := by rw [World.cell?_setCell_other _ _ _ _ (by simp), World.cell?_setCell_other _ _ _ _ (by simp), World.cell?_setCell_other _ _ _ _ (by simp)]; exact c30
    have HR2 : Hid (Mk lo hi w ((((w1.setCell ⟨B, off + m * 5, none⟩ (.string s0)).setCell ⟨B, off + m * 5 + 1, none⟩ (.int .i64 (K + 1))).setCell ⟨B, off + m * 5 + 2, none⟩ (.int .i64 (K + 2))).setCell ⟨B, off + m * 5 + 3, none⟩ (.int .i64 (K + 3)))) := ((((HR1.out.set HB.out.1 HB.out.2.1).set HB.out.1 HB.out.2.1).set HB.out.1 HB.out.2.1).set HB.out.1 HB.out.2.1)
    have HG2 : Hid (∀ i, i < n → ((((w1.setCell ⟨B, off + m * 5, none⟩ (.string s0)).setCell ⟨B, off + m * 5 + 1, none⟩ (.int .i64 (K + 1))).setCell ⟨B, off + m * 5 + 2, none⟩ (.int .i64 (K + 2))).setCell ⟨B, off + m * 5 + 3, none⟩ (.int .i64 (K + 3))).cell? ⟨B, off + i * 5 + 4, none⟩ = some (.slice (Y i).wa (Y i).wn (Y i).wc)) := fun i hi => by
      rw [World.cell?_setCell_other _ _ _ _ (by intro c; injection c with c1 c2 c3; omega), World.cell?_setCell_other _ _ _ _ (by intro c; injection c with c1 c2 c3; omega), World.cell?_setCell_other _ _ _ _ (by intro c; injection c with c1 c2 c3; omega), World.cell?_setCell_other _ _ _ _ (by intro c; injection c with c1 c2 c3; omega)]
      exact HG1.out i hi
    have d4 : ((((w1.setCell ⟨B, off + m * 5, none⟩ (.string s0)).setCell ⟨B, off + m * 5 + 1, none⟩ (.int .i64 (K + 1))).setCell ⟨B, off + m * 5 + 2, none⟩ (.int .i64 (K + 2))).setCell ⟨B, off + m * 5 + 3, none⟩ (.int .i64 (K + 3))).cell? ⟨B, off + m * 5 + 4, none⟩ = some (.slice (Y m).wa (Y m).wn (Y m).wc) := HG2.out m hmn
    have HMW : Hid (Calls Tryz.prog 69 #[.slice (Y m).wa (Y m).wn (Y m).wc, .int .i64 (K + 4)] ((((w1.setCell ⟨B, off + m * 5, none⟩ (.string s0)).setCell ⟨B, off + m * 5 + 1, none⟩ (.int .i64 (K + 1))).setCell ⟨B, off + m * 5 + 2, none⟩ (.int .i64 (K + 2))).setCell ⟨B, off + m * 5 + 3, none⟩ (.int .i64 (K + 3))) fun e w' => e = .returned (.int .i64 (K + 4 + 3 * ((Y m).wn : Int))) ∧ Mk (B + 1) hi ((((w1.setCell ⟨B, off + m * 5, none⟩ (.string s0)).setCell ⟨B, off + m * 5 + 1, none⟩ (.int .i64 (K + 1))).setCell ⟨B, off + m * 5 + 2, none⟩ (.int .i64 (K + 2))).setCell ⟨B, off + m * 5 + 3, none⟩ (.int .i64 (K + 3))) w') := mk_wins (B + 1) hi _ _ (K + 4) _ _ ((HVW.out m hmn).mk HR2.out) hwm (by omega) (by omega)
    have hw1 : IntKind.i64.wrap (K + 1) = K + 1 := by rw [IntKind.wrap_i64]; omega
    have hw2 : IntKind.i64.wrap (K + 1 + 1) = K + 2 := by rw [IntKind.wrap_i64]; omega
    have hw3 : IntKind.i64.wrap (K + 2 + 1) = K + 3 := by rw [IntKind.wrap_i64]; omega
    have hw4 : IntKind.i64.wrap (K + 3 + 1) = K + 4 := by rw [IntKind.wrap_i64]; omega
    generalize (Y m).wa = wa at d4 HMW
    generalize (Y m).wn = wn at d4 HMW hwm
    generalize (Y m).wc = wc at d4 HMW
    clear HR1 HG1
    go_wp2_with fail
    revert HR2 HG2 HMW
    generalize ((((w1.setCell ⟨B, off + m * 5, none⟩ (.string s0)).setCell ⟨B, off + m * 5 + 1, none⟩ (.int .i64 (K + 1))).setCell ⟨B, off + m * 5 + 2, none⟩ (.int .i64 (K + 2))).setCell ⟨B, off + m * 5 + 3, none⟩ (.int .i64 (K + 3))) = V
    intro HR2 HG2 HMW
    refine Calls.mono HMW.out ?_
    rintro e w2 ⟨rfl, hmk⟩
    have HR3 : Hid (Mk lo hi w w2) := HR2.out.trans ⟨⟨hmk.b.os, hmk.b.tape, hmk.b.output, hmk.b.size, fun k hk ho => hmk.b.block k hk (by have := HB.out.1; omega)⟩, hmk.c, hmk.f⟩
    have HG3 : Hid (∀ i, i < n → w2.cell? ⟨B, off + i * 5 + 4, none⟩ = some (.slice (Y i).wa (Y i).wn (Y i).wc)) := fun i hi => by
      have hbl : w2.heap[B]? = V.heap[B]? := hmk.b.block B (World.block_lt_of_cell? V _ (HG2.out i hi)) (by omega)
      exact (World.cell?_of_block (a := ⟨B, off + i * 5 + 4, none⟩) hbl).trans (HG2.out i hi)
    clear hmk HR2 HG2 HMW d4
    go_wp2
    go_roundw
    case rel => exact ⟨m + 1, K + 4 + 3 * (wn : Int), by omega, by omega, by omega, by go_num, rfl, HR3.out, HG3.out⟩
    case measure => simp [intOf]; omega
/-- Tables whose lists lie in blocks of [lo, hi) that may be written. -/
structure WT (lo hi : Nat) (w : World) (a : Ad) : Prop where
  p : WP lo hi w a.pa a.pn a.Y
  d : WR 1 lo hi w a.da a.dn
  c : WR 4 lo hi w a.ca a.cn
  s : WR 3 lo hi w a.sa a.sn
theorem WT.below {lo hi : Nat} {w w' : World} {a : Ad} (h : WT lo hi w a) (hb : Below w.heap.size w w') : WT lo hi w' a :=
  ⟨⟨h.p.r.below hb, fun b off e i hi => kept_cell hb (h.p.g b off e i hi), fun b off e i hi => (h.p.v b off e i hi).below hb⟩, h.d.below hb, h.c.below hb, h.s.below hb⟩
theorem TM.wt {lo : Nat} {w : World} {t : Tb} {a : Ad} (h : TM lo w t a) (h0 : 0 < lo) : WT lo w.heap.size w a :=
  ⟨h.p.wp h0, h.d.wr h0 (fun i => rfl), h.c.wr h0 (fun i => rfl), h.s.wr h0 (fun i => rfl)⟩
theorem Mk.low {lo hi n : Nat} {w w' : World} (h : Mk lo hi w w') (h1 : n ≤ lo) (h2 : n ≤ w.heap.size) : Below n w w' :=
  ⟨h.b.os, h.b.tape, h.b.output, h.b.size, fun k hk => h.b.block k (by omega) (.inl (by omega))⟩
set_option maxRecDepth 40000 in
set_option maxHeartbeats 4000000 in
theorem mk_tab (t : Tb) (a : Ad) (lo hi : Nat) (w : World) (hT : WT lo hi w a) (hs : TS a) (hhi : hi ≤ w.heap.size) :
    Calls Tryz.prog 12 #[tbV t a, .int .i64 1] w fun e w' => (∃ r : Int, e = .returned (.int .i64 r) ∧ 0 ≤ r) ∧ Mk lo hi w w' := by
  have HHI : Hid (hi ≤ w.heap.size) := hhi
  have HP : Hid (WP lo hi w a.pa a.pn a.Y) := hT.p
  have HD : Hid (WR 1 lo hi w a.da a.dn) := hT.d
  have HCH : Hid (WR 4 lo hi w a.ca a.cn) := hT.c
  have HSL : Hid (WR 3 lo hi w a.sa a.sn) := hT.s
  clear hhi hT
  have h1 := hs.p
  have h2 := hs.d
  have h3 := hs.c
  have h4 := hs.s
  have HWN : Hid (∀ i, i < a.pn → (a.Y i).wn ≤ 1048576) := fun i hi => (hs.w i hi).1
  have HB0 : Hid (Below w.heap.size w (w.alloc (.cells (tbA t a) 41))) := (Below.refl _ _).alloc (Nat.le_refl _) _
  have KB0 : Hid (Bk (w.alloc (.cells (tbA t a) 41)) w.heap.size (tbA t a)) := Bk.new w _ _ _ rfl
  have HP0 : Hid (WP lo hi (w.alloc (.cells (tbA t a) 41)) a.pa a.pn a.Y) := ⟨HP.out.r.below HB0.out, fun b off e i hi => kept_cell HB0.out (HP.out.g b off e i hi), fun b off e i hi => (HP.out.v b off e i hi).below HB0.out⟩
  have k15 : (w.alloc (.cells (tbA t a) 41)).cell? ⟨w.heap.size, 15, none⟩ = some (.slice a.pa a.pn a.pc) := KB0.out.cell 15 _ rfl
  have M0 : Hid (Mk lo hi w (w.alloc (.cells (tbA t a) 41))) := (Mk.refl _ _ _).below HB0.out
  clear hs HP
  go_enter Tryz.func12, Tryz.ntmps12
  go_wp2_with fail
  refine Calls.mono (mk_parts lo hi a.pc a.pn 1 a.pa a.Y _ HP0.out h1 HWN.out (by omega) (by omega)) ?_
  rintro e w1 ⟨⟨r1, rfl, hr10, hr11⟩, hmk1⟩
  have M1 : Hid (Mk lo hi w w1) := M0.out.trans hmk1
  have hbl1 : w1.heap[w.heap.size]? = (w.alloc (.cells (tbA t a) 41)).heap[w.heap.size]? := hmk1.b.block _ KB0.out.lt (.inr HHI.out)
  have HK1 : Hid (∀ i v, (tbA t a)[i]? = some v → w1.cell? ⟨w.heap.size, i, none⟩ = some v) := fun i v hv => (World.cell?_of_block (a := ⟨w.heap.size, i, none⟩) hbl1).trans (KB0.out.cell i v hv)
  have HL1 : Hid (w.heap.size < w1.heap.size) := Nat.lt_of_lt_of_le KB0.out.lt hmk1.b.size
  have k16 : w1.cell? ⟨w.heap.size, 16, none⟩ = some (.slice a.da a.dn a.dc) := HK1.out 16 _ rfl
  clear hmk1 hbl1 HB0 KB0 HP0 k15 M0
  go_wp2_with fail
  refine Calls.mono (mk_ints lo hi a.dc a.dn r1 a.da _ (HD.out.mk M1.out) h2 hr10 (by omega)) ?_
  rintro e w2 ⟨rfl, hmk2⟩
  have M2 : Hid (Mk lo hi w w2) := M1.out.trans hmk2
  have hbl2 : w2.heap[w.heap.size]? = w1.heap[w.heap.size]? := hmk2.b.block _ HL1.out (.inr HHI.out)
  have HK2 : Hid (∀ i v, (tbA t a)[i]? = some v → w2.cell? ⟨w.heap.size, i, none⟩ = some v) := fun i v hv => (World.cell?_of_block (a := ⟨w.heap.size, i, none⟩) hbl2).trans (HK1.out i v hv)
  have HL2 : Hid (w.heap.size < w2.heap.size) := Nat.lt_of_lt_of_le HL1.out hmk2.b.size
  have k17 : w2.cell? ⟨w.heap.size, 17, none⟩ = some (.slice a.ca a.cn a.cc) := HK2.out 17 _ rfl
  clear hmk2 hbl2 HK1 HL1 k16 M1
  obtain ⟨r2, hr2⟩ : ∃ r, r1 + 1 * (a.dn : Int) = r := ⟨_, rfl⟩
  have hr20 : 0 ≤ r2 ∧ r2 ≤ 5000000000000 := by omega
  rw [hr2]
  clear hr2
  go_wp2_with fail
  refine Calls.mono (mk_chans lo hi a.cc a.cn r2 a.ca _ (HCH.out.mk M2.out) h3 hr20.1 (by omega)) ?_
  rintro e w3 ⟨rfl, hmk3⟩
  have M3 : Hid (Mk lo hi w w3) := M2.out.trans hmk3
  have hbl3 : w3.heap[w.heap.size]? = w2.heap[w.heap.size]? := hmk3.b.block _ HL2.out (.inr HHI.out)
  have k18 : w3.cell? ⟨w.heap.size, 18, none⟩ = some (.slice a.sa a.sn a.sc) := (World.cell?_of_block (a := ⟨w.heap.size, 18, none⟩) hbl3).trans (HK2.out 18 _ rfl)
  clear hmk3 hbl3 HK2 HL2 k17 M2
  obtain ⟨r3, hr3⟩ : ∃ r, r2 + 4 * (a.cn : Int) = r := ⟨_, rfl⟩
  have hr30 : 0 ≤ r3 ∧ r3 ≤ 6000000000000 := by omega
  rw [hr3]
  clear hr3
  go_wp2_with fail
  refine Calls.mono (mk_slots lo hi a.sc a.sn r3 a.sa _ (HSL.out.mk M3.out) h4 hr30.1 (by omega)) ?_
  rintro e w4 ⟨rfl, hmk4⟩
  have M4 : Hid (Mk lo hi w w4) := M3.out.trans hmk4
  clear hmk4 M3 k18
  go_wp2
  go_ret
  exact ⟨⟨_, rfl, by omega⟩, M4.out⟩
end Go.Proofs.YtphdijkpjjokaaaGreatDoor
