
/-
  Tables of a call's own, marked and held. Conditions: the lists lie in blocks apart from each other, which may be written; lengths are at most 1048576.
-/
import Derived.Test.YthieilkabcehgaaGreatDoorBas
import Derived.Test.YthieilkabcehgaaGreatDoorHmt
namespace Go.Proofs.YthieilkabcehgaaGreatDoor
open Go.ChangeShapes Go.WideShapes Go.ChangeAt Go.RowKit Go.Deep Go.Joins
set_option linter.unusedVariables false

/-- Partitions in blocks of their own, apart from each other: the rows in one, the windows of each in a range behind it. -/
structure OP (lo hi : Nat) (w : World) (a : Option Addr) (n : Nat) (Y : Nat → Rw) : Prop where
  r : WR 5 lo hi w a n
  g : ∀ b off, a = some ⟨b, off, none⟩ → ∀ i, i < n → w.cell? ⟨b, off + i * 5 + 4, none⟩ = some (.slice (Y i).wa (Y i).wn (Y i).wc)
  v : ∀ b off, a = some ⟨b, off, none⟩ → 0 < n → ∃ β : Nat → Nat, b + 1 ≤ β 0 ∧ (∀ i j, i ≤ j → j ≤ n → β i ≤ β j) ∧ β n ≤ hi ∧ ∀ i, i < n → WR 3 (β i) (β (i + 1)) w (Y i).wa (Y i).wn
/-- The number at which the marks of partition i begin. -/
def Kp (Y : Nat → Rw) (K0 : Int) : Nat → Int
  | 0 => K0
  | i + 1 => Kp Y K0 i + 4 + 3 * ((Y i).wn : Int)
/-- A marked row. -/
def rowM (Y : Nat → Rw) (K0 : Int) (i : Nat) : List Value := [.string (tx (Kp Y K0 i)), .int .i64 (Kp Y K0 i + 1), .int .i64 (Kp Y K0 i + 2), .int .i64 (Kp Y K0 i + 3), .slice (Y i).wa (Y i).wn (Y i).wc]
/-- Partitions as they are marked. -/
structure HP (w : World) (a : Option Addr) (n : Nat) (Y : Nat → Rw) (K0 : Int) : Prop where
  r : GSeg 5 w a n (rowM Y K0)
  v : ∀ i, i < n → GSeg 3 w (Y i).wa (Y i).wn (mk3 (Kp Y K0 i + 4))
theorem HP.below {w w' : World} {a : Option Addr} {n : Nat} {Y : Nat → Rw} {K0 : Int} (h : HP w a n Y K0) (hb : Below w.heap.size w w') : HP w' a n Y K0 := ⟨h.r.below hb, fun i hi => (h.v i hi).below hb⟩
theorem Kp_le (Y : Nat → Rw) (K0 : Int) (n : Nat) (hw : ∀ i, i < n → (Y i).wn ≤ 1048576) (h0 : 0 ≤ K0) (h1 : K0 ≤ 1000) : ∀ m, m ≤ n → 0 ≤ Kp Y K0 m ∧ Kp Y K0 m ≤ 1000 + 3145732 * (m : Int) := by
  intro m
  induction m with
  | zero => intro _; exact ⟨h0, by simp only [Kp]; omega⟩
  | succ m ih =>
    intro hm
    have := ih (by omega)
    have := hw m (by omega)
    simp only [Kp]
    omega
set_option maxRecDepth 40000 in
set_option maxHeartbeats 4000000 in
theorem mkv_parts (lo hi cap n : Nat) (K0 : Int) (a : Option Addr) (Y : Nat → Rw) (w : World) (ho : OP lo hi w a n Y) (hn : n ≤ 1048576) (hwn : ∀ i, i < n → (Y i).wn ≤ 1048576) (h0 : 0 ≤ K0) (hk : K0 ≤ 1000) :
    Calls Tryz.prog 49 #[.slice a n cap, .int .i64 K0] w fun e w' => e = .returned (.int .i64 (Kp Y K0 n)) ∧ Mk lo hi w w' ∧ HP w' a n Y K0 := by
  by_cases hn0 : n = 0
  · subst hn0
    go_enter Tryz.func49, Tryz.ntmps49
    go_wp2
    refine wp_loop_rounds 1 ?_
    rw [rounds_succ]
    go_wp2
    go_ret
    exact ⟨rfl, Mk.refl _ _ _, ⟨fun h => absurd h (by omega), fun i hi => by omega⟩⟩
  obtain ⟨B, off, rfl, hB1, hB2, hB3, hc, hf⟩ := ho.r (by omega)
  have HC : Hid (∀ i j, i < n → j < 5 → ∃ u, w.cell? ⟨B, off + i * 5 + j, none⟩ = some u) := hc
  have HF : Hid (∀ j, w.frozen? ⟨B, j, none⟩ = false) := hf
  have HB : Hid (lo ≤ B ∧ B < hi ∧ B < w.heap.size) := ⟨hB1, hB2, hB3⟩
  have HG : Hid (∀ i, i < n → w.cell? ⟨B, off + i * 5 + 4, none⟩ = some (.slice (Y i).wa (Y i).wn (Y i).wc)) := ho.g B off rfl
  obtain ⟨β, hβ0, hβm, hβn, hβw⟩ := ho.v B off rfl (by omega)
  have HBE : Hid (B + 1 ≤ β 0 ∧ (∀ i j, i ≤ j → j ≤ n → β i ≤ β j) ∧ β n ≤ hi) := ⟨hβ0, hβm, hβn⟩
  have HVW : Hid (∀ i, i < n → WR 3 (β i) (β (i + 1)) w (Y i).wa (Y i).wn) := hβw
  have HKP : Hid (∀ m, m ≤ n → 0 ≤ Kp Y K0 m ∧ Kp Y K0 m ≤ 1000 + 3145732 * (m : Int)) := Kp_le Y K0 n hwn h0 hk
  clear hβ0 hβm hβn hβw
  have HWN : Hid (∀ i, i < n → (Y i).wn ≤ 1048576) := hwn
  clear hc hf ho hB1 hB2 hB3 hwn
  go_enter Tryz.func49, Tryz.ntmps49
  go_wp2
  go_loopw [1, 5] (fun t i wr => ∃ (m : Nat) (K : Int), m ≤ n ∧ 0 ≤ K ∧ K ≤ 1000 + 3145732 * (m : Int) ∧ i = .int .i64 m ∧ t = .int .i64 K ∧ Hid (Mk lo hi w wr) ∧ Hid (∀ i, i < n → wr.cell? ⟨B, off + i * 5 + 4, none⟩ = some (.slice (Y i).wa (Y i).wn (Y i).wc)) ∧ Hid (Kp Y K0 m = K) ∧ Hid (∀ i, i < m → CellsAt wr B (off + i * 5) (rowM Y K0 i)) ∧ Hid (∀ i, i < m → GSeg 3 wr (Y i).wa (Y i).wn (mk3 (Kp Y K0 i + 4)))) (fun _ i _ => n - (intOf i).toNat)
  case atStart => exact ⟨0, K0, by omega, h0, by omega, rfl, rfl, Mk.refl _ _ _, HG.out, rfl, fun i hi => by omega, fun i hi => by omega⟩
  case round =>
    clear HG
    obtain ⟨m, K, hm, hK0, hK1, rfl, rfl, HR, HG, HKE, HRC, HWC⟩ := hrel
    by_cases hmn : m < n
    rotate_left
    · obtain rfl : m = n := by omega
      go_wp2
      go_ret
      exact ⟨(by rw [HKE.out]; rfl), HR.out, ⟨fun _ => ⟨B, off, rfl, Nat.lt_of_lt_of_le HB.out.2.2 HR.out.b.size, HRC.out⟩, HWC.out⟩⟩
    have hmn' : (m : Int) < (n : Int) := by omega
    have hwm := HWN.out m hmn
    have HMT : Hid (∀ X, Calls Tryz.prog 83 #[.int .i64 K] X fun e w' => e = .returned (.string (tx K)) ∧ Below X.heap.size X w') := fun X => mkv_text K X hK0 (by omega)
    go_wp2_with fail
    refine Calls.mono (HMT.out _) ?_
    rintro e w1 ⟨rfl, hb1⟩
    obtain ⟨s0, HS0⟩ : ∃ s, Hid (tx K = s) := ⟨_, rfl⟩
    rw [HS0.out]
    have HR1 : Hid (Mk lo hi w w1) := HR.out.below hb1
    have HG1 : Hid (∀ i, i < n → w1.cell? ⟨B, off + i * 5 + 4, none⟩ = some (.slice (Y i).wa (Y i).wn (Y i).wc)) := fun i hi => kept_cell hb1 (HG.out i hi)
    have HRC1 : Hid (∀ i, i < m → CellsAt w1 B (off + i * 5) (rowM Y K0 i)) := fun i hi => (HRC.out i hi).below hb1
    have HWC1 : Hid (∀ i, i < m → GSeg 3 w1 (Y i).wa (Y i).wn (mk3 (Kp Y K0 i + 4))) := fun i hi => (HWC.out i hi).below hb1
    clear hb1 HR HG HMT HRC HWC
    obtain ⟨u0, c00⟩ := HR1.out.c B (off + m * 5 + 0) HB.out.2.2 (HC.out m 0 hmn (by omega))
    have f0 : w1.frozen? ⟨B, off + m * 5, none⟩ = false := (HR1.out.f B _ HB.out.2.2).trans (HF.out _)
    obtain ⟨u1, c10⟩ := HR1.out.c B (off + m * 5 + 1) HB.out.2.2 (HC.out m 1 hmn (by omega))
    have f1 : w1.frozen? ⟨B, off + m * 5 + 1, none⟩ = false := (HR1.out.f B _ HB.out.2.2).trans (HF.out _)
    obtain ⟨u2, c20⟩ := HR1.out.c B (off + m * 5 + 2) HB.out.2.2 (HC.out m 2 hmn (by omega))
    have f2 : w1.frozen? ⟨B, off + m * 5 + 2, none⟩ = false := (HR1.out.f B _ HB.out.2.2).trans (HF.out _)
    obtain ⟨u3, c30⟩ := HR1.out.c B (off + m * 5 + 3) HB.out.2.2 (HC.out m 3 hmn (by omega))
    have f3 : w1.frozen? ⟨B, off + m * 5 + 3, none⟩ = false := (HR1.out.f B _ HB.out.2.2).trans (HF.out _)
    rw [Nat.add_zero] at c00
    have d1 : (w1.setCell ⟨B, off + m * 5, none⟩ (.string s0)).cell? ⟨B, off + m * 5 + 1, none⟩ = some u1 := by rw [World.cell?_setCell_other _ _ _ _ (by simp)]; exact c10
    have d2 : ((w1.setCell ⟨B, off + m * 5, none⟩ (.string s0)).setCell ⟨B, off + m * 5 + 1, none⟩ (.int .i64 (K + 1))).cell? ⟨B, off + m * 5 + 2, none⟩ = some u2 := by rw [World.cell?_setCell_other _ _ _ _ (by simp), World.cell?_setCell_other _ _ _ _ (by simp)]; exact c20
    have d3 : (((w1.setCell ⟨B, off + m * 5, none⟩ (.string s0)).setCell ⟨B, off + m * 5 + 1, none⟩ (.int .i64 (K + 1))).setCell ⟨B, off + m * 5 + 2, none⟩ (.int .i64 (K + 2))).cell? ⟨B, off + m * 5 + 3, none⟩ = some u3 := by rw [World.cell?_setCell_other _ _ _ _ (by simp), World.cell?_setCell_other _ _ _ _ (by simp), World.cell?_setCell_other _ _ _ _ (by simp)]; exact c30
    have HR2 : Hid (Mk lo hi w ((((w1.setCell ⟨B, off + m * 5, none⟩ (.string s0)).setCell ⟨B, off + m * 5 + 1, none⟩ (.int .i64 (K + 1))).setCell ⟨B, off + m * 5 + 2, none⟩ (.int .i64 (K + 2))).setCell ⟨B, off + m * 5 + 3, none⟩ (.int .i64 (K + 3)))) := ((((HR1.out.set HB.out.1 HB.out.2.1).set HB.out.1 HB.out.2.1).set HB.out.1 HB.out.2.1).set HB.out.1 HB.out.2.1)
    have HG2 : Hid (∀ i, i < n → ((((w1.setCell ⟨B, off + m * 5, none⟩ (.string s0)).setCell ⟨B, off + m * 5 + 1, none⟩ (.int .i64 (K + 1))).setCell ⟨B, off + m * 5 + 2, none⟩ (.int .i64 (K + 2))).setCell ⟨B, off + m * 5 + 3, none⟩ (.int .i64 (K + 3))).cell? ⟨B, off + i * 5 + 4, none⟩ = some (.slice (Y i).wa (Y i).wn (Y i).wc)) := fun i hi => by
      rw [World.cell?_setCell_other _ _ _ _ (by intro c; injection c with c1 c2 c3; omega), World.cell?_setCell_other _ _ _ _ (by intro c; injection c with c1 c2 c3; omega), World.cell?_setCell_other _ _ _ _ (by intro c; injection c with c1 c2 c3; omega), World.cell?_setCell_other _ _ _ _ (by intro c; injection c with c1 c2 c3; omega)]
      exact HG1.out i hi
    have HMB : Hid (Mk B (B + 1) w1 ((((w1.setCell ⟨B, off + m * 5, none⟩ (.string s0)).setCell ⟨B, off + m * 5 + 1, none⟩ (.int .i64 (K + 1))).setCell ⟨B, off + m * 5 + 2, none⟩ (.int .i64 (K + 2))).setCell ⟨B, off + m * 5 + 3, none⟩ (.int .i64 (K + 3)))) := (((((Mk.refl B (B + 1) w1).set (Nat.le_refl _) (Nat.lt_succ_self _)).set (Nat.le_refl _) (Nat.lt_succ_self _)).set (Nat.le_refl _) (Nat.lt_succ_self _)).set (Nat.le_refl _) (Nat.lt_succ_self _))
    have HWC2 : Hid (∀ i, i < m → GSeg 3 ((((w1.setCell ⟨B, off + m * 5, none⟩ (.string s0)).setCell ⟨B, off + m * 5 + 1, none⟩ (.int .i64 (K + 1))).setCell ⟨B, off + m * 5 + 2, none⟩ (.int .i64 (K + 2))).setCell ⟨B, off + m * 5 + 3, none⟩ (.int .i64 (K + 3))) (Y i).wa (Y i).wn (mk3 (Kp Y K0 i + 4))) := fun i hi => (HWC1.out i hi).mkd (HVW.out i (by omega)) HR1.out.b.size HMB.out (.inr (by have := HBE.out.2.1 0 i (by omega) (by omega); have := HBE.out.1; omega))
    have HRC2 : Hid (∀ i, i < m + 1 → CellsAt ((((w1.setCell ⟨B, off + m * 5, none⟩ (.string s0)).setCell ⟨B, off + m * 5 + 1, none⟩ (.int .i64 (K + 1))).setCell ⟨B, off + m * 5 + 2, none⟩ (.int .i64 (K + 2))).setCell ⟨B, off + m * 5 + 3, none⟩ (.int .i64 (K + 3))) B (off + i * 5) (rowM Y K0 i)) := fun i hi j v hj => by
      have hj5 : j < 5 := by
        have := (List.getElem?_eq_some_iff.1 hj).1
        simpa [rowM] using this
      by_cases e : i = m
      · subst e
        unfold rowM at hj
        rw [HKE.out, HS0.out] at hj
        have : j = 0 ∨ j = 1 ∨ j = 2 ∨ j = 3 ∨ j = 4 := by omega
        rcases this with rfl | rfl | rfl | rfl | rfl
        · simp at hj
          subst hj
          rw [Nat.add_zero, World.cell?_setCell_other _ _ _ _ (by simp), World.cell?_setCell_other _ _ _ _ (by simp), World.cell?_setCell_other _ _ _ _ (by simp)]
          exact World.cell?_setCell_same _ _ _ c00
        · simp at hj
          subst hj
          rw [World.cell?_setCell_other _ _ _ _ (by simp), World.cell?_setCell_other _ _ _ _ (by simp)]
          exact World.cell?_setCell_same _ _ _ d1
        · simp at hj
          subst hj
          rw [World.cell?_setCell_other _ _ _ _ (by simp)]
          exact World.cell?_setCell_same _ _ _ d2
        · simp at hj
          subst hj
          exact World.cell?_setCell_same _ _ _ d3
        · simp at hj
          subst hj
          exact HG2.out i hmn
      · have h0 := HRC1.out i (by omega) j v hj
        rw [World.cell?_setCell_other _ _ _ _ (by intro c; injection c with c1 c2 c3; omega), World.cell?_setCell_other _ _ _ _ (by intro c; injection c with c1 c2 c3; omega), World.cell?_setCell_other _ _ _ _ (by intro c; injection c with c1 c2 c3; omega), World.cell?_setCell_other _ _ _ _ (by intro c; injection c with c1 c2 c3; omega)]
        exact h0
    clear HMB HRC1 HWC1
    have d4 : ((((w1.setCell ⟨B, off + m * 5, none⟩ (.string s0)).setCell ⟨B, off + m * 5 + 1, none⟩ (.int .i64 (K + 1))).setCell ⟨B, off + m * 5 + 2, none⟩ (.int .i64 (K + 2))).setCell ⟨B, off + m * 5 + 3, none⟩ (.int .i64 (K + 3))).cell? ⟨B, off + m * 5 + 4, none⟩ = some (.slice (Y m).wa (Y m).wn (Y m).wc) := HG2.out m hmn
    have HMW : Hid (∀ k4 : Int, k4 = K + 4 → Calls Tryz.prog 84 #[.slice (Y m).wa (Y m).wn (Y m).wc, .int .i64 k4] ((((w1.setCell ⟨B, off + m * 5, none⟩ (.string s0)).setCell ⟨B, off + m * 5 + 1, none⟩ (.int .i64 (K + 1))).setCell ⟨B, off + m * 5 + 2, none⟩ (.int .i64 (K + 2))).setCell ⟨B, off + m * 5 + 3, none⟩ (.int .i64 (K + 3))) fun e w' => e = .returned (.int .i64 (k4 + 3 * ((Y m).wn : Int))) ∧ Mk (β m) (β (m + 1)) ((((w1.setCell ⟨B, off + m * 5, none⟩ (.string s0)).setCell ⟨B, off + m * 5 + 1, none⟩ (.int .i64 (K + 1))).setCell ⟨B, off + m * 5 + 2, none⟩ (.int .i64 (K + 2))).setCell ⟨B, off + m * 5 + 3, none⟩ (.int .i64 (K + 3))) w' ∧ GSeg 3 w' (Y m).wa (Y m).wn (mk3 k4)) := fun k4 hk4 => mkv_wins (β m) (β (m + 1)) _ _ k4 _ _ ((HVW.out m hmn).mk HR2.out) hwm (by omega) (by omega)
    have HK1 : Hid (Kp Y K0 (m + 1) = K + 4 + 3 * ((Y m).wn : Int)) := by show _ = _; simp only [Kp]; rw [HKE.out]
    have HWX : Hid (∀ W : World, GSeg 3 W (Y m).wa (Y m).wn (mk3 (K + 4)) → GSeg 3 W (Y m).wa (Y m).wn (mk3 (Kp Y K0 m + 4))) := fun W h => by rw [HKE.out]; exact h
    have hw1 : IntKind.i64.wrap (K + 1) = K + 1 := by rw [IntKind.wrap_i64]; omega
    have hw2 : IntKind.i64.wrap (K + 1 + 1) = K + 2 := by rw [IntKind.wrap_i64]; omega
    have hw3 : IntKind.i64.wrap (K + 2 + 1) = K + 3 := by rw [IntKind.wrap_i64]; omega
    have hw4 : IntKind.i64.wrap (K + 3 + 1) = K + 4 := by rw [IntKind.wrap_i64]; omega
    obtain ⟨wa, HWA⟩ : ∃ x, Hid ((Y m).wa = x) := ⟨_, rfl⟩
    obtain ⟨wn, HWNE⟩ : ∃ x, Hid ((Y m).wn = x) := ⟨_, rfl⟩
    obtain ⟨wc, HWCE⟩ : ∃ x, Hid ((Y m).wc = x) := ⟨_, rfl⟩
    rw [HWA.out, HWNE.out] at HMW HWX
    rw [HWCE.out] at HMW
    rw [HWNE.out] at HK1 hwm
    rw [HWA.out, HWNE.out, HWCE.out] at d4
    clear HR1 HG1
    go_wp2_with fail
    revert HR2 HG2 HMW HRC2 HWC2
    generalize ((((w1.setCell ⟨B, off + m * 5, none⟩ (.string s0)).setCell ⟨B, off + m * 5 + 1, none⟩ (.int .i64 (K + 1))).setCell ⟨B, off + m * 5 + 2, none⟩ (.int .i64 (K + 2))).setCell ⟨B, off + m * 5 + 3, none⟩ (.int .i64 (K + 3))) = V
    intro HR2 HG2 HWC2 HRC2 HMW
    refine Calls.mono (HMW.out (K + 4) rfl) ?_
    rintro e w2 ⟨rfl, hmk, hgs⟩
    have hb0 := HBE.out.2.1 0 m (by omega) (by omega)
    have hb1 := HBE.out.2.1 (m + 1) n (by omega) (by omega)
    have hbB := HBE.out.1
    have hbh := HBE.out.2.2
    have HR3 : Hid (Mk lo hi w w2) := HR2.out.trans (hmk.wide (by have := HB.out.1; omega) (by omega))
    have HBL : Hid (w2.heap[B]? = V.heap[B]?) := hmk.b.block B (World.block_lt_of_cell? V _ (HG2.out m hmn)) (by omega)
    have HRC3 : Hid (∀ i, i < m + 1 → CellsAt w2 B (off + i * 5) (rowM Y K0 i)) := fun i hi => (HRC2.out i hi).of (fun j => World.cell?_of_block (a := ⟨B, j, none⟩) HBL.out)
    have HWC3 : Hid (∀ i, i < m + 1 → GSeg 3 w2 (Y i).wa (Y i).wn (mk3 (Kp Y K0 i + 4))) := fun i hi => by
      by_cases e : i = m
      · subst e
        rw [HWA.out, HWNE.out]
        exact HWX.out _ hgs
      · exact (HWC2.out i (by omega)).mkd (HVW.out i (by omega)) HR2.out.b.size hmk (.inl (HBE.out.2.1 (i + 1) m (by omega) (by omega)))
    have HG3 : Hid (∀ i, i < n → w2.cell? ⟨B, off + i * 5 + 4, none⟩ = some (.slice (Y i).wa (Y i).wn (Y i).wc)) := fun i hi => (World.cell?_of_block (a := ⟨B, off + i * 5 + 4, none⟩) HBL.out).trans (HG2.out i hi)
    clear hmk hgs HR2 HG2 HMW d4 HRC2 HWC2 HBL HWX hb0 hb1 hbB hbh HKE
    go_wp2
    go_roundw
    case rel => exact ⟨m + 1, K + 4 + 3 * (wn : Int), by omega, by omega, by omega, by go_num, rfl, HR3.out, HG3.out, HK1.out, HRC3.out, HWC3.out⟩
    case measure => simp [intOf]; omega
set_option maxRecDepth 40000 in
set_option maxHeartbeats 4000000 in
theorem held_parts (cap n : Nat) (K0 : Int) (a : Option Addr) (Y : Nat → Rw) (w : World) (hp : HP w a n Y K0) (hn : n ≤ 1048576) (hwn : ∀ i, i < n → (Y i).wn ≤ 1048576) (h0 : 0 ≤ K0) (hk : K0 ≤ 1000) :
    Calls Tryz.prog 52 #[.slice a n cap, .int .i64 K0] w fun e w' => e = .returned (.int .i64 (Kp Y K0 n)) ∧ Below w.heap.size w w' := by
  have HH : Hid (∀ X, Below w.heap.size w X → HP X a n Y K0) := fun X hX => hp.below hX
  have HKP : Hid (∀ m, m ≤ n → 0 ≤ Kp Y K0 m ∧ Kp Y K0 m ≤ 1000 + 3145732 * (m : Int)) := Kp_le Y K0 n hwn h0 hk
  have HWN : Hid (∀ i, i < n → (Y i).wn ≤ 1048576) := hwn
  clear hp hwn
  go_enter Tryz.func52, Tryz.ntmps52
  go_wp2
  go_loopw [1, 5] (fun t i wr => ∃ (m : Nat) (K : Int), m ≤ n ∧ 0 ≤ K ∧ K ≤ 1000 + 3145732 * (m : Int) ∧ i = .int .i64 m ∧ t = .int .i64 K ∧ Hid (Kp Y K0 m = K) ∧ Hid (Below w.heap.size w wr)) (fun _ i _ => n - (intOf i).toNat)
  case atStart => exact ⟨0, K0, by omega, h0, by omega, rfl, rfl, rfl, Below.refl _ _⟩
  case round =>
    obtain ⟨m, K, hm, hK0, hK1, rfl, rfl, HKE, HB⟩ := hrel
    by_cases hmn : m < n
    rotate_left
    · obtain rfl : m = n := by omega
      go_wp2
      go_ret
      exact ⟨(by rw [HKE.out]; rfl), HB.out⟩
    have hmn' : (m : Int) < (n : Int) := by omega
    have hwm := HWN.out m hmn
    obtain ⟨s0, HS0⟩ : ∃ s, Hid (tx K = s) := ⟨_, rfl⟩
    have HMT : Hid (∀ X, Calls Tryz.prog 83 #[.int .i64 K] X fun e w' => e = .returned (.string s0) ∧ Below X.heap.size X w') := fun X => by
      rw [← HS0.out]
      exact mkv_text K X hK0 (by omega)
    obtain ⟨B, off, rfl, hbl, hc⟩ := (HH.out wr HB.out).r.at m hmn
    have HC : Hid (∀ X, Below wr.heap.size wr X → CellsAt X B (off + m * 5) (rowM Y K0 m)) := fun X hX => hc.below hX
    have HWS : Hid (∀ X, Below wr.heap.size wr X → GSeg 3 X (Y m).wa (Y m).wn (mk3 (K + 4))) := fun X hX => by
      have := ((HH.out wr HB.out).v m hmn).below hX
      rw [HKE.out] at this
      exact this
    unfold rowM at HC
    rw [HKE.out, HS0.out] at HC
    have HK1 : Hid (Kp Y K0 (m + 1) = K + 4 + 3 * ((Y m).wn : Int)) := by show _ = _; simp only [Kp]; rw [HKE.out]
    obtain ⟨wa, HWA⟩ : ∃ x, Hid ((Y m).wa = x) := ⟨_, rfl⟩
    obtain ⟨wn, HWNE⟩ : ∃ x, Hid ((Y m).wn = x) := ⟨_, rfl⟩
    obtain ⟨wc, HWCE⟩ : ∃ x, Hid ((Y m).wc = x) := ⟨_, rfl⟩
    rw [HWA.out, HWNE.out] at HWS
    rw [HWA.out, HWNE.out, HWCE.out] at HC
    rw [HWNE.out] at HK1 hwm
    clear hbl hc HS0 HKE HH
    have HR : Hid (Below wr.heap.size wr wr) := Below.refl _ _
    have k0 : wr.cell? ⟨B, off + m * 5, none⟩ = some (.string s0) := HC.out wr HR.out 0 _ rfl
    have hgr := gr_some wr
    have G0 := fun Y => gr_cell (W0 := wr) k0 Y
    go_wp2
    refine region_alike (by kernel_rfl) (by kernel_rfl) ?_
    repeat (go_big_quiet_step (first | (go_at_call 83; exact gr_call (HMT.out _))))
    refine wpQuiet_nil ?_
    intro _ hw'
    obtain ⟨X1, rfl⟩ := hw'
    have hb1 := X1.h
    generalize X1.w = w1 at hb1 ⊢
    clear G0 hgr
    have k1 : w1.cell? ⟨B, off + m * 5 + 1, none⟩ = some (.int .i64 (K + 1)) := HC.out w1 hb1 1 _ rfl
    have k2 : w1.cell? ⟨B, off + m * 5 + 2, none⟩ = some (.int .i64 (K + 2)) := HC.out w1 hb1 2 _ rfl
    have k3 : w1.cell? ⟨B, off + m * 5 + 3, none⟩ = some (.int .i64 (K + 3)) := HC.out w1 hb1 3 _ rfl
    have k4 : w1.cell? ⟨B, off + m * 5 + 4, none⟩ = some (.slice wa wn wc) := HC.out w1 hb1 4 _ rfl
    have HW1 : Hid (GSeg 3 w1 wa wn (mk3 (K + 4))) := HWS.out w1 hb1
    have HB1 : Hid (Below w.heap.size w w1) := HB.out.trans (hb1.mono HB.out.size)
    have hw1 : IntKind.i64.wrap (K + 1) = K + 1 := by rw [IntKind.wrap_i64]; omega
    have hw2 : IntKind.i64.wrap (K + 1 + 1) = K + 2 := by rw [IntKind.wrap_i64]; omega
    have hw3 : IntKind.i64.wrap (K + 2 + 1) = K + 3 := by rw [IntKind.wrap_i64]; omega
    have hw4 : IntKind.i64.wrap (K + 3 + 1) = K + 4 := by rw [IntKind.wrap_i64]; omega
    clear k0 hb1 HB HR HC HWS HMT
    go_wp2_with fail
    refine Calls.mono (held_wins wa wc wn (K + 4) _ HW1.out hwm (by omega) (by omega)) ?_
    rintro e w2 ⟨rfl, hw2e⟩
    subst hw2e
    have hng : ¬ (K + 4 + 3 * (wn : Int) < 0) := by omega
    clear HW1 k1 k2 k3 k4
    go_wp2
    go_roundw
    case rel => exact ⟨m + 1, K + 4 + 3 * (wn : Int), by omega, by omega, by omega, by go_num, rfl, HK1.out, HB1.out⟩
    case measure => simp [intOf]; omega
/-- Tables whose lists lie in blocks of [lo, hi) that may be written, apart from each other. -/
def OTa (lo hi : Nat) (w : World) (a : Ad) : Prop := ∃ h1 h2 h3, h1 ≤ h2 ∧ h2 ≤ h3 ∧ h3 ≤ hi ∧ lo ≤ h1 ∧ OP lo h1 w a.pa a.pn a.Y ∧ WR 1 h1 h2 w a.da a.dn ∧ WR 4 h2 h3 w a.ca a.cn ∧ WR 3 h3 hi w a.sa a.sn
theorem OP.below {lo hi : Nat} {w w' : World} {a : Option Addr} {n : Nat} {Y : Nat → Rw} (h : OP lo hi w a n Y) (hb : Below w.heap.size w w') : OP lo hi w' a n Y :=
  ⟨h.r.below hb, fun b off e i hi => kept_cell hb (h.g b off e i hi), fun b off e h0 => by
    obtain ⟨β, q1, q2, q3, q4⟩ := h.v b off e h0
    exact ⟨β, q1, q2, q3, fun i hi => (q4 i hi).below hb⟩⟩
theorem OP.mkk {lo hi l1 h1 : Nat} {w w' : World} {a : Option Addr} {n : Nat} {Y : Nat → Rw} (h : OP lo hi w a n Y) (g : Mk l1 h1 w w') (hd : hi ≤ l1 ∨ h1 ≤ lo) : OP lo hi w' a n Y :=
  ⟨h.r.mk g, fun b off e i hin => by
    obtain ⟨b', off', e', q1, q2, q3, _⟩ := h.r (by omega)
    rw [e] at e'
    cases e'
    exact (g.b.cell (p := ⟨b, off + i * 5 + 4, none⟩) q3 (by show b < l1 ∨ h1 ≤ b; omega)).trans (h.g b off e i hin), fun b off e h0 => by
    obtain ⟨β, q1, q2, q3, q4⟩ := h.v b off e h0
    exact ⟨β, q1, q2, q3, fun i hi => (q4 i hi).mk g⟩⟩
theorem OTa.below {lo hi : Nat} {w w' : World} {a : Ad} (h : OTa lo hi w a) (hb : Below w.heap.size w w') : OTa lo hi w' a := by
  obtain ⟨h1, h2, h3, q1, q2, q3, q4, q5, q6, q7, q8⟩ := h
  exact ⟨h1, h2, h3, q1, q2, q3, q4, q5.below hb, q6.below hb, q7.below hb, q8.below hb⟩
theorem OTa.mkk {lo hi l1 h1 : Nat} {w w' : World} {a : Ad} (h : OTa lo hi w a) (g : Mk l1 h1 w w') (hd : hi ≤ l1 ∨ h1 ≤ lo) : OTa lo hi w' a := by
  obtain ⟨k1, k2, k3, q1, q2, q3, q4, q5, q6, q7, q8⟩ := h
  exact ⟨k1, k2, k3, q1, q2, q3, q4, q5.mkk g (by omega), q6.mk g, q7.mk g, q8.mk g⟩
/-- Tables as they are marked from 1 on. -/
structure HTb (w : World) (a : Ad) : Prop where
  p : HP w a.pa a.pn a.Y 1
  d : GSeg 1 w a.da a.dn (mk1 (Kp a.Y 1 a.pn))
  c : GSeg 4 w a.ca a.cn (mk4 (Kp a.Y 1 a.pn + 1 * (a.dn : Int)))
  s : GSeg 3 w a.sa a.sn (mk3 (Kp a.Y 1 a.pn + 1 * (a.dn : Int) + 4 * (a.cn : Int)))
/-- The number behind the last mark. -/
def Kz (a : Ad) : Int := Kp a.Y 1 a.pn + 1 * (a.dn : Int) + 4 * (a.cn : Int) + 3 * (a.sn : Int)
theorem HTb.below {w w' : World} {a : Ad} (h : HTb w a) (hb : Below w.heap.size w w') : HTb w' a := ⟨h.p.below hb, h.d.below hb, h.c.below hb, h.s.below hb⟩
theorem HP.mkd {lo hi l1 h1 : Nat} {w0 w w' : World} {a : Option Addr} {n : Nat} {Y : Nat → Rw} {K0 : Int} (h : HP w a n Y K0) (r : OP l1 h1 w0 a n Y) (hl : w0.heap.size ≤ w.heap.size) (g : Mk lo hi w w') (hd : h1 ≤ lo) : HP w' a n Y K0 :=
  ⟨h.r.mkd r.r hl g (.inl hd), fun i hi => by
    obtain ⟨b, off, e, q1, q2, q3, _⟩ := r.r (by omega)
    obtain ⟨β, p1, p2, p3, p4⟩ := r.v b off e (by omega)
    exact (h.v i hi).mkd (p4 i hi) hl g (.inl (by have := p2 (i + 1) n (by omega) (by omega); omega))⟩
set_option maxRecDepth 40000 in
set_option maxHeartbeats 4000000 in
theorem mkv_tab (t : Tb) (a : Ad) (lo hi : Nat) (w : World) (hT : OTa lo hi w a) (hs : TS a) (hhi : hi ≤ w.heap.size) :
    Calls Tryz.prog 15 #[tbV t a, .int .i64 1] w fun e w' => e = .returned (.int .i64 (Kz a)) ∧ 0 ≤ Kz a ∧ Mk lo hi w w' ∧ HTb w' a := by
  have HHI : Hid (hi ≤ w.heap.size) := hhi
  obtain ⟨n1, n2, n3, hn1, hn2, hn3, hn0, hTp, hTd, hTc, hTs⟩ := hT
  have HNN : Hid (n1 ≤ n2 ∧ n2 ≤ n3 ∧ n3 ≤ hi ∧ lo ≤ n1) := ⟨hn1, hn2, hn3, hn0⟩
  have HPO : Hid (OP lo n1 w a.pa a.pn a.Y) := hTp
  have HD : Hid (WR 1 n1 n2 w a.da a.dn) := hTd
  have HCH : Hid (WR 4 n2 n3 w a.ca a.cn) := hTc
  have HSL : Hid (WR 3 n3 hi w a.sa a.sn) := hTs
  have HKZ : Hid (Kz a = Kp a.Y 1 a.pn + 1 * (a.dn : Int) + 4 * (a.cn : Int) + 3 * (a.sn : Int)) := rfl
  have hkp : 0 ≤ Kp a.Y 1 a.pn ∧ Kp a.Y 1 a.pn ≤ 1000 + 3145732 * (a.pn : Int) := Kp_le a.Y 1 a.pn (fun i hi => (hs.w i hi).1) (by omega) (by omega) a.pn (Nat.le_refl _)
  obtain ⟨r1, HR1⟩ : ∃ r, Hid (Kp a.Y 1 a.pn = r) := ⟨_, rfl⟩
  rw [HR1.out] at hkp HKZ
  have HTB : Hid (∀ W : World, HP W a.pa a.pn a.Y 1 → GSeg 1 W a.da a.dn (mk1 r1) → GSeg 4 W a.ca a.cn (mk4 (r1 + 1 * (a.dn : Int))) → GSeg 3 W a.sa a.sn (mk3 (r1 + 1 * (a.dn : Int) + 4 * (a.cn : Int))) → HTb W a) := fun W g1 g2 g3 g4 => ⟨g1, by rw [HR1.out]; exact g2, by rw [HR1.out]; exact g3, by rw [HR1.out]; exact g4⟩
  clear hn1 hn2 hn3 hn0 hTp hTd hTc hTs
  clear hhi
  have h1 := hs.p
  have h2 := hs.d
  have h3 := hs.c
  have h4 := hs.s
  have HWN : Hid (∀ i, i < a.pn → (a.Y i).wn ≤ 1048576) := fun i hi => (hs.w i hi).1
  have HB0 : Hid (Below w.heap.size w (w.alloc (.cells (tbA t a) 39))) := (Below.refl _ _).alloc (Nat.le_refl _) _
  have KB0 : Hid (Bk (w.alloc (.cells (tbA t a) 39)) w.heap.size (tbA t a)) := Bk.new w _ _ _ rfl
  have HP0 : Hid (OP lo n1 (w.alloc (.cells (tbA t a) 39)) a.pa a.pn a.Y) := HPO.out.below HB0.out
  have k15 : (w.alloc (.cells (tbA t a) 39)).cell? ⟨w.heap.size, 15, none⟩ = some (.slice a.pa a.pn a.pc) := KB0.out.cell 15 _ rfl
  have M0 : Hid (Mk lo hi w (w.alloc (.cells (tbA t a) 39))) := (Mk.refl _ _ _).below HB0.out
  clear hs
  go_enter Tryz.func15, Tryz.ntmps15
  go_wp2_with fail
  refine Calls.mono (mkv_parts lo n1 a.pc a.pn 1 a.pa a.Y _ HP0.out h1 HWN.out (by omega) (by omega)) ?_
  rintro e w1 ⟨rfl, hmk1, hhp⟩
  rw [HR1.out]
  replace hmk1 : Mk lo hi (w.alloc (.cells (tbA t a) 39)) w1 := hmk1.wide (Nat.le_refl _) (by have := HNN.out; omega)
  have HHP1 : Hid (HP w1 a.pa a.pn a.Y 1) := hhp
  have hr10 := hkp.1
  clear hhp
  have M1 : Hid (Mk lo hi w w1) := M0.out.trans hmk1
  have hbl1 : w1.heap[w.heap.size]? = (w.alloc (.cells (tbA t a) 39)).heap[w.heap.size]? := hmk1.b.block _ KB0.out.lt (.inr HHI.out)
  have HK1 : Hid (∀ i v, (tbA t a)[i]? = some v → w1.cell? ⟨w.heap.size, i, none⟩ = some v) := fun i v hv => (World.cell?_of_block (a := ⟨w.heap.size, i, none⟩) hbl1).trans (KB0.out.cell i v hv)
  have HL1 : Hid (w.heap.size < w1.heap.size) := Nat.lt_of_lt_of_le KB0.out.lt hmk1.b.size
  have k16 : w1.cell? ⟨w.heap.size, 16, none⟩ = some (.slice a.da a.dn a.dc) := HK1.out 16 _ rfl
  clear hmk1 hbl1 HB0 KB0 HP0 k15 M0
  go_wp2_with fail
  refine Calls.mono (mkv_ints n1 n2 a.dc a.dn r1 a.da _ (HD.out.mk M1.out) h2 hr10 (by omega)) ?_
  rintro e w2 ⟨rfl, hmk2, hgs⟩
  have HHP2 : Hid (HP w2 a.pa a.pn a.Y 1) := HHP1.out.mkd HPO.out M1.out.b.size hmk2 (Nat.le_refl _)
  have HGD2 : Hid (GSeg 1 w2 a.da a.dn (mk1 r1)) := hgs
  replace hmk2 : Mk lo hi w1 w2 := hmk2.wide (by have := HNN.out; omega) (by have := HNN.out; omega)
  clear hgs HHP1
  have M2 : Hid (Mk lo hi w w2) := M1.out.trans hmk2
  have hbl2 : w2.heap[w.heap.size]? = w1.heap[w.heap.size]? := hmk2.b.block _ HL1.out (.inr HHI.out)
  have HK2 : Hid (∀ i v, (tbA t a)[i]? = some v → w2.cell? ⟨w.heap.size, i, none⟩ = some v) := fun i v hv => (World.cell?_of_block (a := ⟨w.heap.size, i, none⟩) hbl2).trans (HK1.out i v hv)
  have HL2 : Hid (w.heap.size < w2.heap.size) := Nat.lt_of_lt_of_le HL1.out hmk2.b.size
  have k17 : w2.cell? ⟨w.heap.size, 17, none⟩ = some (.slice a.ca a.cn a.cc) := HK2.out 17 _ rfl
  clear hmk2 hbl2 HK1 HL1 k16 M1
  obtain ⟨r2, hr2⟩ : ∃ r, r1 + 1 * (a.dn : Int) = r := ⟨_, rfl⟩
  rw [hr2] at HTB HKZ
  have hr20 : 0 ≤ r2 ∧ r2 ≤ 5000000000000 := by omega
  rw [hr2]
  clear hr2
  go_wp2_with fail
  refine Calls.mono (mkv_chans n2 n3 a.cc a.cn r2 a.ca _ (HCH.out.mk M2.out) h3 hr20.1 (by omega)) ?_
  rintro e w3 ⟨rfl, hmk3, hgs⟩
  have HHP3 : Hid (HP w3 a.pa a.pn a.Y 1) := HHP2.out.mkd HPO.out M2.out.b.size hmk3 (by have := HNN.out; omega)
  have HGD3 : Hid (GSeg 1 w3 a.da a.dn (mk1 r1)) := HGD2.out.mkd HD.out M2.out.b.size hmk3 (.inl (Nat.le_refl _))
  have HGC3 : Hid (GSeg 4 w3 a.ca a.cn (mk4 r2)) := hgs
  replace hmk3 : Mk lo hi w2 w3 := hmk3.wide (by have := HNN.out; omega) (by have := HNN.out; omega)
  clear hgs HHP2 HGD2
  have M3 : Hid (Mk lo hi w w3) := M2.out.trans hmk3
  have hbl3 : w3.heap[w.heap.size]? = w2.heap[w.heap.size]? := hmk3.b.block _ HL2.out (.inr HHI.out)
  have k18 : w3.cell? ⟨w.heap.size, 18, none⟩ = some (.slice a.sa a.sn a.sc) := (World.cell?_of_block (a := ⟨w.heap.size, 18, none⟩) hbl3).trans (HK2.out 18 _ rfl)
  clear hmk3 hbl3 HK2 HL2 k17 M2
  obtain ⟨r3, hr3⟩ : ∃ r, r2 + 4 * (a.cn : Int) = r := ⟨_, rfl⟩
  rw [hr3] at HTB HKZ
  have hr30 : 0 ≤ r3 ∧ r3 ≤ 6000000000000 := by omega
  rw [hr3]
  clear hr3
  go_wp2_with fail
  refine Calls.mono (mkv_slots n3 hi a.sc a.sn r3 a.sa _ (HSL.out.mk M3.out) h4 hr30.1 (by omega)) ?_
  rintro e w4 ⟨rfl, hmk4, hgs⟩
  have HHP4 : Hid (HP w4 a.pa a.pn a.Y 1) := HHP3.out.mkd HPO.out M3.out.b.size hmk4 (by have := HNN.out; omega)
  have HGD4 : Hid (GSeg 1 w4 a.da a.dn (mk1 r1)) := HGD3.out.mkd HD.out M3.out.b.size hmk4 (.inl (by have := HNN.out; omega))
  have HGC4 : Hid (GSeg 4 w4 a.ca a.cn (mk4 r2)) := HGC3.out.mkd HCH.out M3.out.b.size hmk4 (.inl (Nat.le_refl _))
  have HGS4 : Hid (GSeg 3 w4 a.sa a.sn (mk3 r3)) := hgs
  replace hmk4 : Mk lo hi w3 w4 := hmk4.wide (by have := HNN.out; omega) (by have := HNN.out; omega)
  clear hgs HHP3 HGD3 HGC3
  have M4 : Hid (Mk lo hi w w4) := M3.out.trans hmk4
  clear hmk4 M3 k18
  go_wp2
  go_ret
  exact ⟨(by rw [HKZ.out]; rfl), (by rw [HKZ.out]; omega), M4.out, HTB.out _ HHP4.out HGD4.out HGC4.out HGS4.out⟩
set_option maxRecDepth 40000 in
set_option maxHeartbeats 4000000 in
theorem held_tab (t : Tb) (a : Ad) (w : World) (hT : HTb w a) (hs : TS a) :
    Calls Tryz.prog 17 #[tbV t a, .int .i64 1] w fun e w' => e = .returned (.int .i64 (Kz a)) ∧ Below w.heap.size w w' := by
  have HH : Hid (∀ X, Below w.heap.size w X → HTb X a) := fun X hX => hT.below hX
  have h1 := hs.p
  have h2 := hs.d
  have h3 := hs.c
  have h4 := hs.s
  have HWN : Hid (∀ i, i < a.pn → (a.Y i).wn ≤ 1048576) := fun i hi => (hs.w i hi).1
  have hkp : 0 ≤ Kp a.Y 1 a.pn ∧ Kp a.Y 1 a.pn ≤ 1000 + 3145732 * (a.pn : Int) := Kp_le a.Y 1 a.pn (fun i hi => (hs.w i hi).1) (by omega) (by omega) a.pn (Nat.le_refl _)
  have HKZ : Hid (Kz a = Kp a.Y 1 a.pn + 1 * (a.dn : Int) + 4 * (a.cn : Int) + 3 * (a.sn : Int)) := rfl
  obtain ⟨r1, HR1⟩ : ∃ r, Hid (Kp a.Y 1 a.pn = r) := ⟨_, rfl⟩
  rw [HR1.out] at hkp HKZ
  have HD : Hid (∀ X, Below w.heap.size w X → GSeg 1 X a.da a.dn (mk1 r1)) := fun X hX => by rw [← HR1.out]; exact (HH.out X hX).d
  have HC : Hid (∀ X, Below w.heap.size w X → GSeg 4 X a.ca a.cn (mk4 (r1 + 1 * (a.dn : Int)))) := fun X hX => by rw [← HR1.out]; exact (HH.out X hX).c
  have HSS : Hid (∀ X, Below w.heap.size w X → GSeg 3 X a.sa a.sn (mk3 (r1 + 1 * (a.dn : Int) + 4 * (a.cn : Int)))) := fun X hX => by rw [← HR1.out]; exact (HH.out X hX).s
  have HB0 : Hid (Below w.heap.size w (w.alloc (.cells (tbA t a) 39))) := (Below.refl _ _).alloc (Nat.le_refl _) _
  have KB0 : Hid (Bk (w.alloc (.cells (tbA t a) 39)) w.heap.size (tbA t a)) := Bk.new w _ _ _ rfl
  have k15 : (w.alloc (.cells (tbA t a) 39)).cell? ⟨w.heap.size, 15, none⟩ = some (.slice a.pa a.pn a.pc) := KB0.out.cell 15 _ rfl
  clear hs hT
  go_enter Tryz.func17, Tryz.ntmps17
  go_wp2_with fail
  refine Calls.mono (held_parts a.pc a.pn 1 a.pa a.Y _ (HH.out _ HB0.out).p h1 HWN.out (by omega) (by omega)) ?_
  rintro e w1 ⟨rfl, hb1⟩
  rw [HR1.out]
  have HB1 : Hid (Below w.heap.size w w1) := HB0.out.trans (hb1.mono HB0.out.size)
  have KB1 : Hid (Bk w1 w.heap.size (tbA t a)) := KB0.out.below hb1
  have k16 : w1.cell? ⟨w.heap.size, 16, none⟩ = some (.slice a.da a.dn a.dc) := KB1.out.cell 16 _ rfl
  have k17 : w1.cell? ⟨w.heap.size, 17, none⟩ = some (.slice a.ca a.cn a.cc) := KB1.out.cell 17 _ rfl
  have k18 : w1.cell? ⟨w.heap.size, 18, none⟩ = some (.slice a.sa a.sn a.sc) := KB1.out.cell 18 _ rfl
  have hn1 : ¬ (r1 < 0) := by omega
  clear hb1 HB0 KB0 k15 HH
  go_wp2_with fail
  refine Calls.mono (held_ints a.da a.dc a.dn r1 _ (HD.out _ HB1.out) h2 (by omega) (by omega)) ?_
  rintro e w2 ⟨rfl, hw2⟩
  subst hw2
  obtain ⟨r2, hr2⟩ : ∃ r, r1 + 1 * (a.dn : Int) = r := ⟨_, rfl⟩
  rw [hr2] at HC HSS HKZ
  have hr20 : 0 ≤ r2 ∧ r2 ≤ 5000000000000 := by omega
  have hn2 : ¬ (r2 < 0) := by omega
  rw [hr2]
  clear hr2
  go_wp2_with fail
  refine Calls.mono (held_chans a.ca a.cc a.cn r2 _ (HC.out _ HB1.out) h3 (by omega) (by omega)) ?_
  rintro e w2 ⟨rfl, hw2⟩
  subst hw2
  obtain ⟨r3, hr3⟩ : ∃ r, r2 + 4 * (a.cn : Int) = r := ⟨_, rfl⟩
  rw [hr3] at HSS HKZ
  have hr30 : 0 ≤ r3 ∧ r3 ≤ 6000000000000 := by omega
  have hn3 : ¬ (r3 < 0) := by omega
  rw [hr3]
  clear hr3
  go_wp2_with fail
  refine Calls.mono (held_slots a.sa a.sc a.sn r3 _ (HSS.out _ HB1.out) h4 (by omega) (by omega)) ?_
  rintro e w2 ⟨rfl, hw2⟩
  subst hw2
  have hn4 : ¬ (r3 + 3 * (a.sn : Int) < 0) := by omega
  go_wp2
  go_ret
  exact ⟨(by rw [HKZ.out]; rfl), HB1.out⟩
end Go.Proofs.YthieilkabcehgaaGreatDoor
