
/-
  The worst work of a switch: the specification's and the program's own functions answer alike. Conditions: the list is read as rows of channels.
-/
import Derived.Test.YtlomcdgfcocmmaaGreatDoorBas
import Derived.Test.YtlomcdgfcocmmaaGreatDoorCrs
import Derived.Test.YtlomcdgfcocmmaaGreatDoorCost
import Derived.Shelf.Abstract
import Derived.Test.YtlomcdgfcocmmaaGreatDoorShp
namespace Go.Proofs.YtlomcdgfcocmmaaGreatDoor
open Go.ChangeShapes Go.WideShapes Go.ChangeAt Go.RowKit Go.Deep
set_option linter.unusedVariables false

def chOkT (x : chT) : Bool := chOk x.1 x.2.1 x.2.2.1 x.2.2.2
def allCh (xs : List chT) (n : Nat) : Prop := ∀ i, i < n → chOkT (xs.getD i ch0) = true
/-- The words that the first n channels can hold. -/
def mostN (xs : List chT) : Nat → Int
  | 0 => 0
  | n + 1 => mostN xs n + mostF (xs.getD n ch0).1 (xs.getD n ch0).2.2.2
def padOk (b m e s k t l s1 s2 s3 : Int) (xs : List chT) (n : Nat) : Prop := costsOk b m e s k t l = true ∧ shapeOk s1 s2 s3 = true ∧ n ≤ 8 ∧ allCh xs n
theorem most_rng {xs : List chT} {n : Nat} (h : allCh xs n) : ∀ j, j ≤ n → 0 ≤ mostN xs j ∧ mostN xs j ≤ 8 * (j : Int) := by
  intro j
  induction j with
  | zero => intro _; exact ⟨Int.le_refl _, by simp [mostN]⟩
  | succ j ih =>
    intro hj
    have := ih (by omega)
    have hc := h j (by omega)
    unfold chOkT at hc
    have hk := chOk_k hc
    unfold mostN mostF
    generalize (xs.getD j ch0).1 = k at *
    generalize (xs.getD j ch0).2.2.2 = d at *
    split <;> omega
set_option maxRecDepth 20000 in
theorem chk_enters : ∀ args (v : World), (callFunc 158 args).run Tryz.prog v = .ok (.enter 158 args) v := enters_of Tryz.func158 (by kernel_rfl) rfl
theorem mul_rng {a b A B : Int} (h1 : 0 ≤ a) (h2 : a ≤ A) (h3 : 0 ≤ b) (h4 : b ≤ B) : 0 ≤ a * b ∧ a * b ≤ A * B := by
  refine ⟨Int.mul_nonneg h1 h3, ?_⟩
  exact Int.le_trans (Int.mul_le_mul_of_nonneg_right h2 h3) (Int.mul_le_mul_of_nonneg_left h4 (Int.le_trans h1 h2))
set_option maxRecDepth 20000 in
set_option maxHeartbeats 4000000 in
theorem impl_carried (a : Option Addr) (cap n : Nat) (xs : List chT) (w : World) (hs : GSeg 4 w a n (chX xs)) (hn : n ≤ 8) (hall : allCh xs n) :
    Calls Tryz.prog 193 #[.slice a n cap] w fun r w' => r = .returned (.int .i64 (mostN xs n)) ∧ Below w.heap.size w w' := by
  have HS : Hid (GSeg 4 w a n (chX xs)) := hs
  have HOK : Hid (allCh xs n) := hall
  clear hs hall
  go_enter Tryz.func193, Tryz.ntmps193
  go_wp2
  go_loopw [3, 8] (fun v i wr => ∃ (j : Nat) (M : Int), j ≤ n ∧ 0 ≤ M ∧ M ≤ 64 ∧ i = .int .i64 j ∧ v = .int .i64 M ∧ Hid (M = mostN xs j ∧ Below w.heap.size w wr)) (fun _ i _ => n - (intOf i).toNat)
  case atStart => exact ⟨0, 0, by omega, by omega, by omega, rfl, rfl, by simp [mostN], Below.refl _ _⟩
  case round =>
    obtain ⟨j, M, hj, hM0, hM1, rfl, rfl, HR⟩ := hrel
    by_cases hjn : j < n
    · have hjn' : (j : Int) < (n : Int) := by omega
      obtain ⟨b1, o1, rfl, hbl1, p1⟩ := HS.out.at j hjn
      replace p1 := p1.of (w' := wr) (fun i => HR.out.2.cell (p := ⟨b1, i, none⟩) hbl1)
      have HMS : Hid (∀ v, mostF (xs.getD j ch0).1 (xs.getD j ch0).2.2.2 = v → M + v = mostN xs (j + 1)) := fun v hv => by
        have := HR.out.1
        unfold mostN
        omega
      have hr := most_rng HOK.out (j + 1) (by omega)
      have hr0 := most_rng HOK.out j (by omega)
      have hM2 : ∀ v, mostF (xs.getD j ch0).1 (xs.getD j ch0).2.2.2 = v → 0 ≤ v ∧ v ≤ 8 ∧ 0 ≤ M + v ∧ M + v ≤ 64 := fun v hv => by
        have h1 := HMS.out v hv
        have h2 := HR.out.1
        have hk := chOk_k (HOK.out j hjn)
        unfold mostF at hv
        split at hv <;> omega
      simp only [chX] at p1
      generalize xs.getD j ch0 = x at p1 HMS hM2
      obtain ⟨c0, c1, c2, c3⟩ := ch_cells p1
      obtain ⟨x1, x2, x3, x4⟩ := x
      simp only at c0 c1 c2 c3 HMS hM2
      obtain ⟨v, HV⟩ : ∃ v, Hid (mostF x1 x4 = v) := ⟨_, rfl⟩
      have hv2 := hM2 v HV.out
      have HMv : Hid _ := HMS.out v HV.out
      obtain ⟨hv0, hv1, hv3, hv4⟩ := hv2
      have hwr : IntKind.i64.wrap (M + v) = M + v := by rw [IntKind.wrap_i64]; omega
      clear p1 hbl1 hM2 HMS hr hr0
      have hb0 : Hid (Below wr.heap.size wr (wr.alloc (.cells #[.int .i64 x1, .int .i64 x2, .int .i64 x3, .int .i64 x4] 76))) := (Below.refl _ _).alloc (Nat.le_refl _) _
      go_wp2_with fail
      refine (impl_most x1 x2 x3 x4 v _ HV).mono ?_
      rintro u w4 ⟨rfl, hb4⟩
      have HB4 : Hid (Below wr.heap.size wr w4) := hb0.out.trans (hb4.mono hb0.out.size)
      have HR4 : Hid (M + v = mostN xs (j + 1) ∧ Below w.heap.size w w4) := ⟨HMv.out, HR.out.2.trans (HB4.out.mono HR.out.2.size)⟩
      clear hb4 hb0 HB4 c0 c1 c2 c3 HR HMv
      go_wp2
      go_roundw
      case rel => exact ⟨j + 1, M + v, by omega, hv3, hv4, by go_num, by go_num, HR4⟩
      case measure => simp [intOf]; omega
    · obtain rfl : j = n := by omega
      go_wp2
      go_ret
      exact ⟨by rw [HR.out.1]; rfl, HR.out.2⟩
set_option maxRecDepth 20000 in
set_option maxHeartbeats 4000000 in
theorem impl_pad (b m e s k t l s1 s2 s3 : Int) (a : Option Addr) (cap n : Nat) (xs : List chT) (w : World) (hs : GSeg 4 w a n (chX xs)) (hn : n ≤ 9223372036854775807) :
    Calls Tryz.prog 186 #[cst b m e s k t l, shp s1 s2 s3, .slice a n cap] w fun r w' => (∃ v, r = .returned (.int .i64 v) ∧ (padOk b m e s k t l s1 s2 s3 xs n → v = b * (16 + mostN xs n) + l * (s1 * s2)) ∧ (¬ padOk b m e s k t l s1 s2 s3 xs n → v = -1)) ∧ Below w.heap.size w w' := by
  obtain ⟨q1, HQ1⟩ : ∃ q, Hid (costsOk b m e s k t l = q) := ⟨_, rfl⟩
  obtain ⟨q2, HQ2⟩ : ∃ q, Hid (shapeOk s1 s2 s3 = q) := ⟨_, rfl⟩
  obtain ⟨q3, hq3⟩ := told (allCh xs n)
  have HQ3 : Hid (q3 = true ↔ allCh xs n) := hq3
  clear hq3
  have HS : Hid (GSeg 4 w a n (chX xs)) := hs
  clear hs
  have HC1 : Hid (∀ X, Calls Tryz.prog 120 #[cst b m e s k t l] X fun x w' => x = .returned (.bool q1) ∧ Below X.heap.size X w') := fun X => (impl_cok b m e s k t l X).mono fun e w' ⟨h1, h2⟩ => ⟨by rw [h1, HQ1.out], by rw [h2]; exact (Below.refl _ _).alloc (Nat.le_refl _) _⟩
  have HC2 : Hid (∀ X, Calls Tryz.prog 116 #[shp s1 s2 s3] X fun x w' => x = .returned (.bool q2) ∧ Below X.heap.size X w') := fun X => by
    rw [← HQ2.out]; exact impl_shok s1 s2 s3 X
  have HC3 : Hid (∀ X, GSeg 4 X a n (chX xs) → Calls Tryz.prog 156 #[.slice a n cap, .func (.func 158) #[] #[]] X fun e w' => e = .returned (.bool q3) ∧ Below X.heap.size X w') := fun X hX =>
    ch_every a cap n xs (fun i => chOkT (xs.getD i ch0)) q3 158 #[] X hX hn chk_enters (fun i _ Y _ => impl_chok _ _ _ _ _ Y rfl) HQ3.out
  have HCD : Hid (q2 = true → ∀ X, Calls Tryz.prog 194 #[shp s1 s2 s3] X fun x w' => x = .returned (.int .i64 (s1 * s2)) ∧ Below X.heap.size X w') := fun h X => (impl_wod s1 s2 s3 X).mono fun e w' ⟨h1, h2⟩ => ⟨by rw [h1]; unfold worstD; rw [if_pos (HQ2.out.trans h)], h2⟩
  have HNO : Hid (q1 = false ∨ q2 = false ∨ ¬ n ≤ 8 ∨ q3 = false → ¬ padOk b m e s k t l s1 s2 s3 xs n) := fun h g => by
    obtain ⟨g1, g2, g3, g4⟩ := g
    rcases h with h | h | h | h
    · rw [HQ1.out, h] at g1; cases g1
    · rw [HQ2.out, h] at g2; cases g2
    · exact h g3
    · rw [HQ3.out.2 g4] at h; cases h
  have hbA : Below w.heap.size w ((w.alloc (crow 27 b m e s k t l)).alloc (shrow 25 s1 s2 s3)) := ((Below.refl _ _).alloc (Nat.le_refl _) _).alloc (by simp) _
  have KA : CellsAt ((w.alloc (crow 27 b m e s k t l)).alloc (shrow 25 s1 s2 s3)) w.heap.size 0 [.int .i64 b, .int .i64 m, .int .i64 e, .int .i64 s, .int .i64 k, .int .i64 t, .int .i64 l] := (CellsAt.new w [.int .i64 b, .int .i64 m, .int .i64 e, .int .i64 s, .int .i64 k, .int .i64 t, .int .i64 l] 27 _ rfl).alloc _
  have KB : CellsAt ((w.alloc (crow 27 b m e s k t l)).alloc (shrow 25 s1 s2 s3)) (w.heap.size + 1) 0 [.int .i64 s1, .int .i64 s2, .int .i64 s3] := CellsAt.new _ [.int .i64 s1, .int .i64 s2, .int .i64 s3] 25 _ (by simp)
  have HK : Hid (Below w.heap.size w ((w.alloc (crow 27 b m e s k t l)).alloc (shrow 25 s1 s2 s3)) ∧ CellsAt ((w.alloc (crow 27 b m e s k t l)).alloc (shrow 25 s1 s2 s3)) w.heap.size 0 [.int .i64 b, .int .i64 m, .int .i64 e, .int .i64 s, .int .i64 k, .int .i64 t, .int .i64 l] ∧ CellsAt ((w.alloc (crow 27 b m e s k t l)).alloc (shrow 25 s1 s2 s3)) (w.heap.size + 1) 0 [.int .i64 s1, .int .i64 s2, .int .i64 s3]) := ⟨hbA, KA, KB⟩
  clear hbA KA KB
  go_enter Tryz.func186, Tryz.ntmps186
  go_wp2_with fail
  refine (HC1.out _).mono ?_
  rintro x w1 ⟨rfl, hb1⟩
  have HB1 : Hid (Below w.heap.size w w1 ∧ CellsAt w1 w.heap.size 0 [.int .i64 b, .int .i64 m, .int .i64 e, .int .i64 s, .int .i64 k, .int .i64 t, .int .i64 l] ∧ CellsAt w1 (w.heap.size + 1) 0 [.int .i64 s1, .int .i64 s2, .int .i64 s3]) := ⟨HK.out.1.trans (hb1.mono HK.out.1.size), HK.out.2.1.below hb1, HK.out.2.2.below hb1⟩
  clear hb1 HK
  cases q1
  · have HN : Hid _ := HNO.out (.inl (by trivial))
    go_wp2
    go_ret
    exact ⟨⟨_, rfl, fun h => absurd h HN.out, fun _ => rfl⟩, HB1.out.1⟩
  have d0 : w1.cell? ⟨w.heap.size + 1, 0, none⟩ = some (.int .i64 s1) := HB1.out.2.2 0 _ rfl
  have d1 : w1.cell? ⟨w.heap.size + 1, 1, none⟩ = some (.int .i64 s2) := HB1.out.2.2 1 _ rfl
  have d2 : w1.cell? ⟨w.heap.size + 1, 2, none⟩ = some (.int .i64 s3) := HB1.out.2.2 2 _ rfl
  go_wp2_with fail
  refine (HC2.out _).mono ?_
  rintro x w2 ⟨rfl, hb2⟩
  have HB2 : Hid (Below w.heap.size w w2 ∧ CellsAt w2 w.heap.size 0 [.int .i64 b, .int .i64 m, .int .i64 e, .int .i64 s, .int .i64 k, .int .i64 t, .int .i64 l] ∧ CellsAt w2 (w.heap.size + 1) 0 [.int .i64 s1, .int .i64 s2, .int .i64 s3]) := ⟨HB1.out.1.trans (hb2.mono HB1.out.1.size), HB1.out.2.1.below hb2, HB1.out.2.2.below hb2⟩
  clear hb2 HB1 d0 d1 d2
  cases q2
  · have HN : Hid _ := HNO.out (.inr (.inl (by trivial)))
    go_wp2
    go_ret
    exact ⟨⟨_, rfl, fun h => absurd h HN.out, fun _ => rfl⟩, HB2.out.1⟩
  by_cases h8 : n ≤ 8
  rotate_left
  · have HN : Hid _ := HNO.out (.inr (.inr (.inl h8)))
    have h8' : (8 : Int) < (n : Int) := by omega
    go_wp2
    go_ret
    exact ⟨⟨_, rfl, fun h => absurd h HN.out, fun _ => rfl⟩, HB2.out.1⟩
  have h8' : ¬ (8 : Int) < (n : Int) := by omega
  go_wp2_with fail
  refine (HC3.out _ (HS.out.below HB2.out.1)).mono ?_
  rintro x w3 ⟨rfl, hb3⟩
  have HB3 : Hid (Below w.heap.size w w3 ∧ CellsAt w3 w.heap.size 0 [.int .i64 b, .int .i64 m, .int .i64 e, .int .i64 s, .int .i64 k, .int .i64 t, .int .i64 l] ∧ CellsAt w3 (w.heap.size + 1) 0 [.int .i64 s1, .int .i64 s2, .int .i64 s3]) := ⟨HB2.out.1.trans (hb3.mono HB2.out.1.size), HB2.out.2.1.below hb3, HB2.out.2.2.below hb3⟩
  clear hb3 HB2
  cases q3
  · have HN : Hid _ := HNO.out (.inr (.inr (.inr (by trivial))))
    go_wp2
    go_ret
    exact ⟨⟨_, rfl, fun h => absurd h HN.out, fun _ => rfl⟩, HB3.out.1⟩
  have HOK : Hid (padOk b m e s k t l s1 s2 s3 xs n) := ⟨HQ1.out, HQ2.out, h8, HQ3.out.1 (by trivial)⟩
  have HCD' : Hid _ := HCD.out (by trivial)
  clear HNO HC1 HC2 HC3 HQ1 HQ2 HQ3 HCD
  have hmr := most_rng HOK.out.2.2.2 n (Nat.le_refl _)
  obtain ⟨v, HV⟩ : ∃ v, Hid (mostN xs n = v) := ⟨_, rfl⟩
  rw [HV.out] at hmr
  obtain ⟨hmr0, hmr1⟩ := hmr
  have HCC : Hid (∀ X, GSeg 4 X a n (chX xs) → Calls Tryz.prog 193 #[.slice a n cap] X fun x w' => x = .returned (.int .i64 v) ∧ Below X.heap.size X w') := fun X hX => by
    rw [← HV.out]; exact impl_carried a cap n xs X hX h8 HOK.out.2.2.2
  obtain ⟨M, HM⟩ : ∃ M, Hid (16 + v = M) := ⟨_, rfl⟩
  have hM0 : 0 ≤ M := by rw [← HM.out]; omega
  have hM1 : M ≤ 80 := by rw [← HM.out]; omega
  have hwM : IntKind.i64.wrap (16 + v) = M := by rw [IntKind.wrap_i64, ← HM.out]; omega
  go_wp2_with fail
  refine (HCC.out _ (HS.out.below HB3.out.1)).mono ?_
  rintro x wr ⟨rfl, hb4⟩
  have HR : Hid (M = 16 + mostN xs n ∧ Below w.heap.size w wr ∧ CellsAt wr w.heap.size 0 [.int .i64 b, .int .i64 m, .int .i64 e, .int .i64 s, .int .i64 k, .int .i64 t, .int .i64 l] ∧ CellsAt wr (w.heap.size + 1) 0 [.int .i64 s1, .int .i64 s2, .int .i64 s3]) := ⟨by rw [← HM.out, HV.out], HB3.out.1.trans (hb4.mono HB3.out.1.size), HB3.out.2.1.below hb4, HB3.out.2.2.below hb4⟩
  clear hb4 HB3 HCC
  obtain ⟨hc1, hc2, hc3, hc4, hc5, hc6, hc7⟩ := costsOk_parts HOK.out.1
  have hsm := sets_mul HOK.out.2.1
  have hm1 := mul_rng (A := 20) (B := 80) (by omega) hc1.2 hM0 hM1
  have hm2 := mul_rng (A := 50) (B := 64) hc7.1 hc7.2 hsm.1 hsm.2
  obtain ⟨S, HSS⟩ : ∃ S, Hid (s1 * s2 = S) := ⟨_, rfl⟩
  have HE : Hid (b * M + l * S = b * (16 + mostN xs n) + l * (s1 * s2)) := by
    show _ = _
    rw [HR.out.1, HSS.out]
  rw [HSS.out] at HCD' hm2
  obtain ⟨g1, g2⟩ := hm1
  obtain ⟨g3, g4⟩ := hm2
  have hw1 : IntKind.i64.wrap (b * M) = b * M := by rw [IntKind.wrap_i64]; omega
  have c0 : wr.cell? ⟨w.heap.size, 0, none⟩ = some (.int .i64 b) := HR.out.2.2.1 0 _ rfl
  have c6 : wr.cell? ⟨w.heap.size, 6, none⟩ = some (.int .i64 l) := HR.out.2.2.1 6 _ rfl
  have d0 : wr.cell? ⟨w.heap.size + 1, 0, none⟩ = some (.int .i64 s1) := HR.out.2.2.2 0 _ rfl
  have d1 : wr.cell? ⟨w.heap.size + 1, 1, none⟩ = some (.int .i64 s2) := HR.out.2.2.2 1 _ rfl
  have d2 : wr.cell? ⟨w.heap.size + 1, 2, none⟩ = some (.int .i64 s3) := HR.out.2.2.2 2 _ rfl
  have hw2 : IntKind.i64.wrap (l * S) = l * S := by rw [IntKind.wrap_i64]; omega
  have hw3 : IntKind.i64.wrap (b * M + l * S) = b * M + l * S := by rw [IntKind.wrap_i64]; omega
  have HB : Hid (Below w.heap.size w wr) := HR.out.2.1
  clear HR hsm hc1 hc2 hc3 hc4 hc5 hc6 hc7
  replace c0 := fun X => gr_cell c0 X
  replace c6 := fun X => gr_cell c6 X
  replace d0 := fun X => gr_cell d0 X
  replace d1 := fun X => gr_cell d1 X
  replace d2 := fun X => gr_cell d2 X
  go_wp2
  have hgr := gr_some wr
  refine region_alike (by kernel_rfl) (by kernel_rfl) ?_
  repeat (go_big_quiet_step (first | (go_at_call 194; exact gr_call (HCD'.out _))))
  refine wpQuiet_nil ?_
  intro _ hw'
  obtain ⟨X1, rfl⟩ := hw'
  have hb2 := X1.h
  generalize X1.w = W1 at hb2 ⊢
  have HB2 : Hid (Below w.heap.size w W1) := HB.out.trans (hb2.mono HB.out.size)
  clear hb2 c0 c6 d0 d1 d2
  go_wp2
  go_ret
  exact ⟨⟨_, rfl, fun _ => HE.out, fun h => absurd HOK.out h⟩, HB2.out⟩
set_option maxRecDepth 20000 in
set_option maxHeartbeats 4000000 in
theorem spec_pad (b m e s k t l s1 s2 s3 : Int) (a : Option Addr) (cap n : Nat) (xs : List chT) (w : World) (hs : GSeg 4 w a n (chX xs)) (hn : n ≤ 9223372036854775807) :
    Calls Tryz.prog 75 #[cst b m e s k t l, shp s1 s2 s3, .slice a n cap] w fun r w' => (∃ v, r = .returned (.int .i64 v) ∧ (padOk b m e s k t l s1 s2 s3 xs n → v = b * (16 + mostN xs n) + l * (s1 * s2)) ∧ (¬ padOk b m e s k t l s1 s2 s3 xs n → v = -1)) ∧ Below w.heap.size w w' := by
  obtain ⟨q1, HQ1⟩ : ∃ q, Hid (costsOk b m e s k t l = q) := ⟨_, rfl⟩
  obtain ⟨q2, HQ2⟩ : ∃ q, Hid (shapeOk s1 s2 s3 = q) := ⟨_, rfl⟩
  have HS : Hid (GSeg 4 w a n (chX xs)) := hs
  clear hs
  have HC1 : Hid (∀ X, Calls Tryz.prog 89 #[cst b m e s k t l] X fun x w' => x = .returned (.bool q1) ∧ Below X.heap.size X w') := fun X => (spec_cok b m e s k t l X).mono fun e w' ⟨h1, h2⟩ => ⟨by rw [h1, HQ1.out], by rw [h2]; exact (Below.refl _ _).alloc (Nat.le_refl _) _⟩
  have HC2 : Hid (∀ X, Calls Tryz.prog 88 #[shp s1 s2 s3] X fun x w' => x = .returned (.bool q2) ∧ Below X.heap.size X w') := fun X => by
    rw [← HQ2.out]; exact spec_shok s1 s2 s3 X
  have HNO : Hid (q1 = false ∨ q2 = false ∨ ¬ n ≤ 8 → ¬ padOk b m e s k t l s1 s2 s3 xs n) := fun h g => by
    obtain ⟨g1, g2, g3, g4⟩ := g
    rcases h with h | h | h
    · rw [HQ1.out, h] at g1; cases g1
    · rw [HQ2.out, h] at g2; cases g2
    · exact h g3
  have HK : Hid (Below w.heap.size w ((w.alloc (crow 27 b m e s k t l)).alloc (shrow 25 s1 s2 s3)) ∧ CellsAt ((w.alloc (crow 27 b m e s k t l)).alloc (shrow 25 s1 s2 s3)) w.heap.size 0 [.int .i64 b, .int .i64 m, .int .i64 e, .int .i64 s, .int .i64 k, .int .i64 t, .int .i64 l] ∧ CellsAt ((w.alloc (crow 27 b m e s k t l)).alloc (shrow 25 s1 s2 s3)) (w.heap.size + 1) 0 [.int .i64 s1, .int .i64 s2, .int .i64 s3]) :=
    ⟨((Below.refl _ _).alloc (Nat.le_refl _) _).alloc (by simp) _, (CellsAt.new w [.int .i64 b, .int .i64 m, .int .i64 e, .int .i64 s, .int .i64 k, .int .i64 t, .int .i64 l] 27 _ rfl).alloc _, CellsAt.new _ [.int .i64 s1, .int .i64 s2, .int .i64 s3] 25 _ (by simp)⟩
  go_enter Tryz.func75, Tryz.ntmps75
  go_wp2_with fail
  refine (HC1.out _).mono ?_
  rintro x w1 ⟨rfl, hb1⟩
  have HB1 : Hid (Below w.heap.size w w1 ∧ CellsAt w1 w.heap.size 0 [.int .i64 b, .int .i64 m, .int .i64 e, .int .i64 s, .int .i64 k, .int .i64 t, .int .i64 l] ∧ CellsAt w1 (w.heap.size + 1) 0 [.int .i64 s1, .int .i64 s2, .int .i64 s3]) := ⟨HK.out.1.trans (hb1.mono HK.out.1.size), HK.out.2.1.below hb1, HK.out.2.2.below hb1⟩
  clear hb1 HK
  cases q1
  · have HN : Hid _ := HNO.out (.inl (by trivial))
    go_wp2
    go_ret
    exact ⟨⟨_, rfl, fun h => absurd h HN.out, fun _ => rfl⟩, HB1.out.1⟩
  have d0 : w1.cell? ⟨w.heap.size + 1, 0, none⟩ = some (.int .i64 s1) := HB1.out.2.2 0 _ rfl
  have d1 : w1.cell? ⟨w.heap.size + 1, 1, none⟩ = some (.int .i64 s2) := HB1.out.2.2 1 _ rfl
  have d2 : w1.cell? ⟨w.heap.size + 1, 2, none⟩ = some (.int .i64 s3) := HB1.out.2.2 2 _ rfl
  go_wp2_with fail
  refine (HC2.out _).mono ?_
  rintro x w2 ⟨rfl, hb2⟩
  have HB2 : Hid (Below w.heap.size w w2 ∧ CellsAt w2 w.heap.size 0 [.int .i64 b, .int .i64 m, .int .i64 e, .int .i64 s, .int .i64 k, .int .i64 t, .int .i64 l] ∧ CellsAt w2 (w.heap.size + 1) 0 [.int .i64 s1, .int .i64 s2, .int .i64 s3]) := ⟨HB1.out.1.trans (hb2.mono HB1.out.1.size), HB1.out.2.1.below hb2, HB1.out.2.2.below hb2⟩
  clear hb2 HB1 d0 d1 d2
  cases q2
  · have HN : Hid _ := HNO.out (.inr (.inl (by trivial)))
    go_wp2
    go_ret
    exact ⟨⟨_, rfl, fun h => absurd h HN.out, fun _ => rfl⟩, HB2.out.1⟩
  by_cases h8 : n ≤ 8
  rotate_left
  · have HN : Hid _ := HNO.out (.inr (.inr h8))
    have h8' : (8 : Int) < (n : Int) := by omega
    go_wp2
    go_ret
    exact ⟨⟨_, rfl, fun h => absurd h HN.out, fun _ => rfl⟩, HB2.out.1⟩
  have h8' : ¬ (8 : Int) < (n : Int) := by omega
  obtain ⟨hc1, hc2, hc3, hc4, hc5, hc6, hc7⟩ := costsOk_parts HQ1.out
  have hsm := sets_mul HQ2.out
  obtain ⟨S, HSS⟩ : ∃ S, Hid (s1 * s2 = S) := ⟨_, rfl⟩
  rw [HSS.out] at hsm
  have hm2 := mul_rng (A := 64) (B := 50) hsm.1 hsm.2 hc7.1 hc7.2
  obtain ⟨g3, g4⟩ := hm2
  obtain ⟨hb1, hb2⟩ := hc1
  have hw1 : IntKind.i64.wrap (16 * b) = 16 * b := by rw [IntKind.wrap_i64]; omega
  have hw0 : IntKind.i64.wrap (s1 * s2) = S := by rw [HSS.out, IntKind.wrap_i64]; omega
  have hw2 : IntKind.i64.wrap (S * l) = S * l := by rw [IntKind.wrap_i64]; omega
  have hw3 : IntKind.i64.wrap (16 * b + S * l) = 16 * b + S * l := by rw [IntKind.wrap_i64]; omega
  have c0 : w2.cell? ⟨w.heap.size, 0, none⟩ = some (.int .i64 b) := HB2.out.2.1 0 _ rfl
  have c6 : w2.cell? ⟨w.heap.size, 6, none⟩ = some (.int .i64 l) := HB2.out.2.1 6 _ rfl
  have d0 : w2.cell? ⟨w.heap.size + 1, 0, none⟩ = some (.int .i64 s1) := HB2.out.2.2 0 _ rfl
  have d1 : w2.cell? ⟨w.heap.size + 1, 1, none⟩ = some (.int .i64 s2) := HB2.out.2.2 1 _ rfl
  have HV0 : Hid (16 * b + S * l = b * (16 + mostN xs 0) + l * (s1 * s2)) := by
    show _ = _
    rw [HSS.out, Int.mul_comm l S]
    simp [mostN, Int.mul_comm]
  have HPD : Hid (padOk b m e s k t l s1 s2 s3 xs n ↔ allCh xs n) := ⟨fun h => h.2.2.2, fun h => ⟨HQ1.out, HQ2.out, h8, h⟩⟩
  have hX0 : 0 ≤ 16 * b + S * l := by omega
  have hX1 : 16 * b + S * l ≤ 320 + 3200 := by omega
  clear HNO HC1 HC2 HQ1 HQ2 hsm hc2 hc3 hc4 hc5 hc6 hc7 g3 g4
  go_wp2
  clear hw1 hw0 hw2 hw3 c0 c6 d0 d1
  generalize 16 * b + S * l = X0 at HV0 hX0 hX1 ⊢
  clear HSS
  go_loopw [7, 8] (fun v i wr => ∃ (j : Nat) (M : Int), j ≤ n ∧ 0 ≤ M ∧ M ≤ 3520 + 160 * (j : Int) ∧ i = .int .i64 j ∧ v = .int .i64 M ∧ Hid (M = b * (16 + mostN xs j) + l * (s1 * s2) ∧ allCh xs j ∧ Below w.heap.size w wr ∧ CellsAt wr w.heap.size 0 [.int .i64 b, .int .i64 m, .int .i64 e, .int .i64 s, .int .i64 k, .int .i64 t, .int .i64 l])) (fun _ i _ => n - (intOf i).toNat)
  case atStart => exact ⟨0, X0, by omega, by omega, by omega, rfl, rfl, HV0.out, fun i hi => absurd hi (by omega), HB2.out.1, HB2.out.2.1⟩
  case round =>
    obtain ⟨j, M, hj, hM0, hM1, rfl, rfl, HR⟩ := hrel
    by_cases hjn : j < n
    · have hjn' : (j : Int) < (n : Int) := by omega
      obtain ⟨b1, o1, rfl, hbl1, p1⟩ := HS.out.at j hjn
      have hbw : b1 < wr.heap.size := Nat.lt_of_lt_of_le hbl1 HR.out.2.2.1.size
      replace p1 := p1.of (w' := wr) (fun i => HR.out.2.2.1.cell (p := ⟨b1, i, none⟩) hbl1)
      have HMS : Hid (∀ v, mostF (xs.getD j ch0).1 (xs.getD j ch0).2.2.2 = v → M + b * v = b * (16 + mostN xs (j + 1)) + l * (s1 * s2)) := fun v hv => by
        have h1 := HR.out.1
        have h2 : mostN xs (j + 1) = mostN xs j + v := by rw [← hv]; rfl
        rw [h2, h1, Int.mul_add, Int.mul_add, Int.mul_add]
        omega
      obtain ⟨qc, HQC⟩ : ∃ q, Hid (chOkT (xs.getD j ch0) = q) := ⟨_, rfl⟩
      have HA1 : Hid (qc = false → ¬ padOk b m e s k t l s1 s2 s3 xs n) := fun h g => by
        have := g.2.2.2 j hjn
        rw [HQC.out, h] at this
        cases this
      have HA2 : Hid (qc = true → allCh xs (j + 1)) := fun h i hi => by
        by_cases e : i = j
        · subst e; exact HQC.out.trans h
        · exact HR.out.2.1 i (by omega)
      have HK2 : Hid (qc = true → ((xs.getD j ch0).1 = 0 ∧ (xs.getD j ch0).2.2.2 = 0) ∨ ((xs.getD j ch0).1 = 1 ∧ 1 ≤ (xs.getD j ch0).2.2.2 ∧ (xs.getD j ch0).2.2.2 ≤ 8)) := fun h => chOk_k (HQC.out.trans h)
      have HQX : Hid (chOk (xs.getD j ch0).1 (xs.getD j ch0).2.1 (xs.getD j ch0).2.2.1 (xs.getD j ch0).2.2.2 = qc) := HQC.out
      clear HQC
      simp only [chX] at p1
      generalize xs.getD j ch0 = x at p1 HMS HK2 HQX
      have hal : Hid (CellsAt wr b1 (o1 + j * 4) (chL x)) := p1
      obtain ⟨c0, c1, c2, c3⟩ := ch_cells p1
      obtain ⟨x1, x2, x3, x4⟩ := x
      simp only at c0 c1 c2 c3 HMS HK2 HQX
      clear p1
      go_wp2_with fail
      refine (spec_chok x1 x2 x3 x4 qc _ HQX).mono ?_
      rintro u w4 ⟨rfl, hb4⟩
      have hal4 := ch_cells (hal.out.below hb4)
      obtain ⟨c0, c1, c2, c3⟩ := hal4
      simp only at c0 c1 c2 c3
      have HR4 : Hid (Below w.heap.size w w4 ∧ CellsAt w4 w.heap.size 0 [.int .i64 b, .int .i64 m, .int .i64 e, .int .i64 s, .int .i64 k, .int .i64 t, .int .i64 l]) := ⟨HR.out.2.2.1.trans (hb4.mono HR.out.2.2.1.size), HR.out.2.2.2.below hb4⟩
      have e0 : w4.cell? ⟨w.heap.size, 0, none⟩ = some (.int .i64 b) := HR4.out.2 0 _ rfl
      clear hb4 HR hal hbl1 hbw
      cases qc
      · have HN : Hid _ := HA1.out (by trivial)
        go_wp2
        go_ret
        exact ⟨⟨_, rfl, fun h => absurd h HN.out, fun _ => rfl⟩, HR4.out.1⟩
      have HA3 : Hid _ := HA2.out (by trivial)
      rcases HK2.out (by trivial) with ⟨hk, hd⟩ | ⟨hk, hd1, hd2⟩
      · subst hk hd
        have HMv : Hid (M + b = b * (16 + mostN xs (j + 1)) + l * (s1 * s2)) := by
          have := HMS.out 1 (by unfold mostF; simp)
          rw [Int.mul_one] at this
          exact this
        have hwb : IntKind.i64.wrap (M + b) = M + b := by rw [IntKind.wrap_i64]; omega
        clear HMS HK2 HQX HA1 HA2
        go_wp2
        go_roundw
        case rel => exact ⟨j + 1, M + b, by omega, by omega, by omega, by go_num, by go_num, HMv.out, HA3.out, HR4.out⟩
        case measure => simp [intOf]; omega
      · subst hk
        have hbx := mul_rng (A := 20) (B := 8) (by omega) hb2 (show 0 ≤ x4 by omega) hd2
        obtain ⟨g1, g2⟩ := hbx
        have HMv : Hid (M + b * x4 = b * (16 + mostN xs (j + 1)) + l * (s1 * s2)) := HMS.out x4 (by unfold mostF; simp)
        have hwa : IntKind.i64.wrap (b * x4) = b * x4 := by rw [IntKind.wrap_i64]; omega
        have hwb : IntKind.i64.wrap (M + b * x4) = M + b * x4 := by rw [IntKind.wrap_i64]; omega
        clear HMS HK2 HQX HA1 HA2
        replace c0 := fun X => gr_cell c0 X
        replace c3 := fun X => gr_cell c3 X
        replace e0 := fun X => gr_cell e0 X
        have c0' := c0 ⟨w4, Below.refl _ _⟩
        simp only at c0'
        go_wp2
        have hgr := gr_some w4
        refine region_alike (by kernel_rfl) (by kernel_rfl) ?_
        repeat (go_big_quiet_step (fail))
        refine wpQuiet_nil ?_
        intro _ hw'
        obtain ⟨X1, rfl⟩ := hw'
        have hb2 := X1.h
        generalize X1.w = W1 at hb2 ⊢
        have HB2 : Hid (Below w.heap.size w W1 ∧ CellsAt W1 w.heap.size 0 [.int .i64 b, .int .i64 m, .int .i64 e, .int .i64 s, .int .i64 k, .int .i64 t, .int .i64 l]) := ⟨HR4.out.1.trans (hb2.mono HR4.out.1.size), HR4.out.2.below hb2⟩
        clear hb2 c0 c1 c2 c3 e0 c0'
        go_wp2
        go_roundw
        case rel => exact ⟨j + 1, M + b * x4, by omega, by omega, by omega, by go_num, by go_num, HMv.out, HA3.out, HB2.out⟩
        case measure => simp [intOf]; omega
    · obtain rfl : j = n := by omega
      have HOK : Hid _ := HPD.out.2 HR.out.2.1
      go_wp2
      go_ret
      exact ⟨⟨_, rfl, fun _ => HR.out.1, fun h => absurd HOK.out h⟩, HR.out.2.2.1⟩
end Go.Proofs.YtlomcdgfcocmmaaGreatDoor
