
/-
  Rows of channels as they are drawn for two, three or four partitions: whatever the bytes, they are right. Conditions: the cursor stands over bytes.
-/
import Derived.Test.YtlomcdgfcocmmaaGreatDoorBas
import Derived.Test.YtlomcdgfcocmmaaGreatDoorDra
import Derived.Test.YtlomcdgfcocmmaaGreatDoorCrs
namespace Go.Proofs.YtlomcdgfcocmmaaGreatDoor
open Go.ChangeShapes Go.WideShapes Go.ChangeAt Go.RowKit Go.Deep
set_option linter.unusedVariables false

theorem sto {w : World} {b i j : Nat} {v u : Value} (hne : i ≠ j) (h : w.cell? ⟨b, i, none⟩ = some v) : (w.setCell ⟨b, j, none⟩ u).cell? ⟨b, i, none⟩ = some v := by
  rw [World.cell?_setCell_other _ _ _ _ (by intro c'; injection c' with c1 c2 c3; exact hne c2.symm)]; exact h
theorem turn_c {B : Nat} {w w' : World} (h : Turn B w w') {b i : Nat} {v : Value} (hn : b ≠ B) (hc : w.cell? ⟨b, i, none⟩ = some v) : w'.cell? ⟨b, i, none⟩ = some v :=
  (h.cell (World.block_lt_of_cell? w _ hc) hn).trans hc
set_option maxRecDepth 20000 in
set_option maxHeartbeats 2000000 in
theorem draw_row2 (w : World) (B : Nat) (a : Option Addr) (zs : List Int) (cap : Nat) (hc : Cur w B a zs cap) :
    Calls Tryz.prog 101 #[.pointer (some ⟨B, 0, none⟩), .int .i64 2] w fun e w' => ∃ k f t d : Int, e = .returned (crw k f t d) ∧ (chOk k f t d = true ∧ (0 ≤ f ∧ f < 2) ∧ (0 ≤ t ∧ t < 2)) ∧ Cur w' B a zs cap ∧ Turn B w w' := by
  have H0 : Hid (CT w (w.alloc (.cells (chrow 0 0 0 0) 76)) B a zs cap) := (CT.start hc).alloc _
  have K0 : Hid (Bk (w.alloc (.cells (chrow 0 0 0 0) 76)) w.heap.size (chrow 0 0 0 0)) := Bk.new _ _ _ _ rfl
  have hlo := hc.lt
  clear hc
  go_enter Tryz.func101, Tryz.ntmps101
  go_wp2_with fail
  refine (draw_below _ _ _ _ _ _ H0.out.cur (by omega) (by omega)).mono ?_
  rintro e w1 ⟨x, rfl, hx0, hx1, hc1, ht1⟩
  have H1 : Hid (CT w w1 B a zs cap) := H0.out.step hc1 ht1
  have K1 : Hid (Bk w1 w.heap.size (chrow 0 0 0 0)) := K0.out.turn ht1 (by omega)
  clear H0 K0 hc1 ht1
  go_wp2_with fail
  refine (draw_below _ _ _ _ _ _ H1.out.cur (by omega) (by omega)).mono ?_
  rintro e w2 ⟨y, rfl, hy0, hy1, hc2, ht2⟩
  have hzw : w.heap.size < w2.heap.size := Nat.lt_of_lt_of_le K1.out.lt ht2.size
  have H2 : Hid (CT w (w2.alloc (.cells (chrow x y 0 0) 76)) B a zs cap) := (H1.out.step hc2 ht2).alloc _
  have K2 : Hid (Bk (w2.alloc (.cells (chrow x y 0 0) 76)) w.heap.size (chrow 0 0 0 0)) := (K1.out.turn ht2 (by omega)).alloc _
  have P2 : Hid (Bk (w2.alloc (.cells (chrow x y 0 0) 76)) w2.heap.size (chrow x y 0 0)) := Bk.new _ _ _ _ rfl
  clear H1 K1 hc2 ht2
  go_wp2
  revert H2 K2 P2
  generalize (w2.alloc (.cells (chrow x y 0 0) 76)) = V
  generalize w2.heap.size = P at hzw ⊢
  intro H2 K2 P2
  have c1 : V.cell? ⟨P, 1, none⟩ = some (.int .i64 y) := P2.out.cell 1 _ rfl
  have C1 : Hid (V.cell? ⟨P, 1, none⟩ = some (.int .i64 y)) := c1
  have hPB : P ≠ B := by omega
  have hw5 : IntKind.i64.wrap 1 = 1 := by rw [IntKind.wrap_i64]; omega
  have hw1 : IntKind.i64.wrap (y + 1) = y + 1 := by rw [IntKind.wrap_i64]; omega
  go_region_held_law (fun w' => w'.cell? ⟨P, 1, none⟩ = some (.int .i64 y)) (first | with_reducible exact c1 | with_reducible exact dr_c c1 | with_reducible exact sto (by omega) c1)
    (first | (go_at_call 30; refine Calls.mono (draw_below _ _ _ _ _ _ (by first | exact H2.out.cur | exact H2.out.cur.drewN 1) (by omega) (by omega)) ?_; rintro u w3 ⟨z, rfl, hz0, hz1, hc3, ht3⟩; have HT3 : Hid (Turn B V w3) := (by first | exact ht3 | exact (((Turn.refl B V).drewN 1)).trans ht3); have H3 : Hid (CT w w3 B a zs cap) := H2.out.step hc3 HT3.out; have K3 : Hid (Bk w3 w.heap.size (chrow 0 0 0 0)) := K2.out.turn HT3.out (by omega); have P3 : Hid (Bk w3 P (chrow x y 0 0)) := P2.out.turn HT3.out hPB; replace c1 := turn_c HT3.out hPB C1.out; have c2 := P3.out.cell 2 _ rfl; have pf3 := P3.out.free; have hw2 : IntKind.i64.wrap (y + 1 + z) = y + 1 + z := (by rw [IntKind.wrap_i64]; omega); obtain ⟨T, hT⟩ : ∃ T, Int.tmod (y + 1 + z) 2 = T := ⟨_, rfl⟩; have hT2 : (y + 1 + z) % 2 = T := (by rw [← hT, Int.tmod_eq_emod_of_nonneg (by omega)]); have hwT : IntKind.i64.wrap T = T := (by rw [← hT2, IntKind.wrap_i64]; omega); clear hc3 ht3))
  all_goals
    rename_i hhh
    clear hhh
    have H : Hid (CT w (w3.setCell ⟨P, 2, none⟩ (.int .i64 T)) B a zs cap) := H3.out.set _ 2 _ (by omega)
    have K : Hid (Bk (w3.setCell ⟨P, 2, none⟩ (.int .i64 T)) w.heap.size (chrow 0 0 0 0)) := K3.out.other _ 2 _ (by omega)
    have PP : Hid (Bk (w3.setCell ⟨P, 2, none⟩ (.int .i64 T)) P (chrow x y T 0)) := P3.out.set 2 _ (by simp) rfl
    have HT9 : Hid ((0 ≤ T ∧ T < 2) ∧ y ≠ T ∧ (0 ≤ y ∧ y < 2)) := by show _ ∧ _ ∧ _; omega
    clear c1 C1 c2 pf3 hw5 hw1 hw2 hT hT2 hwT HT3 H3 K3 P3 H2 K2 P2
    revert H K PP
    generalize w3.setCell ⟨P, 2, none⟩ (.int .i64 T) = Y
    intro H K PP
    cases hx : (x == 1)
    · have HOK : Hid (chOk x y T 0 = true ∧ (0 ≤ y ∧ y < 2) ∧ (0 ≤ T ∧ T < 2)) := by
        have hx1' : x ≠ 1 := by simpa using hx
        have hx0' : x = 0 := by omega
        have h9 := HT9.out
        subst hx0'
        exact ⟨by simp [chOk, inr]; omega, h9.2.2, h9.1⟩
      have p0 := K.out.cell 0 _ rfl
      have r0 := PP.out.cell 0 _ rfl
      have p1 := K.out.cell 1 _ rfl
      have r1 := PP.out.cell 1 _ rfl
      have p2 := K.out.cell 2 _ rfl
      have r2 := PP.out.cell 2 _ rfl
      have p3 := K.out.cell 3 _ rfl
      have r3 := PP.out.cell 3 _ rfl
      have pf := K.out.free
      have H9 : Hid (CT w ((((Y.setCell ⟨w.heap.size, 0, none⟩ (.int .i64 x)).setCell ⟨w.heap.size, 1, none⟩ (.int .i64 y)).setCell ⟨w.heap.size, 2, none⟩ (.int .i64 T)).setCell ⟨w.heap.size, 3, none⟩ (.int .i64 0)) B a zs cap) := ((((H.out).set _ 0 _ (by omega)).set _ 1 _ (by omega)).set _ 2 _ (by omega)).set _ 3 _ (by omega)
      have K9 : Hid (Bk ((((Y.setCell ⟨w.heap.size, 0, none⟩ (.int .i64 x)).setCell ⟨w.heap.size, 1, none⟩ (.int .i64 y)).setCell ⟨w.heap.size, 2, none⟩ (.int .i64 T)).setCell ⟨w.heap.size, 3, none⟩ (.int .i64 0)) (w.heap.size) (chrow x y T 0)) := ((((K.out).set 0 (.int .i64 x) (by simp) (cs' := chrow x 0 0 0) rfl).set 1 (.int .i64 y) (by simp) (cs' := chrow x y 0 0) rfl).set 2 (.int .i64 T) (by simp) (cs' := chrow x y T 0) rfl).set 3 (.int .i64 0) (by simp) (cs' := chrow x y T 0) rfl
      go_wp2
      clear p0 r0 p1 r1 p2 r2 p3 r3 pf
      revert H9 K9
      generalize ((((Y.setCell ⟨w.heap.size, 0, none⟩ (.int .i64 x)).setCell ⟨w.heap.size, 1, none⟩ (.int .i64 y)).setCell ⟨w.heap.size, 2, none⟩ (.int .i64 T)).setCell ⟨w.heap.size, 3, none⟩ (.int .i64 0)) = Wf
      intro H9 K9
      have q0 := K9.out.cell 0 _ rfl
      have q1 := K9.out.cell 1 _ rfl
      have q2 := K9.out.cell 2 _ rfl
      have q3 := K9.out.cell 3 _ rfl
      exact bodyPost_ret (v := crw x y T 0) (by simp [results, Tryz.results101, go_sem, q0, q1, q2, q3]) rfl ⟨_, _, _, _, rfl, HOK.out, H9.out.cur, H9.out.turn⟩
    · have hx' : x = 1 := by simpa using hx
      subst hx'
      have e0 := PP.out.cell 0 _ rfl
      go_wp2_with fail
      refine (draw_below _ _ _ _ _ _ H.out.cur (by omega) (by omega)).mono ?_
      rintro e w4 ⟨z4, rfl, hz40, hz41, hc4, ht4⟩
      have H4 : Hid (CT w w4 B a zs cap) := H.out.step hc4 ht4
      have K4 : Hid (Bk w4 w.heap.size (chrow 0 0 0 0)) := K.out.turn ht4 (by omega)
      have P4 : Hid (Bk w4 P (chrow 1 y T 0)) := PP.out.turn ht4 (by omega)
      clear e0 H K PP hc4 ht4
      obtain ⟨D, hD⟩ : ∃ D, 1 + z4 = D := ⟨_, rfl⟩
      have hwD : IntKind.i64.wrap (1 + z4) = D := by rw [hD, IntKind.wrap_i64]; omega
      have H5 : Hid (CT w (w4.setCell ⟨P, 3, none⟩ (.int .i64 D)) B a zs cap) := H4.out.set _ 3 _ (by omega)
      have K5 : Hid (Bk (w4.setCell ⟨P, 3, none⟩ (.int .i64 D)) w.heap.size (chrow 0 0 0 0)) := K4.out.other _ 3 _ (by omega)
      have P5 : Hid (Bk (w4.setCell ⟨P, 3, none⟩ (.int .i64 D)) P (chrow 1 y T D)) := P4.out.set 3 _ (by simp) rfl
      have e3 := P4.out.cell 3 _ rfl
      have ef := P4.out.free
      clear H4 K4 P4
      go_wp2_with fail
      refine (draw_once _ _ _ _ _ _ H5.out.cur (by omega) (by omega)).mono ?_
      generalize w4.setCell ⟨P, 3, none⟩ (.int .i64 D) = V5 at H5 K5 P5
      clear e3 ef hwD
      rintro e w6 ⟨q, rfl, hc6, ht6⟩
      have H : Hid (CT w w6 B a zs cap) := H5.out.step hc6 ht6
      have K : Hid (Bk w6 w.heap.size (chrow 0 0 0 0)) := K5.out.turn ht6 (by omega)
      have PP : Hid (Bk w6 P (chrow 1 y T D)) := P5.out.turn ht6 (by omega)
      have hD9 : 1 ≤ D ∧ D ≤ 4 := by omega
      clear H5 K5 P5 hc6 ht6 hD
      cases q
      · have HOK : Hid (chOk 1 y T D = true ∧ (0 ≤ y ∧ y < 2) ∧ (0 ≤ T ∧ T < 2)) := by
          have h9 := HT9.out
          exact ⟨by simp [chOk, inr]; omega, h9.2.2, h9.1⟩
        have p0 := K.out.cell 0 _ rfl
        have r0 := PP.out.cell 0 _ rfl
        have p1 := K.out.cell 1 _ rfl
        have r1 := PP.out.cell 1 _ rfl
        have p2 := K.out.cell 2 _ rfl
        have r2 := PP.out.cell 2 _ rfl
        have p3 := K.out.cell 3 _ rfl
        have r3 := PP.out.cell 3 _ rfl
        have pf := K.out.free
        have H9 : Hid (CT w ((((w6.setCell ⟨w.heap.size, 0, none⟩ (.int .i64 1)).setCell ⟨w.heap.size, 1, none⟩ (.int .i64 y)).setCell ⟨w.heap.size, 2, none⟩ (.int .i64 T)).setCell ⟨w.heap.size, 3, none⟩ (.int .i64 D)) B a zs cap) := ((((H.out).set _ 0 _ (by omega)).set _ 1 _ (by omega)).set _ 2 _ (by omega)).set _ 3 _ (by omega)
        have K9 : Hid (Bk ((((w6.setCell ⟨w.heap.size, 0, none⟩ (.int .i64 1)).setCell ⟨w.heap.size, 1, none⟩ (.int .i64 y)).setCell ⟨w.heap.size, 2, none⟩ (.int .i64 T)).setCell ⟨w.heap.size, 3, none⟩ (.int .i64 D)) (w.heap.size) (chrow 1 y T D)) := ((((K.out).set 0 (.int .i64 1) (by simp) (cs' := chrow 1 0 0 0) rfl).set 1 (.int .i64 y) (by simp) (cs' := chrow 1 y 0 0) rfl).set 2 (.int .i64 T) (by simp) (cs' := chrow 1 y T 0) rfl).set 3 (.int .i64 D) (by simp) (cs' := chrow 1 y T D) rfl
        go_wp2
        clear p0 r0 p1 r1 p2 r2 p3 r3 pf
        revert H9 K9
        generalize ((((w6.setCell ⟨w.heap.size, 0, none⟩ (.int .i64 1)).setCell ⟨w.heap.size, 1, none⟩ (.int .i64 y)).setCell ⟨w.heap.size, 2, none⟩ (.int .i64 T)).setCell ⟨w.heap.size, 3, none⟩ (.int .i64 D)) = Wf
        intro H9 K9
        have q0 := K9.out.cell 0 _ rfl
        have q1 := K9.out.cell 1 _ rfl
        have q2 := K9.out.cell 2 _ rfl
        have q3 := K9.out.cell 3 _ rfl
        exact bodyPost_ret (v := crw 1 y T D) (by simp [results, Tryz.results101, go_sem, q0, q1, q2, q3]) rfl ⟨_, _, _, _, rfl, HOK.out, H9.out.cur, H9.out.turn⟩
      · have HOK : Hid (chOk 1 y T 8 = true ∧ (0 ≤ y ∧ y < 2) ∧ (0 ≤ T ∧ T < 2)) := by
          have h9 := HT9.out
          exact ⟨by simp [chOk, inr]; omega, h9.2.2, h9.1⟩
        have H7 : Hid (CT w (w6.setCell ⟨P, 3, none⟩ (.int .i64 8)) B a zs cap) := H.out.set _ 3 _ (by omega)
        have K7 : Hid (Bk (w6.setCell ⟨P, 3, none⟩ (.int .i64 8)) w.heap.size (chrow 0 0 0 0)) := K.out.other _ 3 _ (by omega)
        have P7 : Hid (Bk (w6.setCell ⟨P, 3, none⟩ (.int .i64 8)) P (chrow 1 y T 8)) := PP.out.set 3 _ (by simp) rfl
        have e3 := PP.out.cell 3 _ rfl
        have ef := PP.out.free
        clear H K PP
        have p0 := K7.out.cell 0 _ rfl
        have r0 := P7.out.cell 0 _ rfl
        have p1 := K7.out.cell 1 _ rfl
        have r1 := P7.out.cell 1 _ rfl
        have p2 := K7.out.cell 2 _ rfl
        have r2 := P7.out.cell 2 _ rfl
        have p3 := K7.out.cell 3 _ rfl
        have r3 := P7.out.cell 3 _ rfl
        have pf := K7.out.free
        have H9 : Hid (CT w (((((w6.setCell ⟨P, 3, none⟩ (.int .i64 8)).setCell ⟨w.heap.size, 0, none⟩ (.int .i64 1)).setCell ⟨w.heap.size, 1, none⟩ (.int .i64 y)).setCell ⟨w.heap.size, 2, none⟩ (.int .i64 T)).setCell ⟨w.heap.size, 3, none⟩ (.int .i64 8)) B a zs cap) := ((((H7.out).set _ 0 _ (by omega)).set _ 1 _ (by omega)).set _ 2 _ (by omega)).set _ 3 _ (by omega)
        have K9 : Hid (Bk (((((w6.setCell ⟨P, 3, none⟩ (.int .i64 8)).setCell ⟨w.heap.size, 0, none⟩ (.int .i64 1)).setCell ⟨w.heap.size, 1, none⟩ (.int .i64 y)).setCell ⟨w.heap.size, 2, none⟩ (.int .i64 T)).setCell ⟨w.heap.size, 3, none⟩ (.int .i64 8)) (w.heap.size) (chrow 1 y T 8)) := ((((K7.out).set 0 (.int .i64 1) (by simp) (cs' := chrow 1 0 0 0) rfl).set 1 (.int .i64 y) (by simp) (cs' := chrow 1 y 0 0) rfl).set 2 (.int .i64 T) (by simp) (cs' := chrow 1 y T 0) rfl).set 3 (.int .i64 8) (by simp) (cs' := chrow 1 y T 8) rfl
        go_wp2
        clear p0 r0 p1 r1 p2 r2 p3 r3 pf
        revert H9 K9
        generalize (((((w6.setCell ⟨P, 3, none⟩ (.int .i64 8)).setCell ⟨w.heap.size, 0, none⟩ (.int .i64 1)).setCell ⟨w.heap.size, 1, none⟩ (.int .i64 y)).setCell ⟨w.heap.size, 2, none⟩ (.int .i64 T)).setCell ⟨w.heap.size, 3, none⟩ (.int .i64 8)) = Wf
        intro H9 K9
        have q0 := K9.out.cell 0 _ rfl
        have q1 := K9.out.cell 1 _ rfl
        have q2 := K9.out.cell 2 _ rfl
        have q3 := K9.out.cell 3 _ rfl
        exact bodyPost_ret (v := crw 1 y T 8) (by simp [results, Tryz.results101, go_sem, q0, q1, q2, q3]) rfl ⟨_, _, _, _, rfl, HOK.out, H9.out.cur, H9.out.turn⟩
set_option maxRecDepth 20000 in
set_option maxHeartbeats 2000000 in
theorem draw_row3 (w : World) (B : Nat) (a : Option Addr) (zs : List Int) (cap : Nat) (hc : Cur w B a zs cap) :
    Calls Tryz.prog 101 #[.pointer (some ⟨B, 0, none⟩), .int .i64 3] w fun e w' => ∃ k f t d : Int, e = .returned (crw k f t d) ∧ (chOk k f t d = true ∧ (0 ≤ f ∧ f < 3) ∧ (0 ≤ t ∧ t < 3)) ∧ Cur w' B a zs cap ∧ Turn B w w' := by
  have H0 : Hid (CT w (w.alloc (.cells (chrow 0 0 0 0) 76)) B a zs cap) := (CT.start hc).alloc _
  have K0 : Hid (Bk (w.alloc (.cells (chrow 0 0 0 0) 76)) w.heap.size (chrow 0 0 0 0)) := Bk.new _ _ _ _ rfl
  have hlo := hc.lt
  clear hc
  go_enter Tryz.func101, Tryz.ntmps101
  go_wp2_with fail
  refine (draw_below _ _ _ _ _ _ H0.out.cur (by omega) (by omega)).mono ?_
  rintro e w1 ⟨x, rfl, hx0, hx1, hc1, ht1⟩
  have H1 : Hid (CT w w1 B a zs cap) := H0.out.step hc1 ht1
  have K1 : Hid (Bk w1 w.heap.size (chrow 0 0 0 0)) := K0.out.turn ht1 (by omega)
  clear H0 K0 hc1 ht1
  go_wp2_with fail
  refine (draw_below _ _ _ _ _ _ H1.out.cur (by omega) (by omega)).mono ?_
  rintro e w2 ⟨y, rfl, hy0, hy1, hc2, ht2⟩
  have hzw : w.heap.size < w2.heap.size := Nat.lt_of_lt_of_le K1.out.lt ht2.size
  have H2 : Hid (CT w (w2.alloc (.cells (chrow x y 0 0) 76)) B a zs cap) := (H1.out.step hc2 ht2).alloc _
  have K2 : Hid (Bk (w2.alloc (.cells (chrow x y 0 0) 76)) w.heap.size (chrow 0 0 0 0)) := (K1.out.turn ht2 (by omega)).alloc _
  have P2 : Hid (Bk (w2.alloc (.cells (chrow x y 0 0) 76)) w2.heap.size (chrow x y 0 0)) := Bk.new _ _ _ _ rfl
  clear H1 K1 hc2 ht2
  go_wp2
  revert H2 K2 P2
  generalize (w2.alloc (.cells (chrow x y 0 0) 76)) = V
  generalize w2.heap.size = P at hzw ⊢
  intro H2 K2 P2
  have c1 : V.cell? ⟨P, 1, none⟩ = some (.int .i64 y) := P2.out.cell 1 _ rfl
  have C1 : Hid (V.cell? ⟨P, 1, none⟩ = some (.int .i64 y)) := c1
  have hPB : P ≠ B := by omega
  have hw5 : IntKind.i64.wrap 2 = 2 := by rw [IntKind.wrap_i64]; omega
  have hw1 : IntKind.i64.wrap (y + 1) = y + 1 := by rw [IntKind.wrap_i64]; omega
  go_region_held_law (fun w' => w'.cell? ⟨P, 1, none⟩ = some (.int .i64 y)) (first | with_reducible exact c1 | with_reducible exact dr_c c1 | with_reducible exact sto (by omega) c1)
    (first | (go_at_call 30; refine Calls.mono (draw_below _ _ _ _ _ _ (by first | exact H2.out.cur | exact H2.out.cur.drewN 1) (by omega) (by omega)) ?_; rintro u w3 ⟨z, rfl, hz0, hz1, hc3, ht3⟩; have HT3 : Hid (Turn B V w3) := (by first | exact ht3 | exact (((Turn.refl B V).drewN 1)).trans ht3); have H3 : Hid (CT w w3 B a zs cap) := H2.out.step hc3 HT3.out; have K3 : Hid (Bk w3 w.heap.size (chrow 0 0 0 0)) := K2.out.turn HT3.out (by omega); have P3 : Hid (Bk w3 P (chrow x y 0 0)) := P2.out.turn HT3.out hPB; replace c1 := turn_c HT3.out hPB C1.out; have c2 := P3.out.cell 2 _ rfl; have pf3 := P3.out.free; have hw2 : IntKind.i64.wrap (y + 1 + z) = y + 1 + z := (by rw [IntKind.wrap_i64]; omega); obtain ⟨T, hT⟩ : ∃ T, Int.tmod (y + 1 + z) 3 = T := ⟨_, rfl⟩; have hT2 : (y + 1 + z) % 3 = T := (by rw [← hT, Int.tmod_eq_emod_of_nonneg (by omega)]); have hwT : IntKind.i64.wrap T = T := (by rw [← hT2, IntKind.wrap_i64]; omega); clear hc3 ht3))
  all_goals
    rename_i hhh
    clear hhh
    have H : Hid (CT w (w3.setCell ⟨P, 2, none⟩ (.int .i64 T)) B a zs cap) := H3.out.set _ 2 _ (by omega)
    have K : Hid (Bk (w3.setCell ⟨P, 2, none⟩ (.int .i64 T)) w.heap.size (chrow 0 0 0 0)) := K3.out.other _ 2 _ (by omega)
    have PP : Hid (Bk (w3.setCell ⟨P, 2, none⟩ (.int .i64 T)) P (chrow x y T 0)) := P3.out.set 2 _ (by simp) rfl
    have HT9 : Hid ((0 ≤ T ∧ T < 3) ∧ y ≠ T ∧ (0 ≤ y ∧ y < 3)) := by show _ ∧ _ ∧ _; omega
    clear c1 C1 c2 pf3 hw5 hw1 hw2 hT hT2 hwT HT3 H3 K3 P3 H2 K2 P2
    revert H K PP
    generalize w3.setCell ⟨P, 2, none⟩ (.int .i64 T) = Y
    intro H K PP
    cases hx : (x == 1)
    · have HOK : Hid (chOk x y T 0 = true ∧ (0 ≤ y ∧ y < 3) ∧ (0 ≤ T ∧ T < 3)) := by
        have hx1' : x ≠ 1 := by simpa using hx
        have hx0' : x = 0 := by omega
        have h9 := HT9.out
        subst hx0'
        exact ⟨by simp [chOk, inr]; omega, h9.2.2, h9.1⟩
      have p0 := K.out.cell 0 _ rfl
      have r0 := PP.out.cell 0 _ rfl
      have p1 := K.out.cell 1 _ rfl
      have r1 := PP.out.cell 1 _ rfl
      have p2 := K.out.cell 2 _ rfl
      have r2 := PP.out.cell 2 _ rfl
      have p3 := K.out.cell 3 _ rfl
      have r3 := PP.out.cell 3 _ rfl
      have pf := K.out.free
      have H9 : Hid (CT w ((((Y.setCell ⟨w.heap.size, 0, none⟩ (.int .i64 x)).setCell ⟨w.heap.size, 1, none⟩ (.int .i64 y)).setCell ⟨w.heap.size, 2, none⟩ (.int .i64 T)).setCell ⟨w.heap.size, 3, none⟩ (.int .i64 0)) B a zs cap) := ((((H.out).set _ 0 _ (by omega)).set _ 1 _ (by omega)).set _ 2 _ (by omega)).set _ 3 _ (by omega)
      have K9 : Hid (Bk ((((Y.setCell ⟨w.heap.size, 0, none⟩ (.int .i64 x)).setCell ⟨w.heap.size, 1, none⟩ (.int .i64 y)).setCell ⟨w.heap.size, 2, none⟩ (.int .i64 T)).setCell ⟨w.heap.size, 3, none⟩ (.int .i64 0)) (w.heap.size) (chrow x y T 0)) := ((((K.out).set 0 (.int .i64 x) (by simp) (cs' := chrow x 0 0 0) rfl).set 1 (.int .i64 y) (by simp) (cs' := chrow x y 0 0) rfl).set 2 (.int .i64 T) (by simp) (cs' := chrow x y T 0) rfl).set 3 (.int .i64 0) (by simp) (cs' := chrow x y T 0) rfl
      go_wp2
      clear p0 r0 p1 r1 p2 r2 p3 r3 pf
      revert H9 K9
      generalize ((((Y.setCell ⟨w.heap.size, 0, none⟩ (.int .i64 x)).setCell ⟨w.heap.size, 1, none⟩ (.int .i64 y)).setCell ⟨w.heap.size, 2, none⟩ (.int .i64 T)).setCell ⟨w.heap.size, 3, none⟩ (.int .i64 0)) = Wf
      intro H9 K9
      have q0 := K9.out.cell 0 _ rfl
      have q1 := K9.out.cell 1 _ rfl
      have q2 := K9.out.cell 2 _ rfl
      have q3 := K9.out.cell 3 _ rfl
      exact bodyPost_ret (v := crw x y T 0) (by simp [results, Tryz.results101, go_sem, q0, q1, q2, q3]) rfl ⟨_, _, _, _, rfl, HOK.out, H9.out.cur, H9.out.turn⟩
    · have hx' : x = 1 := by simpa using hx
      subst hx'
      have e0 := PP.out.cell 0 _ rfl
      go_wp2_with fail
      refine (draw_below _ _ _ _ _ _ H.out.cur (by omega) (by omega)).mono ?_
      rintro e w4 ⟨z4, rfl, hz40, hz41, hc4, ht4⟩
      have H4 : Hid (CT w w4 B a zs cap) := H.out.step hc4 ht4
      have K4 : Hid (Bk w4 w.heap.size (chrow 0 0 0 0)) := K.out.turn ht4 (by omega)
      have P4 : Hid (Bk w4 P (chrow 1 y T 0)) := PP.out.turn ht4 (by omega)
      clear e0 H K PP hc4 ht4
      obtain ⟨D, hD⟩ : ∃ D, 1 + z4 = D := ⟨_, rfl⟩
      have hwD : IntKind.i64.wrap (1 + z4) = D := by rw [hD, IntKind.wrap_i64]; omega
      have H5 : Hid (CT w (w4.setCell ⟨P, 3, none⟩ (.int .i64 D)) B a zs cap) := H4.out.set _ 3 _ (by omega)
      have K5 : Hid (Bk (w4.setCell ⟨P, 3, none⟩ (.int .i64 D)) w.heap.size (chrow 0 0 0 0)) := K4.out.other _ 3 _ (by omega)
      have P5 : Hid (Bk (w4.setCell ⟨P, 3, none⟩ (.int .i64 D)) P (chrow 1 y T D)) := P4.out.set 3 _ (by simp) rfl
      have e3 := P4.out.cell 3 _ rfl
      have ef := P4.out.free
      clear H4 K4 P4
      go_wp2_with fail
      refine (draw_once _ _ _ _ _ _ H5.out.cur (by omega) (by omega)).mono ?_
      generalize w4.setCell ⟨P, 3, none⟩ (.int .i64 D) = V5 at H5 K5 P5
      clear e3 ef hwD
      rintro e w6 ⟨q, rfl, hc6, ht6⟩
      have H : Hid (CT w w6 B a zs cap) := H5.out.step hc6 ht6
      have K : Hid (Bk w6 w.heap.size (chrow 0 0 0 0)) := K5.out.turn ht6 (by omega)
      have PP : Hid (Bk w6 P (chrow 1 y T D)) := P5.out.turn ht6 (by omega)
      have hD9 : 1 ≤ D ∧ D ≤ 4 := by omega
      clear H5 K5 P5 hc6 ht6 hD
      cases q
      · have HOK : Hid (chOk 1 y T D = true ∧ (0 ≤ y ∧ y < 3) ∧ (0 ≤ T ∧ T < 3)) := by
          have h9 := HT9.out
          exact ⟨by simp [chOk, inr]; omega, h9.2.2, h9.1⟩
        have p0 := K.out.cell 0 _ rfl
        have r0 := PP.out.cell 0 _ rfl
        have p1 := K.out.cell 1 _ rfl
        have r1 := PP.out.cell 1 _ rfl
        have p2 := K.out.cell 2 _ rfl
        have r2 := PP.out.cell 2 _ rfl
        have p3 := K.out.cell 3 _ rfl
        have r3 := PP.out.cell 3 _ rfl
        have pf := K.out.free
        have H9 : Hid (CT w ((((w6.setCell ⟨w.heap.size, 0, none⟩ (.int .i64 1)).setCell ⟨w.heap.size, 1, none⟩ (.int .i64 y)).setCell ⟨w.heap.size, 2, none⟩ (.int .i64 T)).setCell ⟨w.heap.size, 3, none⟩ (.int .i64 D)) B a zs cap) := ((((H.out).set _ 0 _ (by omega)).set _ 1 _ (by omega)).set _ 2 _ (by omega)).set _ 3 _ (by omega)
        have K9 : Hid (Bk ((((w6.setCell ⟨w.heap.size, 0, none⟩ (.int .i64 1)).setCell ⟨w.heap.size, 1, none⟩ (.int .i64 y)).setCell ⟨w.heap.size, 2, none⟩ (.int .i64 T)).setCell ⟨w.heap.size, 3, none⟩ (.int .i64 D)) (w.heap.size) (chrow 1 y T D)) := ((((K.out).set 0 (.int .i64 1) (by simp) (cs' := chrow 1 0 0 0) rfl).set 1 (.int .i64 y) (by simp) (cs' := chrow 1 y 0 0) rfl).set 2 (.int .i64 T) (by simp) (cs' := chrow 1 y T 0) rfl).set 3 (.int .i64 D) (by simp) (cs' := chrow 1 y T D) rfl
        go_wp2
        clear p0 r0 p1 r1 p2 r2 p3 r3 pf
        revert H9 K9
        generalize ((((w6.setCell ⟨w.heap.size, 0, none⟩ (.int .i64 1)).setCell ⟨w.heap.size, 1, none⟩ (.int .i64 y)).setCell ⟨w.heap.size, 2, none⟩ (.int .i64 T)).setCell ⟨w.heap.size, 3, none⟩ (.int .i64 D)) = Wf
        intro H9 K9
        have q0 := K9.out.cell 0 _ rfl
        have q1 := K9.out.cell 1 _ rfl
        have q2 := K9.out.cell 2 _ rfl
        have q3 := K9.out.cell 3 _ rfl
        exact bodyPost_ret (v := crw 1 y T D) (by simp [results, Tryz.results101, go_sem, q0, q1, q2, q3]) rfl ⟨_, _, _, _, rfl, HOK.out, H9.out.cur, H9.out.turn⟩
      · have HOK : Hid (chOk 1 y T 8 = true ∧ (0 ≤ y ∧ y < 3) ∧ (0 ≤ T ∧ T < 3)) := by
          have h9 := HT9.out
          exact ⟨by simp [chOk, inr]; omega, h9.2.2, h9.1⟩
        have H7 : Hid (CT w (w6.setCell ⟨P, 3, none⟩ (.int .i64 8)) B a zs cap) := H.out.set _ 3 _ (by omega)
        have K7 : Hid (Bk (w6.setCell ⟨P, 3, none⟩ (.int .i64 8)) w.heap.size (chrow 0 0 0 0)) := K.out.other _ 3 _ (by omega)
        have P7 : Hid (Bk (w6.setCell ⟨P, 3, none⟩ (.int .i64 8)) P (chrow 1 y T 8)) := PP.out.set 3 _ (by simp) rfl
        have e3 := PP.out.cell 3 _ rfl
        have ef := PP.out.free
        clear H K PP
        have p0 := K7.out.cell 0 _ rfl
        have r0 := P7.out.cell 0 _ rfl
        have p1 := K7.out.cell 1 _ rfl
        have r1 := P7.out.cell 1 _ rfl
        have p2 := K7.out.cell 2 _ rfl
        have r2 := P7.out.cell 2 _ rfl
        have p3 := K7.out.cell 3 _ rfl
        have r3 := P7.out.cell 3 _ rfl
        have pf := K7.out.free
        have H9 : Hid (CT w (((((w6.setCell ⟨P, 3, none⟩ (.int .i64 8)).setCell ⟨w.heap.size, 0, none⟩ (.int .i64 1)).setCell ⟨w.heap.size, 1, none⟩ (.int .i64 y)).setCell ⟨w.heap.size, 2, none⟩ (.int .i64 T)).setCell ⟨w.heap.size, 3, none⟩ (.int .i64 8)) B a zs cap) := ((((H7.out).set _ 0 _ (by omega)).set _ 1 _ (by omega)).set _ 2 _ (by omega)).set _ 3 _ (by omega)
        have K9 : Hid (Bk (((((w6.setCell ⟨P, 3, none⟩ (.int .i64 8)).setCell ⟨w.heap.size, 0, none⟩ (.int .i64 1)).setCell ⟨w.heap.size, 1, none⟩ (.int .i64 y)).setCell ⟨w.heap.size, 2, none⟩ (.int .i64 T)).setCell ⟨w.heap.size, 3, none⟩ (.int .i64 8)) (w.heap.size) (chrow 1 y T 8)) := ((((K7.out).set 0 (.int .i64 1) (by simp) (cs' := chrow 1 0 0 0) rfl).set 1 (.int .i64 y) (by simp) (cs' := chrow 1 y 0 0) rfl).set 2 (.int .i64 T) (by simp) (cs' := chrow 1 y T 0) rfl).set 3 (.int .i64 8) (by simp) (cs' := chrow 1 y T 8) rfl
        go_wp2
        clear p0 r0 p1 r1 p2 r2 p3 r3 pf
        revert H9 K9
        generalize (((((w6.setCell ⟨P, 3, none⟩ (.int .i64 8)).setCell ⟨w.heap.size, 0, none⟩ (.int .i64 1)).setCell ⟨w.heap.size, 1, none⟩ (.int .i64 y)).setCell ⟨w.heap.size, 2, none⟩ (.int .i64 T)).setCell ⟨w.heap.size, 3, none⟩ (.int .i64 8)) = Wf
        intro H9 K9
        have q0 := K9.out.cell 0 _ rfl
        have q1 := K9.out.cell 1 _ rfl
        have q2 := K9.out.cell 2 _ rfl
        have q3 := K9.out.cell 3 _ rfl
        exact bodyPost_ret (v := crw 1 y T 8) (by simp [results, Tryz.results101, go_sem, q0, q1, q2, q3]) rfl ⟨_, _, _, _, rfl, HOK.out, H9.out.cur, H9.out.turn⟩
set_option maxRecDepth 20000 in
set_option maxHeartbeats 2000000 in
theorem draw_row4 (w : World) (B : Nat) (a : Option Addr) (zs : List Int) (cap : Nat) (hc : Cur w B a zs cap) :
    Calls Tryz.prog 101 #[.pointer (some ⟨B, 0, none⟩), .int .i64 4] w fun e w' => ∃ k f t d : Int, e = .returned (crw k f t d) ∧ (chOk k f t d = true ∧ (0 ≤ f ∧ f < 4) ∧ (0 ≤ t ∧ t < 4)) ∧ Cur w' B a zs cap ∧ Turn B w w' := by
  have H0 : Hid (CT w (w.alloc (.cells (chrow 0 0 0 0) 76)) B a zs cap) := (CT.start hc).alloc _
  have K0 : Hid (Bk (w.alloc (.cells (chrow 0 0 0 0) 76)) w.heap.size (chrow 0 0 0 0)) := Bk.new _ _ _ _ rfl
  have hlo := hc.lt
  clear hc
  go_enter Tryz.func101, Tryz.ntmps101
  go_wp2_with fail
  refine (draw_below _ _ _ _ _ _ H0.out.cur (by omega) (by omega)).mono ?_
  rintro e w1 ⟨x, rfl, hx0, hx1, hc1, ht1⟩
  have H1 : Hid (CT w w1 B a zs cap) := H0.out.step hc1 ht1
  have K1 : Hid (Bk w1 w.heap.size (chrow 0 0 0 0)) := K0.out.turn ht1 (by omega)
  clear H0 K0 hc1 ht1
  go_wp2_with fail
  refine (draw_below _ _ _ _ _ _ H1.out.cur (by omega) (by omega)).mono ?_
  rintro e w2 ⟨y, rfl, hy0, hy1, hc2, ht2⟩
  have hzw : w.heap.size < w2.heap.size := Nat.lt_of_lt_of_le K1.out.lt ht2.size
  have H2 : Hid (CT w (w2.alloc (.cells (chrow x y 0 0) 76)) B a zs cap) := (H1.out.step hc2 ht2).alloc _
  have K2 : Hid (Bk (w2.alloc (.cells (chrow x y 0 0) 76)) w.heap.size (chrow 0 0 0 0)) := (K1.out.turn ht2 (by omega)).alloc _
  have P2 : Hid (Bk (w2.alloc (.cells (chrow x y 0 0) 76)) w2.heap.size (chrow x y 0 0)) := Bk.new _ _ _ _ rfl
  clear H1 K1 hc2 ht2
  go_wp2
  revert H2 K2 P2
  generalize (w2.alloc (.cells (chrow x y 0 0) 76)) = V
  generalize w2.heap.size = P at hzw ⊢
  intro H2 K2 P2
  have c1 : V.cell? ⟨P, 1, none⟩ = some (.int .i64 y) := P2.out.cell 1 _ rfl
  have C1 : Hid (V.cell? ⟨P, 1, none⟩ = some (.int .i64 y)) := c1
  have hPB : P ≠ B := by omega
  have hw5 : IntKind.i64.wrap 3 = 3 := by rw [IntKind.wrap_i64]; omega
  have hw1 : IntKind.i64.wrap (y + 1) = y + 1 := by rw [IntKind.wrap_i64]; omega
  go_region_held_law (fun w' => w'.cell? ⟨P, 1, none⟩ = some (.int .i64 y)) (first | with_reducible exact c1 | with_reducible exact dr_c c1 | with_reducible exact sto (by omega) c1)
    (first | (go_at_call 30; refine Calls.mono (draw_below _ _ _ _ _ _ (by first | exact H2.out.cur | exact H2.out.cur.drewN 1) (by omega) (by omega)) ?_; rintro u w3 ⟨z, rfl, hz0, hz1, hc3, ht3⟩; have HT3 : Hid (Turn B V w3) := (by first | exact ht3 | exact (((Turn.refl B V).drewN 1)).trans ht3); have H3 : Hid (CT w w3 B a zs cap) := H2.out.step hc3 HT3.out; have K3 : Hid (Bk w3 w.heap.size (chrow 0 0 0 0)) := K2.out.turn HT3.out (by omega); have P3 : Hid (Bk w3 P (chrow x y 0 0)) := P2.out.turn HT3.out hPB; replace c1 := turn_c HT3.out hPB C1.out; have c2 := P3.out.cell 2 _ rfl; have pf3 := P3.out.free; have hw2 : IntKind.i64.wrap (y + 1 + z) = y + 1 + z := (by rw [IntKind.wrap_i64]; omega); obtain ⟨T, hT⟩ : ∃ T, Int.tmod (y + 1 + z) 4 = T := ⟨_, rfl⟩; have hT2 : (y + 1 + z) % 4 = T := (by rw [← hT, Int.tmod_eq_emod_of_nonneg (by omega)]); have hwT : IntKind.i64.wrap T = T := (by rw [← hT2, IntKind.wrap_i64]; omega); clear hc3 ht3))
  all_goals
    rename_i hhh
    clear hhh
    have H : Hid (CT w (w3.setCell ⟨P, 2, none⟩ (.int .i64 T)) B a zs cap) := H3.out.set _ 2 _ (by omega)
    have K : Hid (Bk (w3.setCell ⟨P, 2, none⟩ (.int .i64 T)) w.heap.size (chrow 0 0 0 0)) := K3.out.other _ 2 _ (by omega)
    have PP : Hid (Bk (w3.setCell ⟨P, 2, none⟩ (.int .i64 T)) P (chrow x y T 0)) := P3.out.set 2 _ (by simp) rfl
    have HT9 : Hid ((0 ≤ T ∧ T < 4) ∧ y ≠ T ∧ (0 ≤ y ∧ y < 4)) := by show _ ∧ _ ∧ _; omega
    clear c1 C1 c2 pf3 hw5 hw1 hw2 hT hT2 hwT HT3 H3 K3 P3 H2 K2 P2
    revert H K PP
    generalize w3.setCell ⟨P, 2, none⟩ (.int .i64 T) = Y
    intro H K PP
    cases hx : (x == 1)
    · have HOK : Hid (chOk x y T 0 = true ∧ (0 ≤ y ∧ y < 4) ∧ (0 ≤ T ∧ T < 4)) := by
        have hx1' : x ≠ 1 := by simpa using hx
        have hx0' : x = 0 := by omega
        have h9 := HT9.out
        subst hx0'
        exact ⟨by simp [chOk, inr]; omega, h9.2.2, h9.1⟩
      have p0 := K.out.cell 0 _ rfl
      have r0 := PP.out.cell 0 _ rfl
      have p1 := K.out.cell 1 _ rfl
      have r1 := PP.out.cell 1 _ rfl
      have p2 := K.out.cell 2 _ rfl
      have r2 := PP.out.cell 2 _ rfl
      have p3 := K.out.cell 3 _ rfl
      have r3 := PP.out.cell 3 _ rfl
      have pf := K.out.free
      have H9 : Hid (CT w ((((Y.setCell ⟨w.heap.size, 0, none⟩ (.int .i64 x)).setCell ⟨w.heap.size, 1, none⟩ (.int .i64 y)).setCell ⟨w.heap.size, 2, none⟩ (.int .i64 T)).setCell ⟨w.heap.size, 3, none⟩ (.int .i64 0)) B a zs cap) := ((((H.out).set _ 0 _ (by omega)).set _ 1 _ (by omega)).set _ 2 _ (by omega)).set _ 3 _ (by omega)
      have K9 : Hid (Bk ((((Y.setCell ⟨w.heap.size, 0, none⟩ (.int .i64 x)).setCell ⟨w.heap.size, 1, none⟩ (.int .i64 y)).setCell ⟨w.heap.size, 2, none⟩ (.int .i64 T)).setCell ⟨w.heap.size, 3, none⟩ (.int .i64 0)) (w.heap.size) (chrow x y T 0)) := ((((K.out).set 0 (.int .i64 x) (by simp) (cs' := chrow x 0 0 0) rfl).set 1 (.int .i64 y) (by simp) (cs' := chrow x y 0 0) rfl).set 2 (.int .i64 T) (by simp) (cs' := chrow x y T 0) rfl).set 3 (.int .i64 0) (by simp) (cs' := chrow x y T 0) rfl
      go_wp2
      clear p0 r0 p1 r1 p2 r2 p3 r3 pf
      revert H9 K9
      generalize ((((Y.setCell ⟨w.heap.size, 0, none⟩ (.int .i64 x)).setCell ⟨w.heap.size, 1, none⟩ (.int .i64 y)).setCell ⟨w.heap.size, 2, none⟩ (.int .i64 T)).setCell ⟨w.heap.size, 3, none⟩ (.int .i64 0)) = Wf
      intro H9 K9
      have q0 := K9.out.cell 0 _ rfl
      have q1 := K9.out.cell 1 _ rfl
      have q2 := K9.out.cell 2 _ rfl
      have q3 := K9.out.cell 3 _ rfl
      exact bodyPost_ret (v := crw x y T 0) (by simp [results, Tryz.results101, go_sem, q0, q1, q2, q3]) rfl ⟨_, _, _, _, rfl, HOK.out, H9.out.cur, H9.out.turn⟩
    · have hx' : x = 1 := by simpa using hx
      subst hx'
      have e0 := PP.out.cell 0 _ rfl
      go_wp2_with fail
      refine (draw_below _ _ _ _ _ _ H.out.cur (by omega) (by omega)).mono ?_
      rintro e w4 ⟨z4, rfl, hz40, hz41, hc4, ht4⟩
      have H4 : Hid (CT w w4 B a zs cap) := H.out.step hc4 ht4
      have K4 : Hid (Bk w4 w.heap.size (chrow 0 0 0 0)) := K.out.turn ht4 (by omega)
      have P4 : Hid (Bk w4 P (chrow 1 y T 0)) := PP.out.turn ht4 (by omega)
      clear e0 H K PP hc4 ht4
      obtain ⟨D, hD⟩ : ∃ D, 1 + z4 = D := ⟨_, rfl⟩
      have hwD : IntKind.i64.wrap (1 + z4) = D := by rw [hD, IntKind.wrap_i64]; omega
      have H5 : Hid (CT w (w4.setCell ⟨P, 3, none⟩ (.int .i64 D)) B a zs cap) := H4.out.set _ 3 _ (by omega)
      have K5 : Hid (Bk (w4.setCell ⟨P, 3, none⟩ (.int .i64 D)) w.heap.size (chrow 0 0 0 0)) := K4.out.other _ 3 _ (by omega)
      have P5 : Hid (Bk (w4.setCell ⟨P, 3, none⟩ (.int .i64 D)) P (chrow 1 y T D)) := P4.out.set 3 _ (by simp) rfl
      have e3 := P4.out.cell 3 _ rfl
      have ef := P4.out.free
      clear H4 K4 P4
      go_wp2_with fail
      refine (draw_once _ _ _ _ _ _ H5.out.cur (by omega) (by omega)).mono ?_
      generalize w4.setCell ⟨P, 3, none⟩ (.int .i64 D) = V5 at H5 K5 P5
      clear e3 ef hwD
      rintro e w6 ⟨q, rfl, hc6, ht6⟩
      have H : Hid (CT w w6 B a zs cap) := H5.out.step hc6 ht6
      have K : Hid (Bk w6 w.heap.size (chrow 0 0 0 0)) := K5.out.turn ht6 (by omega)
      have PP : Hid (Bk w6 P (chrow 1 y T D)) := P5.out.turn ht6 (by omega)
      have hD9 : 1 ≤ D ∧ D ≤ 4 := by omega
      clear H5 K5 P5 hc6 ht6 hD
      cases q
      · have HOK : Hid (chOk 1 y T D = true ∧ (0 ≤ y ∧ y < 4) ∧ (0 ≤ T ∧ T < 4)) := by
          have h9 := HT9.out
          exact ⟨by simp [chOk, inr]; omega, h9.2.2, h9.1⟩
        have p0 := K.out.cell 0 _ rfl
        have r0 := PP.out.cell 0 _ rfl
        have p1 := K.out.cell 1 _ rfl
        have r1 := PP.out.cell 1 _ rfl
        have p2 := K.out.cell 2 _ rfl
        have r2 := PP.out.cell 2 _ rfl
        have p3 := K.out.cell 3 _ rfl
        have r3 := PP.out.cell 3 _ rfl
        have pf := K.out.free
        have H9 : Hid (CT w ((((w6.setCell ⟨w.heap.size, 0, none⟩ (.int .i64 1)).setCell ⟨w.heap.size, 1, none⟩ (.int .i64 y)).setCell ⟨w.heap.size, 2, none⟩ (.int .i64 T)).setCell ⟨w.heap.size, 3, none⟩ (.int .i64 D)) B a zs cap) := ((((H.out).set _ 0 _ (by omega)).set _ 1 _ (by omega)).set _ 2 _ (by omega)).set _ 3 _ (by omega)
        have K9 : Hid (Bk ((((w6.setCell ⟨w.heap.size, 0, none⟩ (.int .i64 1)).setCell ⟨w.heap.size, 1, none⟩ (.int .i64 y)).setCell ⟨w.heap.size, 2, none⟩ (.int .i64 T)).setCell ⟨w.heap.size, 3, none⟩ (.int .i64 D)) (w.heap.size) (chrow 1 y T D)) := ((((K.out).set 0 (.int .i64 1) (by simp) (cs' := chrow 1 0 0 0) rfl).set 1 (.int .i64 y) (by simp) (cs' := chrow 1 y 0 0) rfl).set 2 (.int .i64 T) (by simp) (cs' := chrow 1 y T 0) rfl).set 3 (.int .i64 D) (by simp) (cs' := chrow 1 y T D) rfl
        go_wp2
        clear p0 r0 p1 r1 p2 r2 p3 r3 pf
        revert H9 K9
        generalize ((((w6.setCell ⟨w.heap.size, 0, none⟩ (.int .i64 1)).setCell ⟨w.heap.size, 1, none⟩ (.int .i64 y)).setCell ⟨w.heap.size, 2, none⟩ (.int .i64 T)).setCell ⟨w.heap.size, 3, none⟩ (.int .i64 D)) = Wf
        intro H9 K9
        have q0 := K9.out.cell 0 _ rfl
        have q1 := K9.out.cell 1 _ rfl
        have q2 := K9.out.cell 2 _ rfl
        have q3 := K9.out.cell 3 _ rfl
        exact bodyPost_ret (v := crw 1 y T D) (by simp [results, Tryz.results101, go_sem, q0, q1, q2, q3]) rfl ⟨_, _, _, _, rfl, HOK.out, H9.out.cur, H9.out.turn⟩
      · have HOK : Hid (chOk 1 y T 8 = true ∧ (0 ≤ y ∧ y < 4) ∧ (0 ≤ T ∧ T < 4)) := by
          have h9 := HT9.out
          exact ⟨by simp [chOk, inr]; omega, h9.2.2, h9.1⟩
        have H7 : Hid (CT w (w6.setCell ⟨P, 3, none⟩ (.int .i64 8)) B a zs cap) := H.out.set _ 3 _ (by omega)
        have K7 : Hid (Bk (w6.setCell ⟨P, 3, none⟩ (.int .i64 8)) w.heap.size (chrow 0 0 0 0)) := K.out.other _ 3 _ (by omega)
        have P7 : Hid (Bk (w6.setCell ⟨P, 3, none⟩ (.int .i64 8)) P (chrow 1 y T 8)) := PP.out.set 3 _ (by simp) rfl
        have e3 := PP.out.cell 3 _ rfl
        have ef := PP.out.free
        clear H K PP
        have p0 := K7.out.cell 0 _ rfl
        have r0 := P7.out.cell 0 _ rfl
        have p1 := K7.out.cell 1 _ rfl
        have r1 := P7.out.cell 1 _ rfl
        have p2 := K7.out.cell 2 _ rfl
        have r2 := P7.out.cell 2 _ rfl
        have p3 := K7.out.cell 3 _ rfl
        have r3 := P7.out.cell 3 _ rfl
        have pf := K7.out.free
        have H9 : Hid (CT w (((((w6.setCell ⟨P, 3, none⟩ (.int .i64 8)).setCell ⟨w.heap.size, 0, none⟩ (.int .i64 1)).setCell ⟨w.heap.size, 1, none⟩ (.int .i64 y)).setCell ⟨w.heap.size, 2, none⟩ (.int .i64 T)).setCell ⟨w.heap.size, 3, none⟩ (.int .i64 8)) B a zs cap) := ((((H7.out).set _ 0 _ (by omega)).set _ 1 _ (by omega)).set _ 2 _ (by omega)).set _ 3 _ (by omega)
        have K9 : Hid (Bk (((((w6.setCell ⟨P, 3, none⟩ (.int .i64 8)).setCell ⟨w.heap.size, 0, none⟩ (.int .i64 1)).setCell ⟨w.heap.size, 1, none⟩ (.int .i64 y)).setCell ⟨w.heap.size, 2, none⟩ (.int .i64 T)).setCell ⟨w.heap.size, 3, none⟩ (.int .i64 8)) (w.heap.size) (chrow 1 y T 8)) := ((((K7.out).set 0 (.int .i64 1) (by simp) (cs' := chrow 1 0 0 0) rfl).set 1 (.int .i64 y) (by simp) (cs' := chrow 1 y 0 0) rfl).set 2 (.int .i64 T) (by simp) (cs' := chrow 1 y T 0) rfl).set 3 (.int .i64 8) (by simp) (cs' := chrow 1 y T 8) rfl
        go_wp2
        clear p0 r0 p1 r1 p2 r2 p3 r3 pf
        revert H9 K9
        generalize (((((w6.setCell ⟨P, 3, none⟩ (.int .i64 8)).setCell ⟨w.heap.size, 0, none⟩ (.int .i64 1)).setCell ⟨w.heap.size, 1, none⟩ (.int .i64 y)).setCell ⟨w.heap.size, 2, none⟩ (.int .i64 T)).setCell ⟨w.heap.size, 3, none⟩ (.int .i64 8)) = Wf
        intro H9 K9
        have q0 := K9.out.cell 0 _ rfl
        have q1 := K9.out.cell 1 _ rfl
        have q2 := K9.out.cell 2 _ rfl
        have q3 := K9.out.cell 3 _ rfl
        exact bodyPost_ret (v := crw 1 y T 8) (by simp [results, Tryz.results101, go_sem, q0, q1, q2, q3]) rfl ⟨_, _, _, _, rfl, HOK.out, H9.out.cur, H9.out.turn⟩
theorem draw_rown (w : World) (B : Nat) (a : Option Addr) (zs : List Int) (cap : Nat) (n : Int) (hc : Cur w B a zs cap) (hn : n = 2 ∨ n = 3 ∨ n = 4) :
    Calls Tryz.prog 101 #[.pointer (some ⟨B, 0, none⟩), .int .i64 n] w fun e w' => ∃ k f t d : Int, e = .returned (crw k f t d) ∧ (chOk k f t d = true ∧ (0 ≤ f ∧ f < n) ∧ (0 ≤ t ∧ t < n)) ∧ Cur w' B a zs cap ∧ Turn B w w' := by
  rcases hn with rfl | rfl | rfl
  · exact draw_row2 w B a zs cap hc
  · exact draw_row3 w B a zs cap hc
  · exact draw_row4 w B a zs cap hc
end Go.Proofs.YtlomcdgfcocmmaaGreatDoor
