/-
  Many uses of a cache, one after another: the program's own function. Conditions: the shape is right, there are at most 2000 uses, which read as such.
-/
import Derived.Test.YtifgmgehnbkbjaaRows
import Derived.Test.YtifgmgehnbkbjaaCri
namespace Go.Proofs.Ytifgmgehnbkbjaa
open Go.ChangeShapes Go.WideShapes Go.ChangeAt Go.RowKit Go.Deep
set_option linter.unusedVariables false

theorem CV.free_cell {w W : World} {Rb lo n : Nat} {M L : Int} {D : Nat → List Wy} {hd : Nat → Nat} {bs : Nat → List Nat} {v : Value} {xs : List Ac} (h : CV w W Rb lo n M L D hd bs v xs) : w.heap.size < W.heap.size := h.box.lt
set_option maxHeartbeats 8000000 in
set_option maxRecDepth 100000 in
theorem impl_crun (n M L : Nat) (a : Option Addr) (cap N : Nat) (us : List Wy) (w : World) (hs : WSeg w a us) (hl : us.length = N) (hsh : shapeOk (n : Int) (M : Int) (L : Int) = true) (hn2 : N ≤ 2000) (xs : List Ac) (hy : CRunP n M L N us → xs = accC n M L us N) (hno : ¬ CRunP n M L N us → xs = []) :
    Calls Try.prog 16 #[shp n M L, .slice a N cap] w (APost w xs) := by
  have hp := shapeOk_parts hsh
  have hn16 : n ≤ 16 := by omega
  have hn1 : 1 ≤ n := by omega
  have HV : Hid ((1 ≤ n ∧ n ≤ 16) ∧ (4 ≤ L ∧ L ≤ 32) ∧ (1 ≤ M ∧ M ≤ 4)) := ⟨by omega, by omega, by omega⟩
  have hM1000 : M ≤ 1000 := by omega
  have HS : Hid (WSeg w a us) := hs
  have HL : Hid _ := hl
  have HSH : Hid _ := hsh
  have HY : Hid (CRunP n M L N us → xs = accC n M L us N) := hy
  have HNO : Hid (¬ CRunP n M L N us → xs = []) := hno
  have hb0 : Below w.heap.size w (w.alloc (shrow 25 n M L)) := (Below.refl _ _).alloc (Nat.le_refl _) _
  have HK0 : Hid (Bk (w.alloc (shrow 25 n M L)) w.heap.size #[.int .i64 n, .int .i64 M, .int .i64 L]) := Bk.new w _ 25 _ rfl
  have HB0 : Hid _ := hb0
  have hmk := run_make_heads n (by omega)
  have hngt : ¬ ((2000 : Int) < (N : Int)) := by omega
  clear hp hs hl hsh hy hno hb0
  go_enter Try.func16, Try.ntmps16
  go_wp2_with fail
  refine Calls.mono (impl_shok (n : Int) (M : Int) (L : Int) _) ?_
  rintro u w1 ⟨rfl, hb1⟩
  rw [HSH.out]
  have HK1 : Hid _ := HK0.out.below hb1
  have HB1 : Hid _ := HB0.out.trans (hb1.mono HB0.out.size)
  have s0 := HK1.out.cell 0 _ rfl
  clear hb1 HK0 HB0
  have hal : Below w1.heap.size w1 (w1.alloc (.cells (madeCells #[.pointer none] n) 84)) := (Below.refl _ _).alloc (Nat.le_refl _) _
  have HI : Hid (Below w.heap.size w (w1.alloc (.cells (madeCells #[.pointer none] n) 84)) ∧ Bk (w1.alloc (.cells (madeCells #[.pointer none] n) 84)) w.heap.size #[.int .i64 n, .int .i64 M, .int .i64 L] ∧ RV (w1.alloc (.cells (madeCells #[.pointer none] n) 84)) w1.heap.size (w1.heap.size + 1) n 0 noD (fun _ => 0) (fun _ => [])) := by
    refine ⟨HB1.out.trans (hal.mono HB1.out.size), HK1.out.below hal, ⟨by simp, by omega, fun j => by simp, fun i hi => ?_, fun i hi => absurd hi (by omega), fun i hi => absurd hi (by omega), fun i j hi => absurd hi (by omega), fun i hi => absurd hi (by omega)⟩⟩
    have := (World.rowIs_made w1 (.pointer none) n 84).cell hi
    exact ⟨_, this⟩
  have HRB : Hid (w.heap.size + 1 ≤ w1.heap.size) := HK1.out.lt
  clear hal
  go_wp2
  clear s0
  obtain ⟨W1, HW1⟩ : ∃ W1, Hid (W1 = w1.alloc (.cells (madeCells #[.pointer none] n) 84)) := ⟨_, rfl⟩
  rw [← HW1.out] at HI ⊢
  obtain ⟨Rb, HRb⟩ : ∃ Rb, Hid (w1.heap.size = Rb) := ⟨_, rfl⟩
  rw [HRb.out] at HI HRB ⊢
  go_loopw [28] (fun i wr => ∃ k : Nat, k ≤ n ∧ i = .int .i64 k ∧ Hid (Below w.heap.size w wr ∧ Bk wr w.heap.size #[.int .i64 n, .int .i64 M, .int .i64 L] ∧ ∃ hd bs, RV wr Rb (Rb + 1) n k noD hd bs)) (fun i _ => n - (intOf i).toNat)
  case atStart => exact ⟨0, by omega, rfl, HI.out.1, HI.out.2.1, _, _, HI.out.2.2⟩
  case round =>
    obtain ⟨k, hk, rfl, HR⟩ := hrel
    clear HI HW1 HRb HK1 HB1
    by_cases hkn : k < n
    · have hkn' : (k : Int) < (n : Int) := by omega
      have hal : Below wr.heap.size wr (wr.alloc (.cells #[] 87)) := (Below.refl _ _).alloc (Nat.le_refl _) _
      have HAL : Hid _ := hal
      clear hal
      go_wp2_with fail
      refine Calls.mono (row_of (some ⟨wr.heap.size, 0, none⟩) 0 [] _ (WSeg.nil _ _) (by simp)) ?_
      rintro u w5 ⟨h0, b0, rfl, hll, hlow, hb5⟩
      obtain ⟨hbw, hbox, hd, bs, hrv⟩ := HR.out
      have hb15 : Below wr.heap.size wr w5 := HAL.out.trans (hb5.mono HAL.out.size)
      have hrv5 := hrv.below hb15
      have hrlt := hrv.rlo
      have hRlt := hrv.lt
      obtain ⟨u9, bu⟩ := hrv5.room k hkn
      have bf := hrv5.free
      have hz : (wr.alloc (.cells #[] 87)).heap.size = wr.heap.size + 1 := by simp
      have HZ : Hid (Below w.heap.size w (w5.setCell ⟨Rb, k, none⟩ (.pointer (some ⟨h0, 0, none⟩))) ∧ Bk (w5.setCell ⟨Rb, k, none⟩ (.pointer (some ⟨h0, 0, none⟩))) w.heap.size #[.int .i64 n, .int .i64 M, .int .i64 L] ∧ ∃ hd bs, RV (w5.setCell ⟨Rb, k, none⟩ (.pointer (some ⟨h0, 0, none⟩))) Rb (Rb + 1) n (k + 1) noD hd bs) := by
        have hRw := HRB.out
        refine ⟨(hbw.trans (hb15.mono hbw.size)).setCell (p := ⟨Rb, k, none⟩) (by show _ ≤ Rb; omega) _, (hbox.below hb15).other _ _ _ (by omega), _, _, hrv5.put (S := wr.heap.size) hkn hll (fun x hx => by have := hlow x hx; rw [hz] at this; omega) (by omega) (fun i hi x hx => (hrv.ll i hi).lt x hx)⟩
      clear hll hlow hb5 hbw hbox hrv hb15 hrv5 HR HAL hz
      go_wp2
      go_roundw
      case rel => exact ⟨k + 1, by omega, by go_num, HZ.out.1, HZ.out.2.1, HZ.out.2.2⟩
      case measure => simp [intOf]; omega
    · obtain rfl : k = n := by omega
      clear hkn hmk
      obtain ⟨iA, hi1, hi2, hi3, hi4⟩ := infoA'
      have HIN : Hid _ := And.intro hi1 (And.intro hi2 (And.intro hi3 hi4))
      clear hi1 hi2 hi3 hi4
      have HI : Hid (∃ hd bs, CV w (wr.alloc (.cells #[] 36)) Rb (Rb + 1) k M L noD hd bs (.slice (some ⟨wr.heap.size, 0, none⟩) 0 0) []) := by
        obtain ⟨hbw, hbox, hd, bs, hrv⟩ := HR.out
        have hal : Below wr.heap.size wr (wr.alloc (.cells #[] 36)) := (Below.refl _ _).alloc (Nat.le_refl _) _
        have hlt := hrv.lt
        refine ⟨hd, bs, hbw.trans (hal.mono hbw.size), hbox.below hal, hrv.below hal, OwnA.low (OwnA.new wr _ rfl) hbox.lt, fun g e => ?_, ⟨HRB.out, by simp; omega⟩⟩
        simp only [Value.ownBlock, Option.some.injEq] at e
        subst e
        exact ⟨by omega, fun i hi hx => by have := (hrv.ll i hi).lt _ hx; omega⟩
      clear HR
      go_wp2
      obtain ⟨W2, HW2⟩ : ∃ W2, Hid (W2 = wr.alloc (.cells #[] 36)) := ⟨_, rfl⟩
      rw [← HW2.out] at HI ⊢
      go_loopw [7, 40] (fun v i wr => ∃ j : Nat, j ≤ N ∧ i = .int .i64 j ∧ Hid ((∀ i, i < j → inr (us.getD i wd).1 0 65535 = true) ∧ ∃ hd bs, CV w wr Rb (Rb + 1) k M L (runC k M L us j) hd bs v (accC k M L us j))) (fun _ i _ => N - (intOf i).toNat)
      case atStart => exact ⟨0, by omega, rfl, fun i hi => absurd hi (by omega), HI.out⟩
      case round =>
        obtain ⟨j, hj, rfl, HR⟩ := hrel
        clear HI HW2
        by_cases hjN : j < N
        rotate_left
        · obtain rfl : j = N := by omega
          have HF : Hid (xs = accC k M L us j) := HY.out ⟨HSH.out, hn2, HR.out.1⟩
          go_wp2
          go_ret
          obtain ⟨_, hd, bs, hcv⟩ := HR.out
          exact ⟨_, rfl, hcv.bel, by rw [HF.out]; exact OwnA.low hcv.out (by omega)⟩
        have hjN' : (j : Int) < (N : Int) := by omega
        obtain ⟨hin, hd, bs, hcv⟩ := HR.out
        obtain ⟨b1, o1, rfl, hbl1, e1, e2⟩ := WSeg.at (w := w) HS.out j (by rw [HL.out]; exact hjN)
        replace e1 := kept_cell' hcv.bel hbl1 e1
        replace e2 := kept_cell' hcv.bel hbl1 e2
        obtain ⟨za, HZA⟩ : ∃ za, Hid (inr (us.getD j wd).1 0 65535 = za) := ⟨_, rfl⟩
        have HST : Hid (inr (us.getD j wd).1 0 65535 = true → ∀ i, i < j + 1 → inr (us.getD i wd).1 0 65535 = true) := fun h i hi => by
          by_cases e : i = j
          · subst e; exact h
          · exact hin i (by omega)
        have HFN : Hid (inr (us.getD j wd).1 0 65535 = false → xs = []) := fun h => HNO.out (fun g => by have := g.2.2 j hjN; rw [h] at this; cases this)
        have HRC : Hid (runC k M L us (j + 1) = useD (hhA k L us j) M (ttA k L us j) (us.getD j wd).2 (runC k M L us j)) := rfl
        have HHT : Hid (accC k M L us (j + 1) = accC k M L us j ++ [(usedHit (runC k M L us j (hhA k L us j)) (ttA k L us j), false, usedBack M (runC k M L us j (hhA k L us j)) (ttA k L us j) (us.getD j wd).2)]) := accC_succ k M L us j
        have HHL : Hid _ := accC_len k M L us j
        have HHA : Hid (hhA k L us j = ((us.getD j wd).1.toNat / L) % k ∧ ttA k L us j = (((us.getD j wd).1.toNat / L / k : Nat) : Int)) := ⟨rfl, rfl⟩
        have HHK : Hid (hhA k L us j < k) := Nat.mod_lt _ (by omega)
        generalize us.getD j wd = x at e1 e2 HZA HST HFN HRC HHT HHA
        obtain ⟨z, qw⟩ := x
        simp only at e1 e2 HZA HST HFN HRC HHT HHA
        have hal : Below wr.heap.size wr (wr.alloc (.cells #[.int .i64 z, .bool qw] 32)) := (Below.refl _ _).alloc (Nat.le_refl _) _
        have HCV1 : Hid (CV w (wr.alloc (.cells #[.int .i64 z, .bool qw] 32)) Rb (Rb + 1) k M L (runC k M L us j) hd bs u7 (accC k M L us j)) := hcv.below hal
        have HU1 : Hid _ := Bk.new wr #[.int .i64 z, .bool qw] 32 wr.heap.size rfl
        have HUN : Hid (∀ i, i < k → wr.heap.size ∉ hd i :: bs i) := fun i hi c => by have := (hcv.rows.ll i hi).lt _ c; omega
        clear hbl1 hin hcv HR hal
        go_wp2_with fail
        refine (is_addr z _).mono ?_
        rintro u w4 ⟨rfl, rfl⟩
        rw [HZA.out]
        cases za
        · have HF : Hid (xs = []) := HFN.out HZA.out
          have HE : Hid (Below w.heap.size w ((wr.alloc (.cells #[.int .i64 z, .bool qw] 32)).alloc (.cells #[] 36)) ∧ OwnA ((wr.alloc (.cells #[.int .i64 z, .bool qw] 32)).alloc (.cells #[] 36)) w.heap.size (.slice (some ⟨wr.heap.size + 1, 0, none⟩) 0 0) []) := ⟨HCV1.out.bel.alloc HCV1.out.bel.size _, OwnA.low (OwnA.new _ (wr.heap.size + 1) (by simp)) (by have := HCV1.out.bel.size; simp at this; omega)⟩
          clear e1 e2
          go_wp2
          go_ret
          exact ⟨_, rfl, HE.out.1, by rw [HF.out]; exact HE.out.2⟩
        obtain ⟨m, rfl⟩ : ∃ m : Nat, z = (m : Int) := ⟨z.toNat, by have := of_inr HZA.out; omega⟩
        have HM : Hid (m ≤ 65535) := by have := of_inr HZA.out; show _ ≤ _; omega
        have HST2 : Hid _ := HST.out HZA.out
        have HHA2 : Hid (m / L % k = hhA k L us j ∧ ((m / L / k : Nat) : Int) = ttA k L us j) := ⟨HHA.out.1.symm, HHA.out.2.symm⟩
        generalize hhA k L us j = h at HRC HHT HHA2 HHA HHK
        generalize ttA k L us j = t at HRC HHT HHA2 HHA
        generalize runC k M L us j = D at HCV1 HRC HHT
        generalize accC k M L us j = hs at HCV1 HHT HHL
        clear e1 e2 HHA HST HFN
        have s0 := HCV1.out.box.cell 0 _ rfl
        have s1 := HCV1.out.box.cell 1 _ rfl
        have s2 := HCV1.out.box.cell 2 _ rfl
        go_wp2_with fail
        refine Calls.mono (home_any k L m (M : Int) _ HV.out.1 HV.out.2.1 HM.out) ?_
        rintro u w5 ⟨rfl, hb5⟩
        rw [HHA2.out.1, HHA2.out.2]
        have HCV5 : Hid (CV w w5 Rb (Rb + 1) k M L D hd bs u7 hs) := HCV1.out.below hb5
        have HU5 : Hid _ := HU1.out.below hb5
        have hhk : h < k := HHK.out
        have hhk' : (h : Int) < (k : Int) := by omega
        obtain ⟨qh, HQH⟩ : ∃ qh, Hid (usedHit (D h) t = qh) := ⟨_, rfl⟩
        obtain ⟨qb, HQB⟩ : ∃ qb, Hid (usedBack M (D h) t qw = qb) := ⟨_, rfl⟩
        rw [HQH.out, HQB.out] at HHT
        have r0 : w5.cell? ⟨Rb, h, none⟩ = some (.pointer (some ⟨hd h, 0, none⟩)) := HCV5.out.rows.cell h hhk
        have r1 : w5.cell? ⟨w.heap.size, 1, none⟩ = some (.int .i64 M) := HCV5.out.box.cell 1 _ rfl
        have r2 : w5.cell? ⟨wr.heap.size, 1, none⟩ = some (.bool qw) := HU5.out.cell 1 _ rfl
        clear hb5 s0 s1 s2 HCV1 HU1 hhk'
        have HUD : Hid ((fun i => if i = h then usedRow M (D h) t qw else D i) = useD h M t qw D) := by
          funext i
          unfold useD
          by_cases e : i = h
          · subst e; simp
          · rw [if_neg e, if_neg e]
        have HLL : Hid (LL w5.drew (hd h :: bs h) (wd :: D h)) := (HCV5.out.rows.ll h hhk).below (Below.refl _ _).drew
        have HCVd : Hid (CV w w5.drew Rb (Rb + 1) k M L D hd bs u7 hs) := HCV5.out.below (Below.refl _ _).drew
        have HUd : Hid _ := HU5.out.below (Below.refl _ _).drew
        have hhk' : (h : Int) < (k : Int) := by omega
        clear HU5
        go_wp2
        go_region_held_law (fun w' => w'.cell? ⟨Rb, h, none⟩ = some (.pointer (some ⟨hd h, 0, none⟩)) ∧ w'.cell? ⟨w.heap.size, 1, none⟩ = some (.int .i64 M) ∧ w'.cell? ⟨wr.heap.size, 1, none⟩ = some (.bool qw)) (first | exact ⟨r0, r1, r2⟩)
          (first | (go_at_call 61; refine Calls.mono (row_use (hd h) M (bs h) wd (D h) t qw _ HLL.out hM1000) ?_; rintro u w6 ⟨rfl, b6, hl6, hchg, hb6⟩; rw [HQH.out, HQB.out]; have HCV6 : Hid _ := HCVd.out.use hhk hchg hl6 hb6; have HU6 : Hid _ := HUd.out.chg hchg (HUN.out h hhk); replace r0 : w6.cell? ⟨Rb, h, none⟩ = some (.pointer (some ⟨hd h, 0, none⟩)) := HCV6.out.rows.cell h hhk; replace r1 : w6.cell? ⟨w.heap.size, 1, none⟩ = some (.int .i64 M) := HCV6.out.box.cell 1 _ rfl; replace r2 : w6.cell? ⟨wr.heap.size, 1, none⟩ = some (.bool qw) := HU6.out.cell 1 _ rfl; clear hl6 hchg hb6))
        rw [HUD.out, ← HRC.out] at HCV6
        have hal : Below w6.heap.size w6 (w6.alloc (.cells #[.bool qh, .bool false, .bool qb] 36)) := (Below.refl _ _).alloc (Nat.le_refl _) _
        have hown7 : (w6.alloc (.cells #[.bool qh, .bool false, .bool qb] 36)).ownsRow (w.heap.size + 1) 36 3 u7 hs.length (acCells hs) := World.ownsRow.alloc HCV6.out.out _
        have HBS : Hid (w.heap.size + 1 ≤ (w6.alloc (.cells #[.bool qh, .bool false, .bool qb] 36)).heap.size) := Nat.le_trans HCV6.out.box.lt hal.size
        have HZ : Hid (∀ (gg cap1 : Nat) (w9 : World), w9.ownsRow (w.heap.size + 1) 36 3 (.slice (some ⟨gg, 0, none⟩) (hs.length + 1) cap1) (hs.length + 1) (acCells hs ++ [.bool qh, .bool false, .bool qb]) → (w6.alloc (.cells #[.bool qh, .bool false, .bool qb] 36)).grownBy w9 u7.ownBlock → (u7.ownBlock = some gg ∨ gg = (w6.alloc (.cells #[.bool qh, .bool false, .bool qb] 36)).heap.size) → ∃ hd bs, CV w w9 Rb (Rb + 1) k M L (runC k M L us (j + 1)) hd bs (.slice (some ⟨gg, 0, none⟩) (hs.length + 1) cap1) (accC k M L us (j + 1))) := fun gg cap1 w9 h1 h2 h3 => by
          refine ⟨_, _, CV.push HCV6.out hal (by rw [HHT.out]; exact OwnA.snoc (x := (qh, false, qb)) h1) h2 ?_⟩
          rcases h3 with h3 | h3
          · exact .inl h3
          · exact .inr (by rw [h3]; rfl)
        have hsl : hs.length ≤ 2000 := by have := HHL.out; omega
        clear hal r0 r1 r2 HCV5 HCVd HLL
        go_wp2_with (at_builtin; (refine wpList_append_lies _ rfl (.tmp 69) (.tmp 73) 29 rfl (w.heap.size + 1) 36 iA (.agg #[.bool false, .bool false, .bool false]) 3 3 Try.underlying29 HIN.out.1 HIN.out.2.1 HIN.out.2.2.1 HIN.out.2.2.2 rfl (by omega) _ _ _ rfl hown7 _ 1 1 [.bool qh, .bool false, .bool qb] rfl rfl (news_acc _ (qh, false, qb) _ (by simp)) (one_acc (qh, false, qb)) (by omega) (by unfold maxLen; omega) (by omega) HBS.out _ rfl ?_; intro gg cap1 w9 hown1 hgrow hat hlt1; have HYY : Hid _ := HZ.out gg cap1 w9 hown1 hgrow hat; clear hown1 hgrow hat hlt1))
        go_roundw
        case rel => exact ⟨j + 1, by omega, by go_num, HST2.out, HYY.out⟩
        case measure => simp [intOf]; omega
end Go.Proofs.Ytifgmgehnbkbjaa
