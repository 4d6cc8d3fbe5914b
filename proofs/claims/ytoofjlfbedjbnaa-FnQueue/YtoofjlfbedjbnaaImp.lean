
/-
  The program's ChanPlay: what the plain functions say, in memory of its own. Conditions: the ops read as pairs, at most 1048576 of them.
-/
import Derived.Test.YtoofjlfbedjbnaaRows
import Derived.Test.YtoofjlfbedjbnaaDou
import Derived.Deep.Cut
import Derived.Deep.RegionHeldLaw
namespace Go.Proofs.Ytoofjlfbedjbnaa
open Go.ChangeShapes Go.WideShapes Go.ChangeAt Go.RowKit Go.Deep
set_option linter.unusedVariables false

theorem infoSD : (Try.prog.info? 78).map (fun i => (i.zero, i.size, i.bytes)) = some (some (.agg #[.int .i64 0, .int .u32 0]), 2, 16) := by kernel_rfl
theorem run_make_sds (n : Nat) (hn : n ≤ 1048576) (w : World) : (Instr.makeSlice 62 (.int .i64 (n : Int)) (.int .i64 (n : Int))).run Try.prog w = .ok (.slice (some ⟨w.heap.size, 0, none⟩) n n) (w.alloc (.cells (madeCells #[.int .i64 0, .int .u32 0] (n * 2)) 78)) := by
  obtain ⟨i, hi, hzz⟩ := Option.map_eq_some_iff.1 infoSD
  simp only [Prod.mk.injEq] at hzz
  obtain ⟨hz, hs, hb⟩ := hzz
  have := run_make (P := Try.prog) w 62 78 i _ Try.underlying62 hi hz .i64 .i64 n n (by omega) (Int.le_refl _) (by rw [hb]; omega) (by omega)
  rw [hs, Int.toNat_natCast] at this
  exact this
theorem DuBlk.betw {w w' : World} {B off n m lo hi : Nat} {xs : List Cp} (h : DuBlk w B off n m xs) (hb : Betw lo hi w w') (ho : B < lo ∨ hi ≤ B) : DuBlk w' B off n m xs :=
  ⟨Nat.lt_of_lt_of_le h.lt hb.size, fun j => (hb.frozen (p := ⟨B, j, none⟩) h.lt ho).trans (h.free j), fun i hi' j hj => by
    obtain ⟨u, hu⟩ := h.room i hi' j hj
    exact ⟨u, (hb.cell (p := ⟨B, _, none⟩) h.lt ho).trans hu⟩, fun i hi' => (h.done i hi').of (fun j => hb.cell (p := ⟨B, j, none⟩) h.lt ho)⟩
theorem DuBlk.made' (w : World) (n : Nat) (T : TypeId) (xs : List Cp) (B : Nat) (hB : B = w.heap.size) : DuBlk (w.alloc (.cells (madeCells #[.int .i64 0, .int .u32 0] (n * 2)) T)) B 0 n 0 xs := by
  subst hB
  exact DuBlk.made w n T xs
/-- A run in memory, its answers so far. -/
structure RP (w wr : World) (bC bS n m : Nat) (k f t d : Int) (ops : List Cp) : Prop where
  gb : Below w.heap.size w wr
  rs : ∃ a1 c1 a2 c2, RS wr bC bS k f t d (stN k f t d ops m) a1 c1 a2 c2
  du : DuBlk wr bS 0 n m (sdL k f t d ops n)
  hC : w.heap.size ≤ bC
  hS : w.heap.size ≤ bS
  ne : bC ≠ bS
set_option maxRecDepth 20000 in
set_option maxHeartbeats 1000000 in
theorem impl_play (k f t d : Int) (a : Option Addr) (n c : Nat) (ops : List Cp) (w : World) (hs : PSeg w a ops) (hl : ops.length = n) (hn : n ≤ 1048576) :
    Calls Try.prog 47 #[crw k f t d, .slice a n c] w fun e w' => ∃ a' c', e = .returned (.slice a' (plyF k f t d ops).length c') ∧ Below w.heap.size w w' ∧ PI w' w.heap.size w'.heap.size a' (plyF k f t d ops) := by
  have HB : Hid (Below w.heap.size w (w.alloc (.cells (crow k f t d) 25))) := (Below.refl _ w).alloc (Nat.le_refl _) _
  have HK : Hid (Bk (w.alloc (.cells (crow k f t d) 25)) w.heap.size (crow k f t d)) := Bk.new w _ _ _ rfl
  have HS : Hid (PSeg w a ops) := hs
  have HL : Hid (ops.length = n) := hl
  have hmk := run_make_sds n hn
  clear hs hl
  obtain ⟨q1, HQ1⟩ : ∃ q, Hid (chOk k f t d = q) := ⟨_, rfl⟩
  obtain ⟨q2, HQ2⟩ : ∃ q : Bool, Hid (q = false ↔ kdsOk ops) := by
    by_cases g : kdsOk ops
    · exact ⟨false, (⟨fun _ => g, fun _ => rfl⟩ : (false = false ↔ kdsOk ops))⟩
    · exact ⟨true, (⟨fun h => (by cases h), fun h => absurd h g⟩ : (true = false ↔ kdsOk ops))⟩
  have HE0 : Hid ((q1 = false ∨ ¬ n ≤ 1000 ∨ q2 = true) → plyF k f t d ops = []) := fun g => by
    unfold plyF
    refine if_neg fun ⟨g1, g2, g3⟩ => ?_
    rcases g with g | g | g
    · rw [← HQ1.out, g1] at g; cases g
    · exact g (by rw [← HL.out]; exact g2)
    · rw [HQ2.out.2 g3] at g; cases g
  have HE1 : Hid (q1 = true → n ≤ 1000 → q2 = false → plyF k f t d ops = sdL k f t d ops n) := fun g1 g2 g3 => by
    unfold plyF
    rw [if_pos ⟨HQ1.out.trans g1, by rw [HL.out]; exact g2, HQ2.out.1 g3⟩, HL.out]
  obtain ⟨ps, HPS⟩ : ∃ p, Hid (plyF k f t d ops = p) := ⟨_, rfl⟩
  rw [HPS.out] at HE0 HE1 ⊢
  go_enter Try.func47, Try.ntmps47
  go_wp2_with fail
  refine (impl_chok k f t d q1 _ HQ1).mono ?_
  rintro x w1 ⟨rfl, hb1⟩
  have HB1 : Hid (Below w.heap.size w w1) := HB.out.trans (hb1.mono HB.out.size)
  have K1 : Hid (Bk w1 w.heap.size (crow k f t d)) := HK.out.below hb1
  clear HB HK hb1 HQ1
  cases q1
  · have e : ps = [] := HE0.out (.inl rfl)
    subst e
    have hb := HB1.out.alloc HB1.out.size (.cells #[] 78)
    go_wp2
    go_ret
    exact ⟨_, _, rfl, hb, fun h => absurd h (by simp)⟩
  by_cases h1000 : (1000 : Int) < (n : Int)
  · have e : ps = [] := HE0.out (.inr (.inl (by omega)))
    subst e
    have hb := HB1.out.alloc HB1.out.size (.cells #[] 78)
    go_wp2
    go_ret
    exact ⟨_, _, rfl, hb, fun h => absurd h (by simp)⟩
  go_wp2_with fail
  refine (impl_contains a n c ops q2 _ (HS.out.below HB1.out) HL.out hn HQ2).mono ?_
  rintro x w2 ⟨rfl, hb2⟩
  have HB2 : Hid (Below w.heap.size w w2) := HB1.out.trans (hb2.mono HB1.out.size)
  have K2 : Hid (Bk w2 w.heap.size (crow k f t d)) := K1.out.below hb2
  clear HB1 K1 hb2
  cases q2
  rotate_left
  · have e : ps = [] := HE0.out (.inr (.inr rfl))
    subst e
    have hb := HB2.out.alloc HB2.out.size (.cells #[] 78)
    go_wp2
    go_ret
    exact ⟨_, _, rfl, hb, fun h => absurd h (by simp)⟩
  have e : ps = sdL k f t d ops n := HE1.out (by first | rfl | trivial) (by omega) (by first | rfl | trivial)
  subst e
  have HKD : Hid (kdsOk ops) := HQ2.out.1 (by first | rfl | trivial)
  clear HE0 HE1 HQ2 HPS
  have g0 : w2.cell? ⟨w.heap.size, 0, none⟩ = some (.int .i64 k) := K2.out.cell 0 _ rfl
  have g1 : w2.cell? ⟨w.heap.size, 1, none⟩ = some (.int .i64 f) := K2.out.cell 1 _ rfl
  have g2 : w2.cell? ⟨w.heap.size, 2, none⟩ = some (.int .i64 t) := K2.out.cell 2 _ rfl
  have g3 : w2.cell? ⟨w.heap.size, 3, none⟩ = some (.int .i64 d) := K2.out.cell 3 _ rfl
  go_wp2_with fail
  go_cut [5, 6] from 9 (fun s5 s6 wc => ∃ bC bS, s5 = Value.pointer (some ⟨bC, 0, none⟩) ∧ s6 = Value.slice (some ⟨bS, 0, none⟩) n n ∧ RP w wc bC bS n 0 k f t d ops)
  case first =>
    go_region_held_law (fun w' => w'.cell? ⟨w.heap.size, 0, none⟩ = some (.int .i64 k) ∧ w'.cell? ⟨w.heap.size, 1, none⟩ = some (.int .i64 f) ∧ w'.cell? ⟨w.heap.size, 2, none⟩ = some (.int .i64 t) ∧ w'.cell? ⟨w.heap.size, 3, none⟩ = some (.int .i64 d)) (first | with_reducible exact ⟨g0, g1, g2, g3⟩ | with_reducible exact ⟨dr_c g0, dr_c g1, dr_c g2, dr_c g3⟩ | with_reducible exact ⟨al_c _ g0, al_c _ g1, al_c _ g2, al_c _ g3⟩ | with_reducible exact ⟨al_c _ (dr_c g0), al_c _ (dr_c g1), al_c _ (dr_c g2), al_c _ (dr_c g3)⟩ | with_reducible exact ⟨dr_c (al_c _ g0), dr_c (al_c _ g1), dr_c (al_c _ g2), dr_c (al_c _ g3)⟩ | with_reducible exact ⟨al_c _ (al_c _ g0), al_c _ (al_c _ g1), al_c _ (al_c _ g2), al_c _ (al_c _ g3)⟩ | with_reducible exact ⟨al_c _ (al_c _ (dr_c g0)), al_c _ (al_c _ (dr_c g1)), al_c _ (al_c _ (dr_c g2)), al_c _ (al_c _ (dr_c g3))⟩ | with_reducible exact ⟨al_c _ (dr_c (al_c _ g0)), al_c _ (dr_c (al_c _ g1)), al_c _ (dr_c (al_c _ g2)), al_c _ (dr_c (al_c _ g3))⟩ | with_reducible exact ⟨dr_c (al_c _ (al_c _ g0)), dr_c (al_c _ (al_c _ g1)), dr_c (al_c _ (al_c _ g2)), dr_c (al_c _ (al_c _ g3))⟩) (fail)
    all_goals
      clear g0 g1 g2 g3
      go_wp2_with fail
      go_meet
      have hz2 := HB2.out.size
      exact ⟨_, _, rfl, rfl, ⟨(by repeat (first | exact HB2.out | refine Below.drew ?_ | refine Below.alloc ?_ (by first | exact HB2.out.size | (have := HB2.out.size; simp; omega)) _)), ⟨none, 0, none, 0, (by repeat (first | exact Bk.new _ _ _ _ rfl | (refine Bk.new _ _ _ _ ?_; simp; done) | refine Bk.alloc ?_ _ | refine Bk.dr ?_)), SegN.nil _ _ _ _, SegN.nil _ _ _ _, Nat.le_refl _⟩, (by first | (refine DuBlk.below (DuBlk.made' _ n 78 _ _ ?_) ((Below.refl _ _).drew); simp; done) | (refine DuBlk.below (DuBlk.below (DuBlk.made' _ n 78 _ _ ?_) ((Below.refl _ _).alloc (Nat.le_refl _) _)) ((Below.refl _ _).drew); first | rfl | (simp; done))), by omega, by omega, by omega⟩⟩
  case rest =>
  obtain ⟨bC, bS, rfl, rfl, hrp⟩ := hcut
  have HR0 : Hid (RP w wc bC bS n 0 k f t d ops) := hrp
  clear hrp g0 g1 g2 g3 hmk HB2 K2
  go_wp2
  go_loopw [30] (fun i wr => ∃ m : Nat, m ≤ n ∧ i = .int .i64 m ∧ Hid (RP w wr bC bS n m k f t d ops)) (fun i _ => n - (intOf i).toNat)
  case atStart => exact ⟨0, by omega, rfl, HR0.out⟩
  case round =>
    obtain ⟨m, hm, rfl, HR⟩ := hrel
    by_cases hlt : m < n
    · have hlt' : (m : Int) < (n : Int) := by omega
      obtain ⟨b1, o1, rfl, hbl1, p1⟩ := PSeg.at (w := w) HS.out m (by have := HL.out; omega)
      replace p1 := p1.of (w' := wr) (fun i => HR.out.gb.cell (p := ⟨b1, i, none⟩) hbl1)
      obtain ⟨p, HP⟩ : ∃ p, Hid (ops.getD m cp0 = p) := ⟨_, rfl⟩
      have HKM : Hid (0 ≤ p.1 ∧ p.1 ≤ 3) := by rw [← HP.out]; exact HKD.out m (by have := HL.out; omega)
      rw [HP.out] at p1
      obtain ⟨q0, q1⟩ := p1
      obtain ⟨x1, x2⟩ := p
      simp only at q0 q1
      obtain ⟨y, HY⟩ : ∃ y, Hid ((stpF k f t d (stN k f t d ops m) (x1, x2)).2 = y) := ⟨_, rfl⟩
      have DO : Hid (Calls Try.prog 76 #[.pointer (some ⟨bC, 0, none⟩), cpv x1 x2] (wr.alloc (.cells #[.int .i64 x1, .int .u32 x2] 76)) fun e w' => e = .returned (cpv y.1 y.2) ∧ DuBlk w' bS 0 n m (sdL k f t d ops n) ∧ Below w.heap.size w w' ∧ ∃ a1' c1' a2' c2', RS w' bC bS k f t d (stN k f t d ops (m + 1)) a1' c1' a2' c2') := by
        obtain ⟨a1, c1, a2, c2, hrs⟩ := HR.out.rs
        have hal : Below wr.heap.size wr (wr.alloc (.cells #[.int .i64 x1, .int .u32 x2] 76)) := (Below.refl _ _).alloc (Nat.le_refl _) _
        have hd := HR.out.du.below hal
        refine (impl_do bC bS k f t d _ a1 c1 a2 c2 (x1, x2) _ (hrs.below hal) hd.lt (few_stN k f t d ops m) HKM.out.1 HKM.out.2).mono ?_
        rintro e w' ⟨he, hb, hx⟩
        have hne := HR.out.ne
        have hg := HR.out.gb.trans (hal.mono HR.out.gb.size)
        refine ⟨by rw [he, HY.out], hd.betw hb (by omega), hg.trans (hb.below HR.out.hC hg.size), ?_⟩
        have e2 : stN k f t d ops (m + 1) = (stpF k f t d (stN k f t d ops m) (x1, x2)).1 := by rw [← HP.out]; rfl
        rw [e2]
        exact hx
      have HYS : Hid (sdN k f t d ops m = y) := by rw [← HY.out, ← HP.out]; exact rfl
      clear hbl1 HY
      obtain ⟨y1, y2⟩ := y
      go_wp2_with fail
      refine DO.out.mono ?_
      rintro u w5 ⟨rfl, hd5, hb5, hx5⟩
      obtain ⟨u1, hu1⟩ := hd5.room m hlt 0 (by omega)
      obtain ⟨u2, hu2⟩ := hd5.room m hlt 1 (by omega)
      have hf := hd5.free
      have hd6 := hd5.put hlt y1 y2 (by rw [sdL_at k f t d ops n m hlt]; exact HYS.out)
      have tb : Betw bS (bS + 1) w5 ((w5.setCell ⟨bS, 0 + m * 2, none⟩ (.int .i64 y1)).setCell ⟨bS, 0 + m * 2 + 1, none⟩ (.int .u32 y2)) := ((Betw.refl bS (bS + 1) w5).setCell (p := ⟨bS, 0 + m * 2, none⟩) (Nat.le_refl _) (Nat.lt_succ_self _) _).setCell (p := ⟨bS, 0 + m * 2 + 1, none⟩) (Nat.le_refl _) (Nat.lt_succ_self _) _
      have HR6 : Hid (RP w ((w5.setCell ⟨bS, 0 + m * 2, none⟩ (.int .i64 y1)).setCell ⟨bS, 0 + m * 2 + 1, none⟩ (.int .u32 y2)) bC bS n (m + 1) k f t d ops) := ⟨hb5.trans (tb.below HR.out.hS hb5.size), by obtain ⟨a1', c1', a2', c2', g⟩ := hx5; exact ⟨a1', c1', a2', c2', g.said tb HR.out.ne⟩, hd6, HR.out.hC, HR.out.hS, HR.out.ne⟩
      rw [Nat.zero_add] at hu1 hu2 HR6
      rw [Nat.add_zero] at hu1
      have hv2 : (w5.setCell ⟨bS, m * 2, none⟩ (.int .i64 y1)).cell? ⟨bS, m * 2 + 1, none⟩ = some u2 := by rw [World.cell?_setCell_other _ _ _ _ (by simp)]; exact hu2
      clear hd5 hb5 hx5 hd6 tb HR DO q0 q1
      go_wp2
      go_roundw
      case rel => exact ⟨m + 1, by omega, by go_num, HR6⟩
      case measure => simp [intOf]; omega
    · obtain rfl : m = n := by omega
      go_wp2
      go_ret
      have hd := HR.out.du
      refine ⟨_, _, by rw [sdL_len]; rfl, HR.out.gb, hd.pi (sdL_len _ _ _ _ _ _) _ _ HR.out.hS hd.lt⟩
end Go.Proofs.Ytoofjlfbedjbnaa
