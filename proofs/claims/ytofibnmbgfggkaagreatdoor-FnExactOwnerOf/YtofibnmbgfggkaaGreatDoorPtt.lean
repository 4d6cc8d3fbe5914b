
/-
  Lists of partitions: the copies that the laws make, their likeness and their measure. Conditions: lengths are at most 1048576 where a copy is made.
-/
import Derived.Test.YtofibnmbgfggkaaGreatDoorBas
import Derived.Test.YtofibnmbgfggkaaGreatDoorPts
import Derived.Deep.RegionHeld3
import Derived.Deep.RegionHeldLaw
import Derived.BigQuiet
import Derived.Lib.SmallJoins
namespace Go.Proofs.YtofibnmbgfggkaaGreatDoor
open Go.ChangeShapes Go.WideShapes Go.ChangeAt Go.RowKit Go.Deep Go.Joins
set_option linter.unusedVariables false

theorem rw_info : (Tryz.prog.info? 73).map (fun i => (i.zero, i.size, i.bytes)) = some (some (.agg #[.string ByteArray.empty, .int .i64 0, .int .i64 0, .int .i64 0, .slice none 0 0]), 5, 64) := by kernel_rfl
theorem rw_make (n : Nat) (hn : n ≤ 1048576) (w : World) : (Instr.makeSlice 36 (.int .i64 (n : Int)) (.int .i64 (n : Int))).run Tryz.prog w = .ok (.slice (some ⟨w.heap.size, 0, none⟩) n n) (w.alloc (.cells (madeCells #[.string ByteArray.empty, .int .i64 0, .int .i64 0, .int .i64 0, .slice none 0 0] (n * 5)) 73)) := by
  obtain ⟨i, hi, hzz⟩ := Option.map_eq_some_iff.1 rw_info
  simp only [Prod.mk.injEq] at hzz
  obtain ⟨hz, hs, hb⟩ := hzz
  have := run_make (P := Tryz.prog) w 36 73 i _ Tryz.underlying36 hi hz .i64 .i64 n n (by omega) (Int.le_refl _) (by rw [hb]; omega) (by omega)
  rw [hs, Int.toNat_natCast] at this
  exact this
/-- The cells of the first m partitions, and of one more. -/
def more (Y : Nat → Rw) (m : Nat) (y : Rw) : Nat → Rw := fun i => if i = m then y else Y i
theorem more_at (Y : Nat → Rw) (m : Nat) (y : Rw) : more Y m y m = y := by simp [more]
theorem more_lt (Y : Nat → Rw) (m : Nat) (y : Rw) (i : Nat) (h : i < m) : more Y m y i = Y i := by unfold more; rw [if_neg (by omega)]
set_option maxRecDepth 20000 in
set_option maxHeartbeats 4000000 in
theorem to_parts (a : Option Addr) (cap n : Nat) (ps : List Pt) (Y : Nat → Rw) (w : World) (hs : PSegL 0 w a n ps Y) (hn : n ≤ 1048576) (hw : ∀ i, i < n → (Y i).wn ≤ 1048576) :
    Calls Tryz.prog 31 #[.slice a n cap] w fun e w' => e = .returned (.slice (some ⟨w.heap.size, 0, none⟩) n n) ∧ Below w.heap.size w w' ∧ ∃ Y', PSegL w.heap.size w' (some ⟨w.heap.size, 0, none⟩) n ps Y' := by
  have hmk := rw_make n hn
  have HS : Hid (PSegL 0 w a n ps Y) := hs
  have HW : Hid (∀ i, i < n → (Y i).wn ≤ 1048576) := hw
  clear hs hw
  go_enter Tryz.func31, Tryz.ntmps31
  go_wp2
  go_loopw [4] (fun i wr => ∃ k : Nat, k ≤ n ∧ i = .int .i64 k ∧ Hid (Below w.heap.size w wr ∧ ∃ Z : Nat → Rw, GBlk 5 wr w.heap.size n k (fun i => rwL (Z i)) ∧ ∀ i, i < k → Good (w.heap.size + 1) wr (Z i) (ps.getD i pt0))) (fun i _ => n - (intOf i).toNat)
  case atStart => exact ⟨0, by omega, rfl, (Below.refl _ _).alloc (Nat.le_refl _) _, Y, GBlk.made 5 w n 73 _ _ rfl, fun i hi => absurd hi (by omega)⟩
  case round =>
    obtain ⟨k, hk, rfl, HB⟩ := hrel
    by_cases hlt : k < n
    · have hlt' : (k : Int) < (n : Int) := by omega
      obtain ⟨b1, o1, rfl, hbl1, p1⟩ := HS.out.1.seg.at k hlt
      obtain ⟨hb, Z, hZ, hgd⟩ := HB.out
      replace p1 := p1.of (w' := wr) (fun i => hb.cell (p := ⟨b1, i, none⟩) hbl1)
      have HTP : Hid (∀ X, Below w.heap.size w X → Calls Tryz.prog 57 #[rwV (Y k)] X fun e w' => ∃ y', e = .returned (rwV y') ∧ Below X.heap.size X w' ∧ Good X.heap.size w' y' (ps.getD k pt0)) := fun X hX => to_part (Y k) (ps.getD k pt0) X ((HS.out.2 k hlt).below hX) (HW.out k hlt)
      obtain ⟨c0, c1, c2, c3, c4⟩ := rw_cells p1
      generalize Y k = y at c0 c1 c2 c3 c4 HTP
      obtain ⟨nm, en, kd, ms, wa, wn, wc⟩ := y
      simp only [rwV] at c0 c1 c2 c3 c4 HTP
      have HZ : Hid (GBlk 5 wr w.heap.size n k (fun i => rwL (Z i)) ∧ ∀ i, i < k → Good (w.heap.size + 1) wr (Z i) (ps.getD i pt0)) := ⟨hZ, hgd⟩
      have HBB : Hid (Below w.heap.size w wr) := hb
      clear hbl1 p1 hZ hgd hb HB
      go_wp2_with fail
      refine (HTP.out _ HBB.out).mono ?_
      rintro u w2 ⟨y', rfl, hbb, hgy⟩
      obtain ⟨nm, en, kd, ms, wa, wn, wc⟩ := y'
      have hp2 := HZ.out.1.below hbb
      have hb2 := HBB.out.trans (hbb.mono HBB.out.size)
      obtain ⟨u1, hu1⟩ := hp2.room k hlt 0 (by omega)
      obtain ⟨u2, hu2⟩ := hp2.room k hlt 1 (by omega)
      obtain ⟨u3, hu3⟩ := hp2.room k hlt 2 (by omega)
      obtain ⟨u4, hu4⟩ := hp2.room k hlt 3 (by omega)
      obtain ⟨u5, hu5⟩ := hp2.room k hlt 4 (by omega)
      have hf := hp2.free
      have hsz : w.heap.size + 1 ≤ wr.heap.size := HZ.out.1.lt
      have HB3 : Hid (Below w.heap.size w (setAll w2 w.heap.size (k * 5) [.string nm, .int .i64 en, .int .i64 kd, .int .i64 ms, .slice wa wn wc]) ∧ ∃ Z' : Nat → Rw, GBlk 5 (setAll w2 w.heap.size (k * 5) [.string nm, .int .i64 en, .int .i64 kd, .int .i64 ms, .slice wa wn wc]) w.heap.size n (k + 1) (fun i => rwL (Z' i)) ∧ ∀ i, i < k + 1 → Good (w.heap.size + 1) (setAll w2 w.heap.size (k * 5) [.string nm, .int .i64 en, .int .i64 kd, .int .i64 ms, .slice wa wn wc]) (Z' i) (ps.getD i pt0)) := by
        refine ⟨setAll_below (Nat.le_refl _) _ _ hb2, more Z k ⟨nm, en, kd, ms, wa, wn, wc⟩, ?_, fun i hi => ?_⟩
        · exact (hp2.congr (Y := fun i => rwL (more Z k ⟨nm, en, kd, ms, wa, wn, wc⟩ i)) (fun i hi => by simp only [more_lt Z k _ i hi])).put hlt [.string nm, .int .i64 en, .int .i64 kd, .int .i64 ms, .slice wa wn wc] rfl (by simp only [more_at]; rfl) (fun _ _ => rfl)
        · by_cases e : i = k
          · subst e
            rw [more_at]
            exact (hgy.wide hsz).setAll _ (by omega)
          · rw [more_lt _ _ _ _ (by omega)]
            exact ((HZ.out.2 i (by omega)).below hbb).setAll _ (by omega)
      rw [Nat.add_zero] at hu1
      have hv2 : (w2.setCell ⟨w.heap.size, k * 5, none⟩ (.string nm)).cell? ⟨w.heap.size, k * 5 + 1, none⟩ = some u2 := by rw [World.cell?_setCell_other _ _ _ _ (by simp)]; exact hu2
      have hv3 : ((w2.setCell ⟨w.heap.size, k * 5, none⟩ (.string nm)).setCell ⟨w.heap.size, k * 5 + 1, none⟩ (.int .i64 en)).cell? ⟨w.heap.size, k * 5 + 2, none⟩ = some u3 := by rw [World.cell?_setCell_other _ _ _ _ (by simp), World.cell?_setCell_other _ _ _ _ (by simp)]; exact hu3
      have hv4 : (((w2.setCell ⟨w.heap.size, k * 5, none⟩ (.string nm)).setCell ⟨w.heap.size, k * 5 + 1, none⟩ (.int .i64 en)).setCell ⟨w.heap.size, k * 5 + 2, none⟩ (.int .i64 kd)).cell? ⟨w.heap.size, k * 5 + 3, none⟩ = some u4 := by rw [World.cell?_setCell_other _ _ _ _ (by simp), World.cell?_setCell_other _ _ _ _ (by simp), World.cell?_setCell_other _ _ _ _ (by simp)]; exact hu4
      have hv5 : ((((w2.setCell ⟨w.heap.size, k * 5, none⟩ (.string nm)).setCell ⟨w.heap.size, k * 5 + 1, none⟩ (.int .i64 en)).setCell ⟨w.heap.size, k * 5 + 2, none⟩ (.int .i64 kd)).setCell ⟨w.heap.size, k * 5 + 3, none⟩ (.int .i64 ms)).cell? ⟨w.heap.size, k * 5 + 4, none⟩ = some u5 := by rw [World.cell?_setCell_other _ _ _ _ (by simp), World.cell?_setCell_other _ _ _ _ (by simp), World.cell?_setCell_other _ _ _ _ (by simp), World.cell?_setCell_other _ _ _ _ (by simp)]; exact hu5
      clear hbb hp2 hb2 HZ HBB HTP c0 c1 c2 c3 c4 hgy
      go_wp2
      go_roundw
      case rel => exact ⟨k + 1, by omega, by go_num, HB3⟩
      case measure => simp [intOf]; omega
    · obtain rfl : k = n := by omega
      go_wp2
      go_ret
      obtain ⟨hb, Z, hZ, hgd⟩ := HB.out
      exact ⟨rfl, hb, Z, hZ.segL _ (Nat.le_refl _), fun i hi => Good.wide (lo' := w.heap.size) (hgd i hi) (by omega)⟩
set_option maxRecDepth 20000 in
set_option maxHeartbeats 4000000 in
theorem eq_part (y z : Rw) (p : Pt) (w : World) (hy : Good 0 w y p) (hz : Good 0 w z p) (hn : y.wn ≤ 1048576) :
    Calls Tryz.prog 61 #[rwV y, rwV z] w fun e w' => e = .returned (.bool true) ∧ Below w.heap.size w w' := by
  obtain ⟨nm, en, kd, ms, wa, wn, wc⟩ := y
  obtain ⟨nm', en', kd', ms', va, vn, vc⟩ := z
  have e1 : nm' = nm := hz.nm.trans hy.nm.symm
  have e2 : en' = en := hz.en.trans hy.en.symm
  have e3 : kd' = kd := hz.kd.trans hy.kd.symm
  have e4 : ms' = ms := hz.ms.trans hy.ms.symm
  have e5 : vn = wn := by have h1 : p.ws.length = vn := hz.ln; have h2 : p.ws.length = wn := hy.ln; omega
  subst e1 e2 e3 e4 e5
  simp only [rwV]
  have HT : Hid (∀ X, Below w.heap.size w X → Calls Tryz.prog 82 #[.slice wa vn wc, .slice va vn vc] X fun e w' => e = .returned (.bool true) ∧ Below X.heap.size X w') := fun X hX => wi_eqs wa va wc vc vn p.ws X (hy.sg.below hX).seg (hz.sg.below hX).seg hn
  clear hy hz hn
  have HB0 : Hid (Below w.heap.size w ((w.alloc (.cells #[.string nm', .int .i64 en', .int .i64 kd', .int .i64 ms', .slice wa vn wc] 73)).alloc (.cells #[.string nm', .int .i64 en', .int .i64 kd', .int .i64 ms', .slice va vn vc] 73))) := ((Below.refl _ _).alloc (Nat.le_refl _) _).alloc (by simp) _
  have KA0 : Hid (Bk ((w.alloc (.cells #[.string nm', .int .i64 en', .int .i64 kd', .int .i64 ms', .slice wa vn wc] 73)).alloc (.cells #[.string nm', .int .i64 en', .int .i64 kd', .int .i64 ms', .slice va vn vc] 73)) w.heap.size #[.string nm', .int .i64 en', .int .i64 kd', .int .i64 ms', .slice wa vn wc]) := (Bk.new w _ _ _ rfl).alloc _
  have KC0 : Hid (Bk ((w.alloc (.cells #[.string nm', .int .i64 en', .int .i64 kd', .int .i64 ms', .slice wa vn wc] 73)).alloc (.cells #[.string nm', .int .i64 en', .int .i64 kd', .int .i64 ms', .slice va vn vc] 73)) (w.heap.size + 1) #[.string nm', .int .i64 en', .int .i64 kd', .int .i64 ms', .slice va vn vc]) := Bk.new _ _ _ _ (by simp)
  go_enter Tryz.func61, Tryz.ntmps61
  go_wp2_with fail
  refine (pol_eq kd' ms' _).mono ?_
  rintro e1 w1 ⟨rfl, hb1⟩
  have HB1 : Hid (Below w.heap.size w w1) := HB0.out.trans (hb1.mono HB0.out.size)
  have a4 : w1.cell? ⟨w.heap.size, 4, none⟩ = some (.slice wa vn wc) := (KA0.out.below hb1).cell 4 _ rfl
  have b4 : w1.cell? ⟨w.heap.size + 1, 4, none⟩ = some (.slice va vn vc) := (KC0.out.below hb1).cell 4 _ rfl
  clear hb1 HB0 KA0 KC0
  go_wp2_with fail
  refine (HT.out _ HB1.out).mono ?_
  rintro e2 w2 ⟨rfl, hb2⟩
  have HB2 : Hid (Below w.heap.size w w2) := HB1.out.trans (hb2.mono HB1.out.size)
  clear hb2 a4 b4
  go_wp2
  go_ret
  exact ⟨rfl, HB2.out⟩
set_option maxRecDepth 20000 in
set_option maxHeartbeats 4000000 in
theorem eq_parts (a b : Option Addr) (ca cb n : Nat) (ps : List Pt) (Y Z : Nat → Rw) (w : World) (ha : PSegL 0 w a n ps Y) (hb : PSegL 0 w b n ps Z) (hn : n ≤ 1048576) (hw : ∀ i, i < n → (Y i).wn ≤ 1048576) :
    Calls Tryz.prog 38 #[.slice a n ca, .slice b n cb] w fun e w' => e = .returned (.bool true) ∧ Below w.heap.size w w' := by
  have HA : Hid (PSegL 0 w a n ps Y ∧ PSegL 0 w b n ps Z) := And.intro ha hb
  have HW : Hid (∀ i, i < n → (Y i).wn ≤ 1048576) := hw
  clear ha hb hw
  go_enter Tryz.func38, Tryz.ntmps38
  go_wp2
  go_loopw [5] (fun i wr => ∃ k : Nat, k ≤ n ∧ i = .int .i64 k ∧ Hid (Below w.heap.size w wr)) (fun i _ => n - (intOf i).toNat)
  case atStart => exact ⟨0, by omega, rfl, Below.refl _ _⟩
  case round =>
    obtain ⟨k, hk, rfl, HB⟩ := hrel
    by_cases hlt : k < n
    · have hlt' : (k : Int) < (n : Int) := by omega
      obtain ⟨b1, o1, rfl, hbl1, p1⟩ := HA.out.1.1.seg.at k hlt
      obtain ⟨b2, o2, rfl, hbl2, p2⟩ := HA.out.2.1.seg.at k hlt
      have hb := HB.out
      replace p1 := p1.of (w' := wr) (fun i => hb.cell (p := ⟨b1, i, none⟩) hbl1)
      replace p2 := p2.of (w' := wr) (fun i => hb.cell (p := ⟨b2, i, none⟩) hbl2)
      have HE : Hid (∀ X, Below w.heap.size w X → Calls Tryz.prog 61 #[rwV (Y k), rwV (Z k)] X fun e w' => e = .returned (.bool true) ∧ Below X.heap.size X w') := fun X hX => eq_part (Y k) (Z k) (ps.getD k pt0) X ((HA.out.1.2 k hlt).below hX) ((HA.out.2.2 k hlt).below hX) (HW.out k hlt)
      obtain ⟨c0, c1, c2, c3, c4⟩ := rw_cells p1
      obtain ⟨d0, d1, d2, d3, d4⟩ := rw_cells p2
      generalize Y k = y at c0 c1 c2 c3 c4 HE
      generalize Z k = z at d0 d1 d2 d3 d4 HE
      obtain ⟨nm, en, kd, ms, wa, wn, wc⟩ := y
      obtain ⟨nm', en', kd', ms', va, vn, vc⟩ := z
      simp only [rwV] at c0 c1 c2 c3 c4 d0 d1 d2 d3 d4 HE
      replace hb : Hid (Below w.heap.size w wr) := hb
      have HE2 : Hid (∀ x : Gr wr, Calls Tryz.prog 61 #[.agg #[.string nm, .int .i64 en, .int .i64 kd, .int .i64 ms, .slice wa wn wc], .agg #[.string nm', .int .i64 en', .int .i64 kd', .int .i64 ms', .slice va vn vc]] x.w fun e w' => e = .returned (.bool true) ∧ Below x.w.heap.size x.w w') := fun x => HE.out _ (hb.out.trans (x.h.mono hb.out.size))
      clear hbl1 hbl2 HB p1 p2 HE
      replace c0 := fun X => gr_cell c0 X
      replace c1 := fun X => gr_cell c1 X
      replace c2 := fun X => gr_cell c2 X
      replace c3 := fun X => gr_cell c3 X
      replace c4 := fun X => gr_cell c4 X
      replace d0 := fun X => gr_cell d0 X
      replace d1 := fun X => gr_cell d1 X
      replace d2 := fun X => gr_cell d2 X
      replace d3 := fun X => gr_cell d3 X
      replace d4 := fun X => gr_cell d4 X
      go_wp2
      have hgr := gr_some wr
      refine region_alike (by kernel_rfl) (by kernel_rfl) ?_
      repeat (go_big_quiet_step (first | (go_at_call 61; exact gr_call (HE2.out _))))
      refine wpQuiet_nil ?_
      intro _ hw'
      obtain ⟨X1, rfl⟩ := hw'
      have hb2 := X1.h
      generalize X1.w = W1 at hb2 ⊢
      have HB2 : Hid (Below w.heap.size w W1) := hb.out.trans (hb2.mono hb.out.size)
      clear hb2 c0 c1 c2 c3 c4 d0 d1 d2 d3 d4
      go_wp2
      go_roundw
      case rel => exact ⟨k + 1, by omega, by go_num, HB2⟩
      case measure => simp [intOf]; omega
    · go_wp2
      go_ret
      exact ⟨rfl, HB.out⟩
set_option maxRecDepth 20000 in
theorem sz_part (y : Rw) (L : Nat) (w : World) (hn : y.wn ≤ 9223372036854775807) (hm : y.nm.size ≤ 9223372036854775807) (hL : L ≤ 1048576) :
    Calls Tryz.prog 48 #[rwV y, .int .i64 (L : Int)] w fun e w' => (∃ r : Int, e = .returned (.int .i64 r) ∧ (r = -1 ∨ ∃ d : Nat, r = (d : Int) ∧ d ≤ L ∧ y.wn ≤ L ∧ y.nm.size ≤ L)) ∧ Below w.heap.size w w' := by
  obtain ⟨nm, en, kd, ms, wa, wn, wc⟩ := y
  simp only [rwV] at hn hm ⊢
  have HB : Hid (Below w.heap.size w (w.alloc (.cells #[.string nm, .int .i64 en, .int .i64 kd, .int .i64 ms, .slice wa wn wc] 81))) := (Below.refl _ _).alloc (Nat.le_refl _) _
  obtain ⟨sz, HSZ⟩ : ∃ s : Nat, Hid (nm.size = s) := ⟨_, rfl⟩
  have hsz : nm.size = sz := HSZ.out
  rw [hsz] at hm ⊢
  by_cases h : sz ≤ L
  · obtain ⟨d, rfl⟩ : ∃ d, L = sz + d := ⟨L - sz, by omega⟩
    have hw : IntKind.i64.wrap (((sz + d : Nat) : Int) - (sz : Int)) = (d : Int) := by rw [show ((sz + d : Nat) : Int) - (sz : Int) = (d : Int) by omega, IntKind.wrap_i64]; omega
    have h0 : ¬ ((d : Int) < 0) := by omega
    go_enter Tryz.func48, Tryz.ntmps48
    go_wp2_with fail
    rw [show ((sz : Int) + (d : Int) - (sz : Int)) = (d : Int) by omega]
    refine (wi_sz wa wc wn d _ hn (by omega)).mono ?_
    rintro e1 w1 ⟨⟨r, rfl, hr⟩, rfl⟩
    rcases hr with rfl | ⟨hr, hle⟩
    · go_wp2
      go_ret
      exact ⟨⟨_, rfl, .inl rfl⟩, HB.out⟩
    · have hr0 : ¬ (r < 0) := by omega
      have HR : Hid (∃ d' : Nat, r = (d' : Int) ∧ d' ≤ sz + d ∧ wn ≤ sz + d ∧ sz ≤ sz + d) := ⟨d - wn, hr, by omega, by omega, by omega⟩
      clear hr
      go_wp2
      go_ret
      exact ⟨⟨_, rfl, .inr HR.out⟩, HB.out⟩
  · have hw : IntKind.i64.wrap ((L : Int) - (sz : Int)) = (L : Int) - (sz : Int) := by rw [IntKind.wrap_i64]; omega
    have h0 : (L : Int) - (sz : Int) < 0 := by omega
    go_enter Tryz.func48, Tryz.ntmps48
    go_wp2
    go_ret
    exact ⟨⟨_, rfl, .inl rfl⟩, HB.out⟩
set_option maxRecDepth 20000 in
set_option maxHeartbeats 4000000 in
theorem sz_parts (a : Option Addr) (cap n L : Nat) (Y : Nat → Rw) (w : World) (hs : GSeg 5 w a n (fun i => rwL (Y i))) (hn : n ≤ 9223372036854775807) (hL : L ≤ 1048576) (hw : ∀ i, i < n → (Y i).wn ≤ 9223372036854775807 ∧ (Y i).nm.size ≤ 9223372036854775807) :
    Calls Tryz.prog 21 #[.slice a n cap, .int .i64 (L : Int)] w fun e w' => (∃ r : Int, e = .returned (.int .i64 r) ∧ (r = -1 ∨ ∃ d : Nat, r = (d : Int) ∧ d ≤ 1048576 ∧ n ≤ 1048576 ∧ ∀ i, i < n → (Y i).wn ≤ 1048576 ∧ (Y i).nm.size ≤ 1048576)) ∧ Below w.heap.size w w' := by
  have HS : Hid (GSeg 5 w a n (fun i => rwL (Y i))) := hs
  have HW : Hid (∀ i, i < n → (Y i).wn ≤ 9223372036854775807 ∧ (Y i).nm.size ≤ 9223372036854775807) := hw
  clear hs hw
  by_cases h : n ≤ L
  rotate_left
  · have hw : IntKind.i64.wrap ((L : Int) - (n : Int)) = (L : Int) - (n : Int) := by rw [IntKind.wrap_i64]; omega
    have h0 : (L : Int) - (n : Int) < 0 := by omega
    go_enter Tryz.func21, Tryz.ntmps21
    go_wp2
    go_ret
    exact ⟨⟨_, rfl, .inl rfl⟩, Below.refl _ _⟩
  obtain ⟨d, rfl⟩ : ∃ d, L = n + d := ⟨L - n, by omega⟩
  have hw : IntKind.i64.wrap (((n + d : Nat) : Int) - (n : Int)) = (d : Int) := by rw [show ((n + d : Nat) : Int) - (n : Int) = (d : Int) by omega, IntKind.wrap_i64]; omega
  have h0 : ¬ ((d : Int) < 0) := by omega
  go_enter Tryz.func21, Tryz.ntmps21
  go_wp2
  go_loopw [1, 5] (fun t i wr => ∃ k D : Nat, k ≤ n ∧ D ≤ 1048576 ∧ i = .int .i64 k ∧ t = .int .i64 (D : Int) ∧ Hid (Below w.heap.size w wr ∧ ∀ i, i < k → (Y i).wn ≤ 1048576 ∧ (Y i).nm.size ≤ 1048576)) (fun _ i _ => n - (intOf i).toNat)
  case atStart => exact ⟨0, d, by omega, by omega, rfl, congrArg (Value.int .i64) (by omega), Below.refl _ _, fun i hi => absurd hi (by omega)⟩
  case round =>
    obtain ⟨k, D, hk, hD, rfl, rfl, HB⟩ := hrel
    by_cases hlt : k < n
    · have hlt' : (k : Int) < (n : Int) := by omega
      obtain ⟨b1, o1, rfl, hbl1, p1⟩ := HS.out.at k hlt
      have hb := HB.out.1
      replace p1 := p1.of (w' := wr) (fun i => hb.cell (p := ⟨b1, i, none⟩) hbl1)
      have HZ : Hid _ := fun X => sz_part (Y k) D X (HW.out k hlt).1 (HW.out k hlt).2 hD
      have HM : Hid (∀ q1 q2, (Y k).wn = q1 → (Y k).nm.size = q2 → q1 ≤ 1048576 → q2 ≤ 1048576 → ∀ i, i < k + 1 → (Y i).wn ≤ 1048576 ∧ (Y i).nm.size ≤ 1048576) := fun q1 q2 e1 e2 g1 g2 i hi => by
        by_cases e : i = k
        · subst e; rw [e1, e2]; exact ⟨g1, g2⟩
        · exact HB.out.2 i (by omega)
      obtain ⟨c0, c1, c2, c3, c4⟩ := rw_cells p1
      generalize Y k = y at c0 c1 c2 c3 c4 HZ HM
      obtain ⟨nm, en, kd, ms, wa, wn, wc⟩ := y
      simp only [rwV] at c0 c1 c2 c3 c4 HZ HM
      have HBB : Hid (Below w.heap.size w wr) := hb
      clear hbl1 p1 hb HB
      go_wp2_with fail
      refine (HZ.out _).mono ?_
      rintro e1 w1 ⟨⟨r, rfl, hr⟩, hb1⟩
      have HB1 : Hid (Below w.heap.size w w1) := HBB.out.trans (hb1.mono HBB.out.size)
      clear hb1 HBB HZ c0 c1 c2 c3 c4
      rcases hr with rfl | ⟨d', rfl, hd', hwn, hnm⟩
      · go_wp2
        go_ret
        exact ⟨⟨_, rfl, .inl rfl⟩, HB1.out⟩
      · have hr0 : ¬ ((d' : Int) < 0) := by omega
        have HM2 : Hid _ := HM.out wn nm.size rfl rfl (by omega) (by omega)
        clear HM hwn hnm
        go_wp2
        go_roundw
        case rel => exact ⟨k + 1, d', by omega, by omega, by go_num, rfl, HB1.out, HM2.out⟩
        case measure => simp [intOf]; omega
    · obtain rfl : k = n := by omega
      go_wp2
      go_ret
      exact ⟨⟨_, rfl, .inr ⟨D, rfl, hD, by omega, HB.out.2⟩⟩, HB.out.1⟩
end Go.Proofs.YtofibnmbgfggkaaGreatDoor
