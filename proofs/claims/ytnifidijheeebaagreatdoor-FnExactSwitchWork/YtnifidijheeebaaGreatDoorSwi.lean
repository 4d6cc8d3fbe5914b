
/-
  The work of a switch: what it is, and the program's own functions. Conditions: the lists lie in memory; the program's table of extras holds what the program's text lays.
-/
import Derived.Test.YtnifidijheeebaaGreatDoorBas
import Derived.Test.YtnifidijheeebaaGreatDoorCar
import Derived.Test.YtnifidijheeebaaGreatDoorSwa
import Derived.Test.YtnifidijheeebaaGreatDoorCfl
namespace Go.Proofs.YtnifidijheeebaaGreatDoor
open Go.ChangeShapes Go.WideShapes Go.ChangeAt Go.RowKit Go.Deep Go.Joins
set_option linter.unusedVariables false

/-- What a switch is asked under. -/
def SwOk (t : Tb) (s y l : Int) (n : Nat) (D : Nat → List Wy) (m : Int) : Prop := Sd t ∧ CacheOkP s y l n D ∧ (s = t.s1 ∧ y = t.s2 ∧ l = t.s3) ∧ 0 ≤ m ∧ m ≤ mostN t.cs t.cs.length
def SwR (t : Tb) (s y l : Int) (n : Nat) (D : Nat → List Wy) (m f sc c r : Int) : Prop :=
  (¬ SwOk t s y l n D m ∧ f = 0 ∧ sc = 0 ∧ c = 0 ∧ r = 0) ∨ (SwOk t s y l n D m ∧ f = t.c7 * ((dt D n : Nat) : Int) ∧ sc = t.c1 * 16 ∧ c = t.c1 * m ∧ r = t.pad - (f + sc + c))
theorem SwR.unique {t : Tb} {s y l : Int} {n : Nat} {D : Nat → List Wy} {m f sc c r f' sc' c' r' : Int} (h : SwR t s y l n D m f sc c r) (g : SwR t s y l n D m f' sc' c' r') : f = f' ∧ sc = sc' ∧ c = c' ∧ r = r' := by
  rcases h with ⟨h, rfl, rfl, rfl, rfl⟩ | ⟨h, h1, h2, h3, h4⟩ <;> rcases g with ⟨g, rfl, rfl, rfl, rfl⟩ | ⟨g, g1, g2, g3, g4⟩
  · exact ⟨rfl, rfl, rfl, rfl⟩
  · exact absurd g h
  · exact absurd h g
  · subst h1 h2 h3 h4 g1 g2 g3 g4
    exact ⟨rfl, rfl, rfl, rfl⟩
theorem dc_len (ws : List Wy) : ∀ i, i ≤ ws.length → dc ws i ≤ ws.length := fun i hi => Nat.le_trans (dc_le ws i) hi
theorem dt_most {D : Nat → List Wy} {n k : Nat} (h : ∀ i, i < n → (D i).length ≤ k) : ∀ r, r ≤ n → dt D r ≤ r * k := by
  intro r
  induction r with
  | zero => intro _; exact Nat.le_of_eq (by simp [dt])
  | succ r ih =>
    intro hr
    have h1 := ih (by omega)
    have h2 := dc_le (D r) (D r).length
    have h3 := h r (by omega)
    show dt D r + dc (D r) (D r).length ≤ _
    rw [Nat.succ_mul]
    omega
/-- What the numbers of a switch come to. -/
theorem sw_rng {t : Tb} {s y l : Int} {n : Nat} {D : Nat → List Wy} {m : Int} (h : SwOk t s y l n D m) : (0 ≤ t.c7 ∧ t.c7 ≤ 50) ∧ (1 ≤ t.c1 ∧ t.c1 ≤ 20) ∧ (0 ≤ ((dt D n : Nat) : Int) ∧ ((dt D n : Nat) : Int) ≤ 64) ∧ (0 ≤ m ∧ m ≤ 64) ∧ (1 ≤ t.pad ∧ t.pad ≤ 5000) ∧ (0 ≤ t.c7 * ((dt D n : Nat) : Int) ∧ t.c7 * ((dt D n : Nat) : Int) ≤ 3200) ∧ (0 ≤ t.c1 * m ∧ t.c1 * m ≤ 1280) ∧ t.c7 * ((dt D n : Nat) : Int) + t.c1 * 16 + t.c1 * m ≤ t.pad := by
  obtain ⟨h1, h2, ⟨e1, e2, e3⟩, h4, h5⟩ := h
  have hc := sd_chans h1
  obtain ⟨hc1, hc2, hc3, hc4, hc5, hc6, hc7⟩ := costsOk_parts hc.2.2.1
  have hpd : 1 ≤ t.pad ∧ t.pad ≤ 5000 := h1 4 (by omega)
  have hpv : padV t ≤ t.pad := h1 20 (by omega)
  have hmr := most_rng hc.2.1 t.cs.length (Nat.le_refl _)
  have hsm := sets_mul hc.2.2.2.1
  obtain ⟨g1, g2, g3⟩ := h2
  subst e1 e2 e3
  have hwy : 0 ≤ t.s2 := by have := (shapeOk_parts g1).2.1; omega
  have hd : dt D n ≤ n * t.s2.toNat := dt_most (fun i hi => by have := (g3 i hi).1; omega) n (Nat.le_refl _)
  have hd2 : ((dt D n : Nat) : Int) ≤ t.s1 * t.s2 := by
    have e : ((n * t.s2.toNat : Nat) : Int) = t.s1 * t.s2 := by
      rw [Int.natCast_mul, g2, Int.toNat_of_nonneg hwy]
    rw [← e]
    exact Int.ofNat_le.2 hd
  have hd0 : 0 ≤ ((dt D n : Nat) : Int) := Int.natCast_nonneg _
  generalize ((dt D n : Nat) : Int) = d at *
  have hm1 := mul_rng (A := 50) (B := 64) hc7.1 hc7.2 hd0 (by omega : d ≤ 64)
  have hm2 := mul_rng (A := 20) (B := 64) (by omega : 0 ≤ t.c1) hc1.2 h4 (by omega : m ≤ 64)
  refine ⟨hc7, hc1, ⟨hd0, by omega⟩, ⟨h4, by omega⟩, hpd, ⟨hm1.1, by omega⟩, ⟨hm2.1, by omega⟩, ?_⟩
  have k1 : t.c7 * d ≤ t.c7 * (t.s1 * t.s2) := Int.mul_le_mul_of_nonneg_left hd2 hc7.1
  have k2 : t.c1 * m ≤ t.c1 * mostN t.cs t.cs.length := Int.mul_le_mul_of_nonneg_left h5 (by omega)
  unfold padV at hpv
  rw [Int.mul_add] at hpv
  omega
theorem Bk.lowB {w w' : World} {b B : Nat} {cs : Array Value} (h : Bk w b cs) (hb : Below B w w') (hl : b < B) : Bk w' b cs :=
  ⟨Nat.lt_of_lt_of_le h.lt hb.size, fun i v e => (hb.cell (p := ⟨b, i, none⟩) hl).trans (h.cell i v e), fun i => (hb.frozen (p := ⟨b, i, none⟩) hl).trans (h.free i)⟩
theorem wr_id {x : Int} (h : -9223372036854775808 ≤ x) (g : x ≤ 9223372036854775807) : wrap64 x = x := by unfold wrap64; omega
set_option maxRecDepth 40000 in
set_option maxHeartbeats 8000000 in
theorem impl_cancarry0 (t : Tb) (pa da ca sa : Option Addr) (pn pc dn dc cn cc n sc : Nat) (Y : Nat → Rw) (m : Int) (w : World) (hm : TM 0 w t ⟨pa, pn, pc, da, dn, dc, ca, cn, cc, sa, n, sc, Y⟩) (hw : TW t ⟨pa, pn, pc, da, dn, dc, ca, cn, cc, sa, n, sc, Y⟩) (hsd : Sd t) (q : Bool) (hq : q = true ↔ (0 ≤ m ∧ m ≤ mostN t.cs t.cs.length)) :
    Calls Tryz.prog 52 #[.agg #[.int .i64 t.mem, .int .i64 t.s1, .int .i64 t.s2, .int .i64 t.s3, .int .i64 t.tlb, .int .i64 t.c1, .int .i64 t.c2, .int .i64 t.c3, .int .i64 t.c4, .int .i64 t.c5, .int .i64 t.c6, .int .i64 t.c7, .int .i64 t.pad, .int .i64 t.grd, .int .i64 t.maj, .slice pa pn pc, .slice da dn dc, .slice ca cn cc, .slice sa n sc], .int .i64 m] w fun e w' => e = .returned (.bool q) ∧ Below w.heap.size w w' := by
  have HB0 : Hid (Below w.heap.size w (w.alloc (.cells #[.int .i64 t.mem, .int .i64 t.s1, .int .i64 t.s2, .int .i64 t.s3, .int .i64 t.tlb, .int .i64 t.c1, .int .i64 t.c2, .int .i64 t.c3, .int .i64 t.c4, .int .i64 t.c5, .int .i64 t.c6, .int .i64 t.c7, .int .i64 t.pad, .int .i64 t.grd, .int .i64 t.maj, .slice pa pn pc, .slice da dn dc, .slice ca cn cc, .slice sa n sc] 46))) := (Below.refl _ _).alloc (Nat.le_refl _) _
  have HX0 : Hid (TBx (w.alloc (.cells #[.int .i64 t.mem, .int .i64 t.s1, .int .i64 t.s2, .int .i64 t.s3, .int .i64 t.tlb, .int .i64 t.c1, .int .i64 t.c2, .int .i64 t.c3, .int .i64 t.c4, .int .i64 t.c5, .int .i64 t.c6, .int .i64 t.c7, .int .i64 t.pad, .int .i64 t.grd, .int .i64 t.maj, .slice pa pn pc, .slice da dn dc, .slice ca cn cc, .slice sa n sc] 46)) w.heap.size t ⟨pa, pn, pc, da, dn, dc, ca, cn, cc, sa, n, sc, Y⟩) := TBx.new w t ⟨pa, pn, pc, da, dn, dc, ca, cn, cc, sa, n, sc, Y⟩ _ rfl
  have HS : Hid (GSeg 4 w ca cn (chX t.cs)) := hm.c.seg
  have HL : Hid (t.cs.length = cn) := hw.cl
  have HCA : Hid (cn ≤ 8 ∧ allCh t.cs cn) := by
    have := sd_chans hsd
    rw [HL.out] at this
    exact ⟨this.1, this.2.1⟩
  rw [HL.out] at hq
  obtain ⟨M, HM⟩ : ∃ M, Hid (mostN t.cs cn = M) := ⟨_, rfl⟩
  rw [HM.out] at hq
  have HCC : Hid (∀ X, GSeg 4 X ca cn (chX t.cs) → Calls Tryz.prog 78 #[.slice ca cn cc] X fun x w' => x = .returned (.int .i64 M) ∧ Below X.heap.size X w') := fun X hX => by
    rw [← HM.out]; exact impl_carried ca cc cn t.cs X hX HCA.out.1 HCA.out.2
  have HQ : Hid (q = true ↔ (0 ≤ m ∧ m ≤ M)) := hq
  clear hm hw hsd hq
  go_enter Tryz.func52, Tryz.ntmps52
  by_cases h0 : 0 ≤ m
  rotate_left
  · have HF : Hid (false = q) := by
      cases q
      · rfl
      · exact absurd (HQ.out.1 rfl).1 h0
    have h0' : m < 0 := by omega
    go_wp2
    go_ret
    exact ⟨by rw [← HF.out]; rfl, HB0.out⟩
  have k17 : (w.alloc (.cells #[.int .i64 t.mem, .int .i64 t.s1, .int .i64 t.s2, .int .i64 t.s3, .int .i64 t.tlb, .int .i64 t.c1, .int .i64 t.c2, .int .i64 t.c3, .int .i64 t.c4, .int .i64 t.c5, .int .i64 t.c6, .int .i64 t.c7, .int .i64 t.pad, .int .i64 t.grd, .int .i64 t.maj, .slice pa pn pc, .slice da dn dc, .slice ca cn cc, .slice sa n sc] 46)).cell? ⟨w.heap.size, 17, none⟩ = some (.slice ca cn cc) := HX0.out.cell 17 rfl
  go_wp2_with fail
  refine Calls.mono (HCC.out _ (HS.out.below HB0.out)) ?_
  rintro e w2 ⟨rfl, hb2⟩
  have HB2 : Hid (Below w.heap.size w w2) := HB0.out.trans (hb2.mono HB0.out.size)
  clear hb2 k17
  by_cases h1 : m ≤ M
  · have HF : Hid (true = q) := (HQ.out.2 ⟨h0, h1⟩).symm
    go_wp2
    go_ret
    exact ⟨by rw [← HF.out]; rfl, HB2.out⟩
  · have HF : Hid (false = q) := by
      cases q
      · rfl
      · exact absurd (HQ.out.1 rfl).2 h1
    have h1' : M < m := by omega
    go_wp2
    go_ret
    exact ⟨by rw [← HF.out]; show Ending.returned (.bool (decide (m ≤ M))) = _; rw [decide_eq_false (show ¬ m ≤ M from fun h => by omega)], HB2.out⟩
theorem impl_cancarry (t : Tb) (a : Ad) (m : Int) (w : World) (hm : TM 0 w t a) (hw : TW t a) (hsd : Sd t) (q : Bool) (hq : q = true ↔ (0 ≤ m ∧ m ≤ mostN t.cs t.cs.length)) :
    Calls Tryz.prog 52 #[tbV t a, .int .i64 m] w fun e w' => e = .returned (.bool q) ∧ Below w.heap.size w w' :=
  impl_cancarry0 t a.pa a.da a.ca a.sa a.pn a.pc a.dn a.dc a.cn a.cc a.sn a.sc a.Y m w hm hw hsd q hq
set_option maxRecDepth 40000 in
set_option maxHeartbeats 8000000 in
theorem impl_swork (t : Tb) (a : Ad) (d m f sc c S R : Int) (w : World) (hf : t.c7 * d = f) (hsc : t.c1 * 16 = sc) (hc : t.c1 * m = c) (hS : f + sc + c = S) (hR : t.pad - S = R)
    (h1 : 0 ≤ f ∧ f ≤ 3200) (h2 : 0 ≤ sc ∧ sc ≤ 320) (h3 : 0 ≤ c ∧ c ≤ 1280) (h4 : 1 ≤ t.pad ∧ t.pad ≤ 5000) :
    Calls Tryz.prog 54 #[tbV t a, .int .i64 d, .int .i64 m] w fun e w' => e = .returned (wkv f sc c R) ∧ Below w.heap.size w w' := by
  obtain ⟨V, HV⟩ : ∃ V, Hid (((w.alloc (.cells (tbA t a) 46)).alloc (.cells (wkr 0 0 0 0) 38)).alloc (.cells (wkr 0 0 0 0) 38) = V) := ⟨_, rfl⟩
  have HTB : Hid (∀ j v, (tbA t a)[j]? = some v → V.cell? ⟨w.heap.size, j, none⟩ = some v) := by
    rw [← HV.out]
    exact (((Bk.new w (tbA t a) 46 w.heap.size rfl).alloc _).alloc _).cell
  have HR : Hid (Bk V (w.heap.size + 1) (wkr 0 0 0 0)) := by
    rw [← HV.out]
    exact (Bk.new _ (wkr 0 0 0 0) 38 (w.heap.size + 1) (by simp)).alloc _
  have HK : Hid (Bk V (w.heap.size + 1 + 1) (wkr 0 0 0 0)) := by
    rw [← HV.out]
    exact Bk.new _ (wkr 0 0 0 0) 38 (w.heap.size + 1 + 1) (by simp)
  have HZ : Hid (Below w.heap.size w V) := by
    rw [← HV.out]
    exact (((Below.refl _ _).alloc (Nat.le_refl _) _).alloc (by simp) _).alloc (by simp; omega) _
  have HA1 : Hid (∀ B X, Bk X B (wkr 0 0 0 0) → Calls Tryz.prog 98 #[.pointer (some ⟨B, 0, none⟩), wkv f 0 0 0] X fun e w' => e = .returned (.tuple #[]) ∧ Bk w' B (wkr f 0 0 0) ∧ Below B X w') := fun B X hX => by
    have := impl_addw 0 0 0 0 f 0 0 0 B X hX
    rw [wr_id (x := 0 + f) (by omega) (by omega), wr_id (x := 0 + 0) (by omega) (by omega), Int.zero_add, Int.zero_add] at this
    exact this
  have HA2 : Hid (∀ B X, Bk X B (wkr f 0 0 0) → Calls Tryz.prog 98 #[.pointer (some ⟨B, 0, none⟩), wkv 0 sc 0 0] X fun e w' => e = .returned (.tuple #[]) ∧ Bk w' B (wkr f sc 0 0) ∧ Below B X w') := fun B X hX => by
    have := impl_addw f 0 0 0 0 sc 0 0 B X hX
    rw [wr_id (x := f + 0) (by omega) (by omega), wr_id (x := 0 + sc) (by omega) (by omega), wr_id (x := 0 + 0) (by omega) (by omega), Int.zero_add, Int.zero_add, Int.add_zero] at this
    exact this
  have HA3 : Hid (∀ B X, Bk X B (wkr f sc 0 0) → Calls Tryz.prog 98 #[.pointer (some ⟨B, 0, none⟩), wkv 0 0 c 0] X fun e w' => e = .returned (.tuple #[]) ∧ Bk w' B (wkr f sc c 0) ∧ Below B X w') := fun B X hX => by
    have := impl_addw f sc 0 0 0 0 c 0 B X hX
    rw [wr_id (x := f + 0) (by omega) (by omega), wr_id (x := sc + 0) (by omega) (by omega), wr_id (x := 0 + c) (by omega) (by omega), wr_id (x := 0 + 0) (by omega) (by omega), Int.zero_add, Int.zero_add, Int.add_zero, Int.add_zero] at this
    exact this
  have HAD : Hid (∀ B X, Bk X B (wkr f sc c 0) → Calls Tryz.prog 98 #[.pointer (some ⟨B, 0, none⟩), wkv 0 0 0 R] X fun e w' => e = .returned (.tuple #[]) ∧ Bk w' B (wkr f sc c R) ∧ Below B X w') := fun B X hX => by
    have := impl_addw f sc c 0 0 0 0 R B X hX
    rw [wr_id (x := f + 0) (by omega) (by omega), wr_id (x := sc + 0) (by omega) (by omega), wr_id (x := c + 0) (by omega) (by omega), wr_id (x := 0 + R) (by omega) (by omega), Int.zero_add, Int.add_zero, Int.add_zero, Int.add_zero] at this
    exact this
  have HSU : Hid (∀ X, Calls Tryz.prog 75 #[wkv f sc c 0] X fun e w' => e = .returned (.int .i64 S) ∧ Below X.heap.size X w') := fun X => by
    have := impl_sum f sc c 0 X
    unfold wkSum at this
    rw [wr_id (x := f + sc) (by omega) (by omega), wr_id (x := f + sc + c) (by omega) (by omega), Int.add_zero, wr_id (x := f + sc + c) (by omega) (by omega), hS] at this
    exact this
  have hw1 : IntKind.i64.wrap (t.c7 * d) = f := by rw [hf, IntKind.wrap_i64]; omega
  have hw2 : IntKind.i64.wrap (t.c1 * 16) = sc := by rw [hsc, IntKind.wrap_i64]; omega
  have hw3 : IntKind.i64.wrap (t.c1 * m) = c := by rw [hc, IntKind.wrap_i64]; omega
  have hw4 : IntKind.i64.wrap (t.pad - S) = R := by rw [hR, IntKind.wrap_i64]; omega
  clear hf hsc hc hS hR h1 h2 h3 h4
  go_enter Tryz.func54, Tryz.ntmps54
  go_wp2_with fail
  have hVV := HV.out
  refine Calls.mono (HA1.out (w.heap.size + 1 + 1) _ (by rw [hVV]; exact HK.out)) ?_
  rw [hVV]
  clear hVV HV
  rintro e w2 ⟨rfl, hk, hb⟩
  obtain ⟨N, hN⟩ : ∃ N, w.heap.size = N := ⟨_, rfl⟩
  obtain ⟨B, hB⟩ : ∃ B, N + 1 + 1 = B := ⟨_, rfl⟩
  rw [hN] at HTB HR HK HZ hk hb
  rw [hB] at hk hb HK
  have HTB' : Hid (∀ j v, (tbA t a)[j]? = some v → w2.cell? ⟨N, j, none⟩ = some v) := fun j v h => (hb.cell (p := ⟨N, j, none⟩) (show N < B by rw [← hB]; omega)).trans (HTB.out j v h)
  have HR' : Hid (Bk w2 (N + 1) (wkr 0 0 0 0)) := HR.out.lowB hb (by rw [← hB]; omega)
  have HZ' : Hid (Below N w w2) := HZ.out.trans (hb.mono (by rw [← hB]; omega))
  clear HTB HR HK HZ hb
  have HK : Hid (Bk w2 B (wkr f 0 0 0)) := hk
  have HTB : Hid _ := HTB'.out
  have HR : Hid _ := HR'.out
  have HZ : Hid _ := HZ'.out
  clear HTB' HR' HZ' hk
  have k5 : w2.cell? ⟨N, 5, none⟩ = some (.int .i64 t.c1) := HTB.out 5 _ rfl
  have k11 : w2.cell? ⟨N, 11, none⟩ = some (.int .i64 t.c7) := HTB.out 11 _ rfl
  go_wp2_with fail
  refine Calls.mono (HA2.out B _ HK.out) ?_
  rintro e w3 ⟨rfl, hk, hb⟩
  have HTB' : Hid (∀ j v, (tbA t a)[j]? = some v → w3.cell? ⟨N, j, none⟩ = some v) := fun j v h => (hb.cell (p := ⟨N, j, none⟩) (show N < B by rw [← hB]; omega)).trans (HTB.out j v h)
  have HR' : Hid (Bk w3 (N + 1) (wkr 0 0 0 0)) := HR.out.lowB hb (by rw [← hB]; omega)
  have HK' : Hid (Bk w3 B (wkr f sc 0 0)) := hk
  have HZ' : Hid (Below N w w3) := HZ.out.trans (hb.mono (by rw [← hB]; omega))
  clear HTB HR HK HZ hk hb k5 k11
  have HTB : Hid _ := HTB'.out
  have HR : Hid _ := HR'.out
  have HK : Hid _ := HK'.out
  have HZ : Hid _ := HZ'.out
  clear HTB' HR' HK' HZ'
  have k5 : w3.cell? ⟨N, 5, none⟩ = some (.int .i64 t.c1) := HTB.out 5 _ rfl
  have k11 : w3.cell? ⟨N, 11, none⟩ = some (.int .i64 t.c7) := HTB.out 11 _ rfl
  go_wp2_with fail
  refine Calls.mono (HA3.out B _ HK.out) ?_
  rintro e w4 ⟨rfl, hk, hb⟩
  have HTB' : Hid (∀ j v, (tbA t a)[j]? = some v → w4.cell? ⟨N, j, none⟩ = some v) := fun j v h => (hb.cell (p := ⟨N, j, none⟩) (show N < B by rw [← hB]; omega)).trans (HTB.out j v h)
  have HR' : Hid (Bk w4 (N + 1) (wkr 0 0 0 0)) := HR.out.lowB hb (by rw [← hB]; omega)
  have HK' : Hid (Bk w4 B (wkr f sc c 0)) := hk
  have HZ' : Hid (Below N w w4) := HZ.out.trans (hb.mono (by rw [← hB]; omega))
  clear HTB HR HK HZ hk hb k5 k11
  have HTB : Hid _ := HTB'.out
  have HR : Hid _ := HR'.out
  have HK : Hid _ := HK'.out
  have HZ : Hid _ := HZ'.out
  clear HTB' HR' HK' HZ'
  have k5 : w4.cell? ⟨N, 5, none⟩ = some (.int .i64 t.c1) := HTB.out 5 _ rfl
  have k11 : w4.cell? ⟨N, 11, none⟩ = some (.int .i64 t.c7) := HTB.out 11 _ rfl
  clear k5 k11
  go_wp2
  obtain ⟨W0, hW0⟩ : ∃ W0, w4 = W0 := ⟨_, rfl⟩
  subst hW0
  refine wp_region_inv (by kernel_rfl) (by kernel_rfl) (fun A ℓ a' w' => ∃ (x29 x30 x31 x32 x33 x34 x35 : Value), a' = (((((((A.put (some 29) x29).put (some 30) x30).put (some 31) x31).put (some 32) x32).put (some 33) x33).put (some 34) x34).put (some 35) x35) ∧ Hid (Below B w4 w') ∧ Hid (∀ i, i < 6 → ℓ 6 = true → ℓ i = true) ∧ Hid (ℓ 6 = false → Bk w' B (wkr f sc c 0)) ∧ Hid (ℓ 6 = true → Bk w' B (wkr f sc c R)) ∧ Hid (ℓ 0 = true → x29 = .pointer (some ⟨N, 12, none⟩) ∧ True) ∧ Hid (ℓ 1 = true → x30 = .int .i64 t.pad ∧ ℓ 0 = true ∧ True) ∧ Hid (ℓ 2 = true → x31 = wkv f sc c 0 ∧ True) ∧ Hid (ℓ 3 = true → x32 = .int .i64 S ∧ ℓ 2 = true ∧ True) ∧ Hid (ℓ 4 = true → x33 = .int .i64 R ∧ ℓ 1 = true ∧ ℓ 3 = true ∧ True) ∧ Hid (ℓ 5 = true → x34 = wkv 0 0 0 R ∧ ℓ 4 = true ∧ True) ∧ Hid (ℓ 6 = true → x35 = .tuple #[] ∧ ℓ 5 = true ∧ True)) ?_ ?_ ?_ ?_
  · exact ⟨undef, undef, undef, undef, undef, undef, undef, (by simp only [Act.put, List.setIfInBounds_toArray, List.set_cons_zero, List.set_cons_succ]), (Below.refl _ _).drew, (show ∀ i, i < 6 → false = true → _ from fun i _ h => by cases h), (show false = false → _ from fun _ => HK.out.dr), (show false = true → _ from fun h => by cases h), (show _ → _ from fun g => by cases g), (show _ → _ from fun g => by cases g), (show _ → _ from fun g => by cases g), (show _ → _ from fun g => by cases g), (show _ → _ from fun g => by cases g), (show _ → _ from fun g => by cases g), (show _ → _ from fun g => by cases g)⟩
  · intro ℓ a' w' hI hall
    obtain ⟨x29, x30, x31, x32, x33, x34, x35, rfl, gb, gl, go, gn, f0, f1, f2, f3, f4, f5, f6⟩ := hI
    have hall' : ∀ i, i < 7 → ℓ i = true := hall
    obtain rfl := (f0.out (hall' 0 (by omega))).1
    obtain rfl := (f1.out (hall' 1 (by omega))).1
    obtain rfl := (f2.out (hall' 2 (by omega))).1
    obtain rfl := (f3.out (hall' 3 (by omega))).1
    obtain rfl := (f4.out (hall' 4 (by omega))).1
    obtain rfl := (f5.out (hall' 5 (by omega))).1
    obtain rfl := (f6.out (hall' 6 (by omega))).1
    have HK2 : Hid (Bk w' B (wkr f sc c R)) := gn.out (hall' 6 (by omega))
    have HL2 : Hid (Below B w4 w') := gb.out
    clear hall hall' gb gl go gn f0 f1 f2 f3 f4 f5 f6
    simp only [Act.put, List.setIfInBounds_toArray, List.set_cons_zero, List.set_cons_succ]
    have HR2 : Hid (Bk w' (N + 1) (wkr 0 0 0 0)) := HR.out.lowB HL2.out (by rw [← hB]; omega)
    have HE : Hid (Below N w w') := HZ.out.trans (HL2.out.mono (by rw [← hB]; omega))
    have k0 := HK2.out.cell 0 _ rfl
    have k1 := HK2.out.cell 1 _ rfl
    have k2 := HK2.out.cell 2 _ rfl
    have k3 := HK2.out.cell 3 _ rfl
    have r0 := HR2.out.cell 0 _ rfl
    have r1 := HR2.out.cell 1 _ rfl
    have r2 := HR2.out.cell 2 _ rfl
    have r3 := HR2.out.cell 3 _ rfl
    have z0 := HR2.out.free 0
    have z1 := HR2.out.free 1
    have z2 := HR2.out.free 2
    have z3 := HR2.out.free 3
    go_wp2
    exact bodyPost_ret (v := wkv f sc c R) (by simp [results, Tryz.results54, go_sem, r0, r1, r2, r3]) rfl ⟨rfl, by rw [hN]; exact (((HE.out.setCell (by show N ≤ N + 1; omega) _).setCell (by show N ≤ N + 1; omega) _).setCell (by show N ≤ N + 1; omega) _).setCell (by show N ≤ N + 1; omega) _⟩
  · intro ℓ a' w' i o hI ho hi hL hdep K hK
    obtain ⟨x29, x30, x31, x32, x33, x34, x35, rfl, gb, gl, go, gn, f0, f1, f2, f3, f4, f5, f6⟩ := hI
    have hi7 : i < 7 := hi
    have hcs : i = 0 ∨ i = 1 ∨ i = 2 ∨ i = 3 ∨ i = 4 ∨ i = 5 ∨ i = 6 := by omega
    have hl6 : ℓ 6 = false := by
      cases h6 : ℓ 6
      · rfl
      · by_cases h : i < 6
        · have := gl.out i h h6; rw [this] at hL; cases hL
        · obtain rfl : i = 6 := by omega
          rw [h6] at hL; cases hL
    clear hi hi7
    rcases hcs with rfl | rfl | rfl | rfl | rfl | rfl | rfl
    · obtain rfl := Option.some.inj ho
      clear hdep ho
      rw [if_pos (by rfl)]
      try simp only [Act.put, List.setIfInBounds_toArray, List.set_cons_zero, List.set_cons_succ]
      go_simp
      exact hK.out _ _ (fun j => if j = 0 then true else ℓ j) ⟨.pointer (some ⟨N, 12, none⟩), x30, x31, x32, x33, x34, x35, (by simp only [Act.put, List.setIfInBounds_toArray, List.set_cons_zero, List.set_cons_succ]), gb, (show ∀ i, i < 6 → ℓ 6 = true → (if i = 0 then true else ℓ i) = true from fun i hi h => by split; rfl; exact gl.out i hi h), go, gn, (show _ → _ from fun _ => ⟨rfl, trivial⟩), (show _ → _ from fun h => ⟨(f1.out h).1, rfl, trivial⟩), f2, f3, f4, f5, f6⟩ (if_pos rfl) (fun j hj => if_neg hj)
    · obtain rfl := Option.some.inj ho
      have g0 : ℓ 0 = true := hdep { on := 0, ground := Ground.data } (by simp) rfl
      clear hdep ho
      have q0 := (f0.out g0).2
      obtain rfl := (f0.out g0).1
      have cc : w'.cell? ⟨N, 12, none⟩ = some (.int .i64 t.pad) := (gb.out.cell (p := ⟨N, 12, none⟩) (show N < B by rw [← hB]; omega)).trans (HTB.out 12 _ rfl)
      rw [if_pos (by rfl)]
      try simp only [Act.put, List.setIfInBounds_toArray, List.set_cons_zero, List.set_cons_succ]
      go_simp
      exact hK.out _ _ (fun j => if j = 1 then true else ℓ j) ⟨.pointer (some ⟨N, 12, none⟩), .int .i64 t.pad, x31, x32, x33, x34, x35, (by simp only [Act.put, List.setIfInBounds_toArray, List.set_cons_zero, List.set_cons_succ]), gb, (show ∀ i, i < 6 → ℓ 6 = true → (if i = 1 then true else ℓ i) = true from fun i hi h => by split; rfl; exact gl.out i hi h), go, gn, (show _ → _ from fun _ => ⟨rfl, q0⟩), (show _ → _ from fun _ => ⟨rfl, g0, trivial⟩), f2, f3, (show _ → _ from fun h => ⟨(f4.out h).1, rfl, (f4.out h).2.2.1, trivial⟩), f5, f6⟩ (if_pos rfl) (fun j hj => if_neg hj)
    · obtain rfl := Option.some.inj ho
      clear hdep ho
      have k0 := (go.out hl6).cell 0 _ rfl
      have k1 := (go.out hl6).cell 1 _ rfl
      have k2 := (go.out hl6).cell 2 _ rfl
      have k3 := (go.out hl6).cell 3 _ rfl
      rw [if_pos (by rfl)]
      try simp only [Act.put, List.setIfInBounds_toArray, List.set_cons_zero, List.set_cons_succ]
      go_simp
      exact hK.out _ _ (fun j => if j = 2 then true else ℓ j) ⟨x29, x30, wkv f sc c 0, x32, x33, x34, x35, (by simp only [Act.put, List.setIfInBounds_toArray, List.set_cons_zero, List.set_cons_succ]), gb, (show ∀ i, i < 6 → ℓ 6 = true → (if i = 2 then true else ℓ i) = true from fun i hi h => by split; rfl; exact gl.out i hi h), go, gn, f0, f1, (show _ → _ from fun _ => ⟨rfl, trivial⟩), (show _ → _ from fun h => ⟨(f3.out h).1, rfl, trivial⟩), f4, f5, f6⟩ (if_pos rfl) (fun j hj => if_neg hj)
    · obtain rfl := Option.some.inj ho
      have g2 : ℓ 2 = true := hdep { on := 2, ground := Ground.data } (by simp) rfl
      clear hdep ho
      have q2 := (f2.out g2).2
      obtain rfl := (f2.out g2).1
      rw [if_pos (by rfl)]
      try simp only [Act.put, List.setIfInBounds_toArray, List.set_cons_zero, List.set_cons_succ]
      go_simp
      refine Calls.mono (HSU.out _) ?_
      rintro e w9 ⟨rfl, hb9⟩
      have hlw : B < w'.heap.size := (go.out hl6).lt
      exact hK.out _ _ (fun j => if j = 3 then true else ℓ j) ⟨x29, x30, wkv f sc c 0, .int .i64 S, x33, x34, x35, (by simp only [Act.put, List.setIfInBounds_toArray, List.set_cons_zero, List.set_cons_succ]), (gb.out.trans (hb9.mono (by omega))), (show ∀ i, i < 6 → ℓ 6 = true → (if i = 3 then true else ℓ i) = true from fun i hi h => by split; rfl; exact gl.out i hi h), (show ℓ 6 = false → _ from fun h => (go.out h).below hb9), (show ℓ 6 = true → _ from fun h => by rw [hl6] at h; cases h), f0, f1, (show _ → _ from fun _ => ⟨rfl, q2⟩), (show _ → _ from fun _ => ⟨rfl, g2, trivial⟩), (show _ → _ from fun h => ⟨(f4.out h).1, (f4.out h).2.1, rfl, trivial⟩), f5, f6⟩ (if_pos rfl) (fun j hj => if_neg hj)
    · obtain rfl := Option.some.inj ho
      have g1 : ℓ 1 = true := hdep { on := 1, ground := Ground.data } (by simp) rfl
      have g3 : ℓ 3 = true := hdep { on := 3, ground := Ground.data } (by simp) rfl
      clear hdep ho
      have q1 := (f1.out g1).2
      obtain rfl := (f1.out g1).1
      have q3 := (f3.out g3).2
      obtain rfl := (f3.out g3).1
      rw [if_pos (by rfl)]
      try simp only [Act.put, List.setIfInBounds_toArray, List.set_cons_zero, List.set_cons_succ]
      go_simp
      exact hK.out _ _ (fun j => if j = 4 then true else ℓ j) ⟨x29, .int .i64 t.pad, x31, .int .i64 S, .int .i64 R, x34, x35, (by simp only [Act.put, List.setIfInBounds_toArray, List.set_cons_zero, List.set_cons_succ]), gb, (show ∀ i, i < 6 → ℓ 6 = true → (if i = 4 then true else ℓ i) = true from fun i hi h => by split; rfl; exact gl.out i hi h), go, gn, f0, (show _ → _ from fun _ => ⟨rfl, q1⟩), f2, (show _ → _ from fun _ => ⟨rfl, q3⟩), (show _ → _ from fun _ => ⟨rfl, g1, g3, trivial⟩), (show _ → _ from fun h => ⟨(f5.out h).1, rfl, trivial⟩), f6⟩ (if_pos rfl) (fun j hj => if_neg hj)
    · obtain rfl := Option.some.inj ho
      have g4 : ℓ 4 = true := hdep { on := 4, ground := Ground.data } (by simp) rfl
      clear hdep ho
      have q4 := (f4.out g4).2
      obtain rfl := (f4.out g4).1
      rw [if_pos (by rfl)]
      try simp only [Act.put, List.setIfInBounds_toArray, List.set_cons_zero, List.set_cons_succ]
      go_simp
      exact hK.out _ _ (fun j => if j = 5 then true else ℓ j) ⟨x29, x30, x31, x32, .int .i64 R, wkv 0 0 0 R, x35, (by simp only [Act.put, List.setIfInBounds_toArray, List.set_cons_zero, List.set_cons_succ]), gb, (show ∀ i, i < 6 → ℓ 6 = true → (if i = 5 then true else ℓ i) = true from fun i hi h => by split; rfl; exact gl.out i hi h), go, gn, f0, f1, f2, f3, (show _ → _ from fun _ => ⟨rfl, q4⟩), (show _ → _ from fun _ => ⟨rfl, g4, trivial⟩), (show _ → _ from fun h => ⟨(f6.out h).1, rfl, trivial⟩)⟩ (if_pos rfl) (fun j hj => if_neg hj)
    · obtain rfl := Option.some.inj ho
      have g5 : ℓ 5 = true := hdep { on := 5, ground := Ground.data } (by simp) rfl
      clear hdep ho
      have q5 := (f5.out g5).2
      obtain rfl := (f5.out g5).1
      have g4 := q5.1
      have q4 := (f4.out g4).2
      have g1 := q4.1
      have g3 := q4.2.1
      have g0 := (f1.out g1).2.1
      have g2 := (f3.out g3).2.1
      rw [if_pos (by rfl)]
      try simp only [Act.put, List.setIfInBounds_toArray, List.set_cons_zero, List.set_cons_succ]
      go_simp
      refine Calls.mono (HAD.out _ _ (go.out hl6)) ?_
      rintro e w9 ⟨rfl, hk9, hb9⟩
      exact hK.out _ _ (fun j => if j = 6 then true else ℓ j) ⟨x29, x30, x31, x32, x33, wkv 0 0 0 R, .tuple #[], (by simp only [Act.put, List.setIfInBounds_toArray, List.set_cons_zero, List.set_cons_succ]), (gb.out.trans hb9), (show ∀ i, i < 6 → true = true → (if i = 6 then true else ℓ i) = true from fun i hi _ => by rw [if_neg (by omega)]; rcases (by omega : i = 0 ∨ i = 1 ∨ i = 2 ∨ i = 3 ∨ i = 4 ∨ i = 5) with rfl | rfl | rfl | rfl | rfl | rfl <;> assumption), (show true = false → _ from fun h => by cases h), (show true = true → _ from fun _ => hk9), f0, f1, f2, f3, f4, (show _ → _ from fun _ => ⟨rfl, q5⟩), (show _ → _ from fun _ => ⟨rfl, g5, trivial⟩)⟩ (if_pos rfl) (fun j hj => if_neg hj)
  · rintro a' w' ℓ ℓ' hℓ hI
    rw [← show ℓ = ℓ' from funext hℓ]
    exact hI
end Go.Proofs.YtnifidijheeebaaGreatDoor
