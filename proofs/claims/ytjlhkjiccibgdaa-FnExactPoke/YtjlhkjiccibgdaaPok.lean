
/-
  Writing into a guest, by the specification and by the program: the same guest, in memory of the call's own, and the same fault. Conditions: registers, rows and bytes are at most 1048576 together.
-/
import Derived.Test.YtjlhkjiccibgdaaBas
import Derived.Test.YtjlhkjiccibgdaaProg
import Derived.Test.YtjlhkjiccibgdaaSto
import Derived.Test.YtjlhkjiccibgdaaAlz
namespace Go.Proofs.Ytjlhkjiccibgdaa
open Go.ChangeShapes Go.WideShapes Go.ChangeAt Go.RowKit Go.Deep
set_option linter.unusedVariables false

def putD (D : Nat → List Int) (K fr S : Nat) (x : Int) : Nat → List Int := fun i => if i = K then putRow (D K) fr S x else D i
theorem putD_len (D : Nat → List Int) (K fr S : Nat) (x : Int) (i : Nat) : (putD D K fr S x i).length = (D i).length := by
  unfold putD
  by_cases e : i = K
  · subst e; rw [if_pos rfl, putRow_len]
  · rw [if_neg e]
/-- What writing comes to: the fault, and the memory behind it. -/
def PkP (xs : List Wn) (n : Nat) (D : Nat → List Int) (ad size x r : Int) (D1 : Nat → List Int) : Prop :=
  ∃ v, RdP xs n D ad size 2 v r ∧ ((¬ r = 0 ∧ D1 = D) ∨ (r = 0 ∧ ∃ K fr S bs, AtP xs n ad ((K : Nat) : Int) ∧ AccIn xs n D ad size K fr S bs ∧ D1 = putD D K fr S x))
theorem PkP.ex {xs : List Wn} {rs : List Int} {n : Nat} {D : Nat → List Int} (hg : GOk xs rs n D) (ad size x : Int) : ∃ r D1, PkP xs n D ad size x r D1 ∧ ∀ i, (D1 i).length = (D i).length := by
  obtain ⟨v, r, h⟩ := RdP.ex hg ad size 2
  by_cases h0 : r = 0
  · subst h0
    have h' := h
    obtain ⟨ra, hra, _, hw⟩ := h'
    rcases hw with ⟨hw, _⟩ | ⟨_, K, fr, S, bs, e, hin, _⟩
    · exact absurd rfl hw
    · subst e
      exact ⟨0, putD D K fr S x, ⟨v, h, .inr ⟨rfl, K, fr, S, bs, hra, hin, rfl⟩⟩, putD_len D K fr S x⟩
  · exact ⟨r, D, ⟨v, h, .inl ⟨h0, rfl⟩⟩, fun _ => rfl⟩
theorem brows_row {w : World} {lo hi : Nat} {ma : Option Addr} {n : Nat} {D : Nat → List Int} (h : BRows w lo hi ma n D) (K : Nat) (hK : K < n) (h0 : 0 < (D K).length) :
    ∃ b2 o2 bi oi ci, ma = some ⟨b2, o2, none⟩ ∧ w.cell? ⟨b2, o2 + K, none⟩ = some (.slice (some ⟨bi, oi, none⟩) (D K).length ci) ∧ (D K).length ≤ ci ∧ b2 ≠ bi ∧ lo ≤ bi ∧ bi < hi ∧ bi < w.heap.size ∧ ON .u8 w lo hi (some ⟨bi, oi, none⟩) (D K) bi ∧
      ∀ w' ws, ws.length = (D K).length → Betw bi (bi + 1) w w' → ON .u8 w' lo hi (some ⟨bi, oi, none⟩) ws bi → BRows w' lo hi ma n (fun i => if i = K then ws else D i) := by
  obtain ⟨B, off, A, C, R, h1, h2⟩ := h
  obtain ⟨e, g1, g2, g3⟩ := h1 (by omega)
  have hrow := h2.row K hK
  obtain ⟨oi, e1, k1, k2, k3, k4, k5⟩ := hrow h0
  have hb := h2.base K hK h0
  have hcl := h2.cell K hK
  rw [e1] at hcl hrow
  refine ⟨B, off, R K, oi, C K, e, hcl, h2.room K hK, fun c => hb c.symm, k1, k2, k3, hrow, fun w' ws hl hbt hon => ?_⟩
  refine ⟨B, off, A, C, R, fun _ => ⟨e, g1, g2, Nat.lt_of_lt_of_le g3 hbt.size⟩, h2.put K hK g3 ws hl hbt ?_ h0⟩
  rw [e1]
  exact hon
theorem betw00 {w w' : World} (h : Betw 0 0 w w') : Below w.heap.size w w' := ⟨h.os, h.tape, h.output, h.size, fun k hk => h.block k hk (.inr (Nat.zero_le _))⟩
theorem seg_lt2 {w : World} {a : Option Addr} {xs : List Wn} {K : Nat} (h : ASeg w a xs) (hK : K < xs.length) : ∃ b1 o1, a = some ⟨b1, o1, none⟩ ∧ b1 < w.heap.size ∧ w.cell? ⟨b1, o1 + K * 3, none⟩ = some (.int .i64 (xs.getD K wn0).1) := by
  obtain ⟨b1, o1, e, hbl, p0, _, _⟩ := ASeg.at h K hK
  exact ⟨b1, o1, e, hbl, p0⟩
def PAns (X : World) (rs : List Int) (rl : Nat) (pc : Int) (n : Nat) (D : Nat → List Int) (r : Int) (e : Ending) (w' : World) : Prop :=
  ∃ ra' ma' rc' mc', e = .returned (.tuple #[gst ra' rl rc' pc ma' n mc', .int .i64 r]) ∧ Below X.heap.size X w' ∧ Sep w' X.heap.size w'.heap.size ra' ma' rs n D
def QAns (X : World) (rs : List Int) (rl : Nat) (pc : Int) (n : Nat) (D : Nat → List Int) (r : Int) (e : Ending) (w' : World) : Prop :=
  ∃ ra' ma' rc' mc' m, e = .returned (.tuple #[gst ra' rl rc' pc ma' n mc', .int .i64 r]) ∧ Below X.heap.size X w' ∧ OGst w' X.heap.size m w'.heap.size ra' ma' rs n D ∧ X.heap.size ≤ m ∧ m ≤ w'.heap.size
theorem sep_no (w : World) (lo hi : Nat) (h : lo ≤ hi) : Sep w lo hi none none [] 0 noD := (og_no w lo lo hi).sep (Nat.le_refl _) h
set_option maxHeartbeats 4000000 in
theorem spec_poke_no (a ra ma : Option Addr) (cap wn rl rc n mc : Nat) (pc ad size x r : Int) (xs : List Wn) (rs : List Int) (D D1 : Nat → List Int) (w : World) (hs : ASeg w a xs) (hf : Fit xs) (hl : xs.length = wn) (hn : wn ≤ 9223372036854775807) (hc : wn ≤ cap) (hg : XGSeg w ra ma rs n D) (hrl : rs.length = rl) (hr1 : rl ≤ 1048576) (hn1 : n ≤ 1048576) (ht : btot D n ≤ 1048576) (hno : ¬ GOk xs rs n D) :
    Calls Try.prog 13 #[.slice a wn cap, gst ra rl rc pc ma n mc, .int .u32 ad, .int .i64 size, .int .u32 x] w fun e w' => e = .returned (.tuple #[gst none 0 0 0 none 0 0, .int .i64 9]) ∧ Below w.heap.size w w' := by
  have hbw : Below w.heap.size w ((w.alloc (.cells #[.slice ra rl rc, .int .u32 pc, .slice ma n mc] 28)).alloc (.cells #[.slice none 0 0, .int .u32 0, .slice none 0 0] 28)) := ((Below.refl _ w).alloc (Nat.le_refl _) _).alloc (by simp) _
  have B0 := (Bk.new w #[.slice ra rl rc, .int .u32 pc, .slice ma n mc] 28 w.heap.size rfl).alloc (.cells #[.slice none 0 0, .int .u32 0, .slice none 0 0] 28)
  have B1 := Bk.new (w.alloc (.cells #[.slice ra rl rc, .int .u32 pc, .slice ma n mc] 28)) #[.slice none 0 0, .int .u32 0, .slice none 0 0] 28 (w.heap.size + 1) (by simp)
  have HGK : Hid _ := spec_gok a ra ma cap wn rl rc n mc pc xs rs D false _ (hs.below hbw) hf hl hn hc (hg.below hbw) hrl ⟨fun h => (by cases h), fun h => absurd h hno⟩
  have HB : Hid (Below w.heap.size w _) := hbw
  have HB1 : Hid (Bk _ (w.heap.size + 1) #[.slice none 0 0, .int .u32 0, .slice none 0 0]) := B1
  have c0 := B0.cell 0 _ rfl
  have c1 := B0.cell 1 _ rfl
  have c2 := B0.cell 2 _ rfl
  clear hs hf hl hg hrl hno hbw B0 B1
  go_enter Try.func13, Try.ntmps13
  go_wp2_with fail
  refine Calls.mono HGK.out ?_
  rintro u w1 ⟨rfl, hb1⟩
  have HBW : Hid (Below w.heap.size w w1) := HB.out.trans (hb1.mono HB.out.size)
  have K1 := HB1.out.below hb1
  have d0 := K1.cell 0 _ rfl
  have d1 := K1.cell 1 _ rfl
  have d2 := K1.cell 2 _ rfl
  have df := K1.free
  clear K1 hb1 c0 c1 c2
  go_wp2
  refine bodyPost_ret (v := .tuple #[gst none 0 0 0 none 0 0, .int .i64 9]) (by simp [results, Try.results13, go_sem, d0, d1, d2]) rfl ⟨rfl, ?_⟩
  exact ((HBW.out.setCell (p := ⟨w.heap.size + 1, 0, none⟩) (by simp) _).setCell (p := ⟨w.heap.size + 1, 1, none⟩) (by simp) _).setCell (p := ⟨w.heap.size + 1, 2, none⟩) (by simp) _
set_option maxRecDepth 20000 in
set_option maxHeartbeats 8000000 in
theorem spec_poke (a ra ma : Option Addr) (cap wn rl rc n mc : Nat) (pc ad size x r : Int) (xs : List Wn) (rs : List Int) (D D1 : Nat → List Int) (w : World) (hs : ASeg w a xs) (hf : Fit xs) (hl : xs.length = wn) (hn : wn ≤ 9223372036854775807) (hc : wn ≤ cap) (hg : XGSeg w ra ma rs n D) (hrl : rs.length = rl) (hr1 : rl ≤ 1048576) (hn1 : n ≤ 1048576) (ht : btot D n ≤ 1048576) (hgo : GOk xs rs n D) (hpk : PkP xs n D ad size x r D1) (had : 0 ≤ ad ∧ ad < 4294967296) (hx0 : 0 ≤ x) (hx1 : x ≤ 4294967295) :
    Calls Try.prog 13 #[.slice a wn cap, gst ra rl rc pc ma n mc, .int .u32 ad, .int .i64 size, .int .u32 x] w (PAns w rs rl pc n D1 r) := by
  have hwn : n = wn := hgo.2.2.2.1.trans hl
  subst hwn
  have hbw : Below w.heap.size w ((w.alloc (.cells #[.slice ra rl rc, .int .u32 pc, .slice ma n mc] 28)).alloc (.cells #[.slice none 0 0, .int .u32 0, .slice none 0 0] 28)) := ((Below.refl _ w).alloc (Nat.le_refl _) _).alloc (by simp) _
  have B0 := (Bk.new w #[.slice ra rl rc, .int .u32 pc, .slice ma n mc] 28 w.heap.size rfl).alloc (.cells #[.slice none 0 0, .int .u32 0, .slice none 0 0] 28)
  have B1 := Bk.new (w.alloc (.cells #[.slice ra rl rc, .int .u32 pc, .slice ma n mc] 28)) #[.slice none 0 0, .int .u32 0, .slice none 0 0] 28 (w.heap.size + 1) (by simp)
  have HGK : Hid _ := spec_gok a ra ma cap n rl rc n mc pc xs rs D true _ (hs.below hbw) hf hl hn hc (hg.below hbw) hrl ⟨fun _ => hgo, fun _ => rfl⟩
  have HB : Hid (Below w.heap.size w _) := hbw
  have HK : Hid (Bk _ w.heap.size #[.slice ra rl rc, .int .u32 pc, .slice ma n mc] ∧ Bk _ (w.heap.size + 1) #[.slice none 0 0, .int .u32 0, .slice none 0 0]) := ⟨B0, B1⟩
  have HS : Hid (ASeg w a xs ∧ XGSeg w ra ma rs n D ∧ rs.length = rl ∧ btot D n ≤ 1048576 ∧ xs.length = n) := ⟨hs, hg, hrl, ht, hl⟩
  have HGO : Hid (GOk xs rs n D ∧ PkP xs n D ad size x r D1) := ⟨hgo, hpk⟩
  have HAD : Hid _ := had
  have had0 := had.1
  have had1 := had.2
  have c0 := B0.cell 0 _ rfl
  have c1 := B0.cell 1 _ rfl
  have c2 := B0.cell 2 _ rfl
  clear hs hf hl hg hrl hgo hpk had hbw B0 B1 ht
  go_enter Try.func13, Try.ntmps13
  go_wp2_with fail
  refine Calls.mono HGK.out ?_
  rintro u w1 ⟨rfl, hb1⟩
  have HB1 : Hid (Below w.heap.size w w1) := HB.out.trans (hb1.mono HB.out.size)
  have HK1 : Hid (Bk w1 w.heap.size #[.slice ra rl rc, .int .u32 pc, .slice ma n mc] ∧ Bk w1 (w.heap.size + 1) #[.slice none 0 0, .int .u32 0, .slice none 0 0]) := ⟨HK.out.1.below hb1, HK.out.2.below hb1⟩
  clear c0 c1 c2 hb1 HK HB HGK
  have c0 := HK1.out.1.cell 0 _ rfl
  have c1 := HK1.out.1.cell 1 _ rfl
  have c2 := HK1.out.1.cell 2 _ rfl
  go_wp2_with fail
  refine Calls.mono (spec_copy pc ra ma rl rc n mc rs D w1 (HS.out.2.1.below HB1.out) HS.out.2.2.1 hr1 hn1 HS.out.2.2.2.1) ?_
  rintro u w2 ⟨ra2, ma2, rc2, mc2, rfl, hb2, ho2⟩
  have hal : Below w2.heap.size w2 (w2.alloc (.cells #[.slice ra2 rl rc2, .int .u32 pc, .slice ma2 n mc2] 28)) := (Below.refl _ _).alloc (Nat.le_refl _) _
  have hb2' := hb2.trans (hal.mono hb2.size)
  have HB2 : Hid (Below w.heap.size w _) := HB1.out.trans (hb2'.mono HB1.out.size)
  have HV2 : Hid (Bk _ w2.heap.size #[.slice ra2 rl rc2, .int .u32 pc, .slice ma2 n mc2] ∧ Bk _ (w.heap.size + 1) #[.slice none 0 0, .int .u32 0, .slice none 0 0]) := ⟨Bk.new w2 _ 28 w2.heap.size rfl, HK1.out.2.below hb2'⟩
  have HO2 : Hid (Sep _ w1.heap.size w2.heap.size ra2 ma2 rs n D) := ho2.below hal
  have hz1 : w.heap.size + 1 < w1.heap.size := HK1.out.2.lt
  have hz2 : w1.heap.size ≤ w2.heap.size := hb2.size
  clear c0 c1 c2 hb2 hb2' hal ho2 HK1
  obtain ⟨v, hrd, hcase⟩ := HGO.out.2
  have HRD : Hid (RdP xs n D ad size 2 v r) := hrd
  have HCS : Hid ((¬ r = 0 ∧ D1 = D) ∨ (r = 0 ∧ ∃ K fr S bs, AtP xs n ad ((K : Nat) : Int) ∧ AccIn xs n D ad size K fr S bs ∧ D1 = putD D K fr S x)) := hcase
  clear hrd hcase
  go_wp2_with fail
  refine Calls.mono (fault_s HGO.out.1 HRD.out a cap _ (HS.out.1.below HB2.out) HAD.out) ?_
  rintro u w3 ⟨rfl, hb3⟩
  have HB3 : Hid (Below w.heap.size w w3) := HB2.out.trans (hb3.mono HB2.out.size)
  have HV3 : Hid (Bk w3 w2.heap.size #[.slice ra2 rl rc2, .int .u32 pc, .slice ma2 n mc2] ∧ Bk w3 (w.heap.size + 1) #[.slice none 0 0, .int .u32 0, .slice none 0 0]) := ⟨HV2.out.1.below hb3, HV2.out.2.below hb3⟩
  have HO3 : Hid (Sep w3 w1.heap.size w2.heap.size ra2 ma2 rs n D) := Sep.below HO2.out hb3
  have hz3 : w2.heap.size < w3.heap.size := HV3.out.1.lt
  clear hb3 HB2 HV2 HO2
  by_cases hr0 : r = 0
  · subst hr0
    have hin : ∃ K fr S bs, AtP xs n ad ((K : Nat) : Int) ∧ AccIn xs n D ad size K fr S bs ∧ D1 = putD D K fr S x := by
      rcases HCS.out with ⟨h, _⟩ | ⟨_, h⟩
      · exact absurd rfl h
      · exact h
    obtain ⟨K, fr, S, bs, hatp, hacc, hD1⟩ := hin
    have HAT : Hid (AtP xs n ad ((K : Nat) : Int)) := hatp
    obtain ⟨k1, k2, k3, k4, rfl, rfl, k7, k8, k9⟩ := hacc
    obtain ⟨l2, h2, g1, g2, hm, R, hR, hRs⟩ := HO3.out
    obtain ⟨b2, o2, bi, oi, ci, rfl, e2, hlc, hne, hlo, hhi, hbiw, hon, hput⟩ := brows_row hm K k1 (by omega)
    obtain ⟨b1, o1, rfl, hbl1, p0⟩ := seg_lt2 HS.out.1 (K := K) (by rw [HS.out.2.2.2.2]; exact k1)
    have hp0 := kept_cell HB3.out p0
    rw [k2] at hp0
    have HPT : Hid _ := spec_put ra2 cap n rl rc2 n mc2 K fr S b1 o1 b2 o2 bi oi (D K).length ci l2 h2 pc bs x (D K) w3 hx0 hx1 (fun X hX => spec_l07at _ cap n xs _ _ X (HS.out.1.below (HB3.out.trans ((betw00 hX).mono HB3.out.size))) HS.out.2.2.2.2 HGO.out.1.1 HAT.out) hp0 e2 hon rfl k1 k1 k3 k4 k8 k9 (by omega) (by omega) hne (by omega)
    have HFX : Hid (∀ w', Betw bi (bi + 1) w3 w' → ON .u8 w' l2 h2 (some ⟨bi, oi, none⟩) (putRow (D K) fr S x) bi → Sep w' w1.heap.size w2.heap.size ra2 (some ⟨b2, o2, none⟩) rs n D1) := fun w' hbt ho => by
      rw [hD1]
      exact ⟨l2, h2, g1, g2, hput w' _ (putRow_len _ _ _ _) hbt ho, R, hR.betw hbt (fun h0 => by have := hRs h0; omega), hRs⟩
    have p0' := HV3.out.1.cell 0 _ rfl
    have p1' := HV3.out.1.cell 1 _ rfl
    have p2' := HV3.out.1.cell 2 _ rfl
    clear hm hR hon hput e2 p0 hp0 hD1 hRs HAT hatp k2
    go_wp2_with fail
    refine Calls.mono HPT.out ?_
    rintro u w4 ⟨rfl, hb4, ho4⟩
    have hseg := HFX.out w4 hb4 ho4
    have V4 := HV3.out.1.betw hb4 (.inr (by omega))
    have K4 := HV3.out.2.betw hb4 (.inl (by omega))
    have hz4 := hb4.size
    have hbw4 := HB3.out.trans (hb4.below (by omega) HB3.out.size)
    have HZ : Hid (True ∧ Below w.heap.size w w4) := ⟨trivial, hbw4⟩
    have p0 := V4.cell 0 _ rfl
    have p1 := V4.cell 1 _ rfl
    have p2 := V4.cell 2 _ rfl
    have d0 := K4.cell 0 _ rfl
    have d1 := (K4.set 0 (.slice ra2 rl rc2) (by simp) rfl).cell 1 _ rfl
    have d2 := ((K4.set 0 (.slice ra2 rl rc2) (by simp) rfl).set 1 (.int .u32 pc) (by simp) rfl).cell 2 _ rfl
    have df := K4.free
    have G2 := ((K4.set 0 (.slice ra2 rl rc2) (by simp) rfl).set 1 (.int .u32 pc) (by simp) rfl).set 2 (.slice (some ⟨b2, o2, none⟩) n mc2) (by simp) rfl
    have n0 := G2.cell 0 _ rfl
    have n1 := G2.cell 1 _ rfl
    have n2 := G2.cell 2 _ rfl
    have HBT : Hid (∀ v0 v1 v2, Sep (((w4.setCell ⟨w.heap.size + 1, 0, none⟩ v0).setCell ⟨w.heap.size + 1, 1, none⟩ v1).setCell ⟨w.heap.size + 1, 2, none⟩ v2) w.heap.size (((w4.setCell ⟨w.heap.size + 1, 0, none⟩ v0).setCell ⟨w.heap.size + 1, 1, none⟩ v1).setCell ⟨w.heap.size + 1, 2, none⟩ v2).heap.size ra2 (some ⟨b2, o2, none⟩) rs n D1) := fun v0 v1 v2 => (hseg.betw ((((Betw.refl (w.heap.size + 1) (w.heap.size + 1 + 1) w4).setCell (p := ⟨w.heap.size + 1, 0, none⟩) (by simp) (by simp) v0).setCell (p := ⟨w.heap.size + 1, 1, none⟩) (by simp) (by simp) v1).setCell (p := ⟨w.heap.size + 1, 2, none⟩) (by simp) (by simp) v2) (.inr (by omega))).wide (by omega) (by simp; omega)
    clear hseg V4 K4 G2 hbw4 hb4 ho4 HPT HFX p0' p1' p2'
    go_wp2
    refine bodyPost_ret (v := .tuple #[gst ra2 rl rc2 pc (some ⟨b2, o2, none⟩) n mc2, .int .i64 0]) (by simp [results, Try.results13, go_sem, n0, n1, n2]) rfl ⟨_, _, _, _, rfl, ?_, HBT.out _ _ _⟩
    exact ((HZ.out.2.setCell (p := ⟨w.heap.size + 1, 0, none⟩) (by simp) _).setCell (p := ⟨w.heap.size + 1, 1, none⟩) (by simp) _).setCell (p := ⟨w.heap.size + 1, 2, none⟩) (by simp) _
  · have hr0' : (r == 0) = false := beq_eq_false_iff_ne.2 hr0
    have hD1 : D1 = D := by
      rcases HCS.out with ⟨_, h⟩ | ⟨h, _⟩
      · exact h
      · exact absurd h hr0
    subst hD1
    have V4 := HV3.out.1
    have K4 := HV3.out.2
    have hseg := HO3.out
    have HBT : Hid (∀ v0 v1 v2, Sep (((w3.setCell ⟨w.heap.size + 1, 0, none⟩ v0).setCell ⟨w.heap.size + 1, 1, none⟩ v1).setCell ⟨w.heap.size + 1, 2, none⟩ v2) w.heap.size (((w3.setCell ⟨w.heap.size + 1, 0, none⟩ v0).setCell ⟨w.heap.size + 1, 1, none⟩ v1).setCell ⟨w.heap.size + 1, 2, none⟩ v2).heap.size ra2 ma2 rs n D1) := fun v0 v1 v2 => (Sep.betw hseg ((((Betw.refl (w.heap.size + 1) (w.heap.size + 1 + 1) w3).setCell (p := ⟨w.heap.size + 1, 0, none⟩) (by simp) (by simp) v0).setCell (p := ⟨w.heap.size + 1, 1, none⟩) (by simp) (by simp) v1).setCell (p := ⟨w.heap.size + 1, 2, none⟩) (by simp) (by simp) v2) (.inr (by omega))).wide (by omega) (by simp; omega)
    have p0 := V4.cell 0 _ rfl
    have p1 := V4.cell 1 _ rfl
    have p2 := V4.cell 2 _ rfl
    have d0 := K4.cell 0 _ rfl
    have d1 := (K4.set 0 (.slice ra2 rl rc2) (by simp) rfl).cell 1 _ rfl
    have d2 := ((K4.set 0 (.slice ra2 rl rc2) (by simp) rfl).set 1 (.int .u32 pc) (by simp) rfl).cell 2 _ rfl
    have df := K4.free
    have G2 := ((K4.set 0 (.slice ra2 rl rc2) (by simp) rfl).set 1 (.int .u32 pc) (by simp) rfl).set 2 (.slice ma2 n mc2) (by simp) rfl
    have n0 := G2.cell 0 _ rfl
    have n1 := G2.cell 1 _ rfl
    have n2 := G2.cell 2 _ rfl
    clear hseg V4 K4 G2
    go_wp2
    refine bodyPost_ret (v := .tuple #[gst ra2 rl rc2 pc ma2 n mc2, .int .i64 r]) (by simp [results, Try.results13, go_sem, n0, n1, n2]) rfl ⟨_, _, _, _, rfl, ?_, HBT.out _ _ _⟩
    exact ((HB3.out.setCell (p := ⟨w.heap.size + 1, 0, none⟩) (by simp) _).setCell (p := ⟨w.heap.size + 1, 1, none⟩) (by simp) _).setCell (p := ⟨w.heap.size + 1, 2, none⟩) (by simp) _
end Go.Proofs.Ytjlhkjiccibgdaa
