
/-
  The law FnPages, walked. Conditions: the bytes are at most 1048576.
-/
import Derived.Test.YtdjfijkgmeapdaaProg
import Derived.Test.YtdjfijkgmeapdaaFps
namespace Go.Proofs.Ytdjfijkgmeapdaa
open Go.ChangeShapes Go.WideShapes Go.ChangeAt Go.RowKit Go.Deep
set_option linter.unusedVariables false

abbrev TU (s : Int) (g N nc : Nat) (q : Bool) : Value := .tuple #[tlb s (.slice (some ⟨g, 0, none⟩) N nc), .bool q]
theorem OwnL.ne {w : World} {base : Nat} {v : Value} {zs : List Int} (h : OwnL w base v zs) (h0 : 0 < zs.length) : v ≠ .slice none 0 0 := fun e => by
  rcases h.2 with ⟨_, h1⟩ | ⟨g, cap, cur, e', _⟩
  · omega
  · rw [e] at e'; injection e' with e1; cases e1
theorem TU.inj {s : Int} {g N nc g' nc' : Nat} {q : Bool} (h : TU s g N nc q = TU s g' N nc' q) : g = g' ∧ nc = nc' := by
  injection h with h
  have h1 : tlb s (.slice (some ⟨g, 0, none⟩) N nc) = tlb s (.slice (some ⟨g', 0, none⟩) N nc') := by
    have := congrArg (fun a => a[0]?) h
    simpa using this
  injection h1 with h1
  have h2 : Value.slice (some ⟨g, 0, none⟩) N nc = .slice (some ⟨g', 0, none⟩) N nc' := by
    have := congrArg (fun a => a[1]?) h1
    simpa using this
  injection h2 with e1 e2 e3
  injection e1 with e1
  injection e1 with e1
  exact ⟨e1, e3⟩
/-- What stands while a table is used and its room laid. -/
structure R19 (wr : World) (x0 av iv pv mv : Value) (s : Int) (N : Nat) (q : Bool) (R : List Int) (w' : World) (b0 b1 b2 b3 b4 b5 b6 b7 b8 b9 b10 b11 : Bool) (x71 x72 x73 x74 x75 x76 x70 x77 x78 x10 x11 : Value) : Prop where
  gb : Below wr.heap.size wr w'
  f0 : b0 = true → x71 = x0
  f1 : b1 = true → x72 = av
  f2 : b2 = true → x73 = iv
  f3 : b3 = true → x74 = pv
  f4 : b4 = true → x75 = mv
  f5 : b5 = true → ∃ g nc, x76 = TU s g N nc q ∧ N ≤ nc ∧ OwnL w' wr.heap.size (.slice (some ⟨g, 0, none⟩) N nc) R
  f6 : b6 = true → b5 = true ∧ x70 = x76
  f7 : b7 = true → b5 = true ∧ ∀ g nc, x76 = TU s g N nc q → x77 = tlb s (.slice (some ⟨g, 0, none⟩) N nc)
  f8 : b8 = true → x78 = .bool q
  f9 : b9 = true → ∃ Q, x10 = .pointer (some ⟨Q, 0, none⟩) ∧ wr.heap.size ≤ Q ∧ (b10 = false → Bk w' Q #[.int .i64 0, .slice none 0 0]) ∧ (b10 = true → ∀ g nc, x76 = TU s g N nc q → Bk w' Q #[.int .i64 s, .slice (some ⟨g, 0, none⟩) N nc]) ∧ (b5 = true → ∀ g nc, x76 = TU s g N nc q → g ≠ Q)
  f10 : b10 = true → b9 = true ∧ b7 = true
  f11 : b11 = true → x11 = .bool q
theorem R19.below {wr : World} {x0 av iv pv mv : Value} {s : Int} {N : Nat} {q : Bool} {R : List Int} {w' w'' : World} {b0 b1 b2 b3 b4 b5 b6 b7 b8 b9 b10 b11 : Bool} {x71 x72 x73 x74 x75 x76 x70 x77 x78 x10 x11 : Value} (h : R19 wr x0 av iv pv mv s N q R w' b0 b1 b2 b3 b4 b5 b6 b7 b8 b9 b10 b11 x71 x72 x73 x74 x75 x76 x70 x77 x78 x10 x11) (hb : Below w'.heap.size w' w'') : R19 wr x0 av iv pv mv s N q R w'' b0 b1 b2 b3 b4 b5 b6 b7 b8 b9 b10 b11 x71 x72 x73 x74 x75 x76 x70 x77 x78 x10 x11 :=
  ⟨h.gb.trans (hb.mono h.gb.size), h.f0, h.f1, h.f2, h.f3, h.f4, fun e => by obtain ⟨g, nc, e1, e2, e3⟩ := h.f5 e; exact ⟨g, nc, e1, e2, e3.below hb⟩, h.f6, h.f7, h.f8, fun e => by obtain ⟨Q, e1, e2, e3, e4, e5⟩ := h.f9 e; exact ⟨Q, e1, e2, fun z => (e3 z).below hb, fun z g nc y => (e4 z g nc y).below hb, e5⟩, h.f10, h.f11⟩
set_option maxRecDepth 20000 in
set_option maxHeartbeats 16000000 in
theorem pages_law (a : Option Addr) (n0 cap : Nat) (z0 : List Int) (w : World) (hl : z0.length = n0) (hs : Seg .u8 w a z0) (hb : ∀ z ∈ z0, (Lit.int .u8 z).wf = true) (hn0 : n0 ≤ 1048576) :
    Calls Try.prog 3 #[.slice a n0 cap] w fun e w' => e = .returned (.bool true) ∧ Below w.heap.size w w' := by
  have HD : Hid (Calls Try.prog 5 #[.slice a n0 cap] w (DTP w)) := draw_run w a z0 cap n0 hs hb hl hn0
  have HG : Hid (Calls Try.prog 4 #[.slice a n0 cap] w fun e w' => e = .returned (.bool false) ∧ w' = w) := big_no a n0 cap w hn0
  clear hs hb hl
  go_enter Try.func3, Try.ntmps3
  go_wp2_with fail
  refine Calls.mono HG.out ?_
  rintro u w0 ⟨rfl, rfl⟩
  clear HG
  go_wp2_with fail
  refine Calls.mono HD.out ?_
  rintro e w1 ⟨s, v1, zs, rfl, hzl, hb1, ho1, hv1⟩
  clear HD
  obtain ⟨n, hn⟩ : ∃ n, zs.length = n := ⟨_, rfl⟩
  obtain ⟨ab, ac, rfl, hac⟩ := ho1.shape hv1 hn
  obtain ⟨ao, hao⟩ : ∃ o, o = 0 := ⟨0, rfl⟩
  have hs1 : Seg .i64 w1 (some ⟨ab, ao, none⟩) zs := by
    obtain ⟨a', c', e, hs'⟩ := ho1.seg
    injection e with e1 e2 e3
    rw [hao, e1]; exact hs'
  have HZL : Hid (zs.length = n) := hn
  have hnb : n ≤ 2002 := by omega
  have HS1 : Hid (Seg .i64 w1 (some ⟨ab, ao, none⟩) zs ∧ ab < w1.heap.size) := ⟨hs1, (ho1.lt ab rfl).2⟩
  have HB1 : Hid (Below w0.heap.size w0 w1) := hb1
  rw [show (⟨ab, 0, none⟩ : Addr) = ⟨ab, ao, none⟩ by rw [hao]]
  clear hzl hb1 ho1 hv1 hac hs1 hn hao
  obtain ⟨bs, HBS⟩ : ∃ bs, Hid ((RunP s n zs → bs = hitsT s zs n) ∧ (¬ RunP s n zs → bs = [])) := by
    by_cases h : RunP s n zs
    · exact ⟨hitsT s zs n, fun _ => rfl, fun g => absurd h g⟩
    · exact ⟨[], fun g => absurd g h, fun _ => rfl⟩
  go_wp2_with fail
  refine Calls.mono (impl_run s _ ac n zs _ HS1.out.1 HZL.out (by omega) bs HBS.out.1 HBS.out.2) ?_
  rintro e w2 ⟨v2, rfl, hb2, ho2⟩
  obtain ⟨nb, hnbl⟩ : ∃ l, bs.length = l := ⟨_, rfl⟩
  obtain ⟨ga, gc, rfl, hgi⟩ := ho2.bi
  rw [hnbl]
  have HNB : Hid (bs.length = nb) := hnbl
  have HGS : Hid (BSeg w2 ga bs ∧ ∀ b off, ga = some ⟨b, off, none⟩ → 0 < bs.length → b < w2.heap.size) := ⟨hgi.seg, fun b off e h0 => by
    obtain ⟨b', off', e', hl', _⟩ := hgi.seg h0
    rw [e] at e'; injection e' with e'; injection e' with e1; omega⟩
  have HB2 : Hid (Below w0.heap.size w0 w2) := HB1.out.trans (hb2.mono HB1.out.size)
  have HS2 : Hid (Seg .i64 w2 (some ⟨ab, ao, none⟩) zs ∧ ab < w2.heap.size) := ⟨HS1.out.1.below hb2, Nat.lt_of_lt_of_le HS1.out.2 hb2.size⟩
  clear hb2 ho2 hgi hnbl HB1 HS1
  go_wp2_with fail
  refine Calls.mono (spec_run s _ ac n zs _ HS2.out.1 HZL.out (by omega) bs HBS.out.1 HBS.out.2) ?_
  rintro e w3 ⟨v3, rfl, hb3, ho3⟩
  obtain ⟨g3, c3, rfl, _⟩ := ho3.bi
  rw [HNB.out]
  have hnn : ((nb : Int) != (nb : Int)) = false := by simp
  have HB3 : Hid (Below w0.heap.size w0 w3) := HB2.out.trans (hb3.mono HB2.out.size)
  have HS3 : Hid (Seg .i64 w3 (some ⟨ab, ao, none⟩) zs ∧ ab < w3.heap.size) := ⟨HS2.out.1.below hb3, Nat.lt_of_lt_of_le HS2.out.2 hb3.size⟩
  have HGS3 : Hid (BSeg w3 ga bs ∧ ∀ b off, ga = some ⟨b, off, none⟩ → 0 < bs.length → b < w3.heap.size) := ⟨HGS.out.1.below hb3, fun b off e h0 => Nat.lt_of_lt_of_le (HGS.out.2 b off e h0) hb3.size⟩
  clear hb3 ho3 HB2 HS2 HGS
  obtain ⟨base, hbase⟩ : ∃ b, b = w3.heap.size := ⟨_, rfl⟩
  have hal3 : Below w3.heap.size w3 (w3.alloc (.cells #[] 3)) := (Below.refl _ _).alloc (Nat.le_refl _) _
  have HV4 : Hid (OwnL (w3.alloc (.cells #[] 3)) base (.slice (some ⟨base, 0, none⟩) 0 0) []) := by rw [hbase]; exact OwnL.new _ _ rfl
  have HB4 : Hid (Below w0.heap.size w0 (w3.alloc (.cells #[] 3))) := HB3.out.trans (hal3.mono HB3.out.size)
  have HS4 : Hid (Seg .i64 (w3.alloc (.cells #[] 3)) (some ⟨ab, ao, none⟩) zs ∧ ab < base) := ⟨HS3.out.1.below hal3, by rw [hbase]; exact HS3.out.2⟩
  have HG4 : Hid (BSeg (w3.alloc (.cells #[] 3)) ga bs ∧ ∀ b off, ga = some ⟨b, off, none⟩ → 0 < bs.length → b < base) := ⟨HGS3.out.1.below hal3, fun b off e h0 => by rw [hbase]; exact HGS3.out.2 b off e h0⟩
  have HZ4 : Hid (base < (w3.alloc (.cells #[] 3)).heap.size ∧ w0.heap.size ≤ base) := ⟨by rw [hbase]; simp, by rw [hbase]; exact HB3.out.size⟩
  clear HB3 HS3 HGS3 hal3
  go_wp2_with fail
  revert HV4 HB4 HS4 HG4 HZ4
  generalize (w3.alloc (.cells #[] 3)) = w4
  try rw [← hbase]
  clear hbase
  intro HV4 HB4 HS4 HG4 HZ4
  refine Calls.mono (impl_tem s _) ?_
  rintro e w5 ⟨⟨ta0, rfl⟩, hb5⟩
  by_cases hnb0 : nb = 0
  · subst hnb0
    have HBE : Hid (Below w0.heap.size w0 (w5.alloc (.cells #[.int .i64 (emS s), .slice ta0 0 0] 30))) := (HB4.out.trans (hb5.mono HB4.out.size)).alloc (Nat.le_trans HB4.out.size hb5.size) _
    clear hb5
    go_wp2
    refine wp_loop_rounds 1 ?_
    rw [rounds_succ]
    go_wp2
    go_ret
    exact ⟨rfl, HBE.out⟩
  have HRP : Hid (RunP s n zs) := by
    by_cases h : RunP s n zs
    · exact h
    · have := HBS.out.2 h
      have := HNB.out
      subst_vars
      simp at hnb0
  have HBH : Hid (bs = hitsT s zs n) := HBS.out.1 HRP.out
  have hnbn : nb = n := by rw [← HNB.out, HBH.out, hitsT_len]
  subst hnbn
  have hs8 := of_inr HRP.out.1
  have HES : Hid (emS s = s) := by show _ = _; unfold emS; rw [if_pos HRP.out.1]
  rw [HES.out]
  obtain ⟨T7, hT7⟩ : ∃ t, w5.heap.size = t := ⟨_, rfl⟩
  have HF0 : Hid (FP w0 (w5.alloc (.cells #[.int .i64 s, .slice ta0 0 0] 30)) T7 base s zs bs ga (some ⟨ab, ao, none⟩) (.slice (some ⟨base, 0, none⟩) 0 0) 0 [] ta0 0 0) := by
    have hz := HZ4.out
    have hz5 := hb5.size
    have ha : Below w5.heap.size w5 (w5.alloc (.cells #[.int .i64 s, .slice ta0 0 0] 30)) := (Below.refl _ _).alloc (Nat.le_refl _) _
    have hx : Below w4.heap.size w4 (w5.alloc (.cells #[.int .i64 s, .slice ta0 0 0] 30)) := hb5.trans (ha.mono hb5.size)
    exact ⟨HB4.out.trans (hx.mono HB4.out.size), HG4.out.1.below hx, HG4.out.2, HS4.out.1.below hx, fun b off e h0 => by injection e with e; injection e with e1; have := HS4.out.2; omega, HV4.out.below hx, by simp, Bk.new _ _ _ _ hT7.symm, by omega, fun g e => by
      have e' : base = g := by have : some base = some g := e; injection this
      omega, rfl, Nat.le_refl _, fun h0 => by simp [runT] at h0, fun b off e h0 => by simp [runT] at h0, by rw [nblk_alloc]; omega, hz.2⟩
  clear HV4 HB4 HS4 HG4 HZ4 hb5
  go_wp2
  revert HF0
  generalize (w5.alloc (.cells #[.int .i64 s, .slice ta0 0 0] 30)) = w6
  try rw [hT7]
  clear hT7
  intro HF0
  obtain ⟨iS, hi1, hi2, hi3, hi4⟩ := info3'
  have HIN : Hid (Try.prog.info? 3 = some iS ∧ iS.zero = some (.int .i64 0) ∧ iS.size = 1 ∧ iS.bytes = 8) := ⟨hi1, hi2, hi3, hi4⟩
  clear hi1 hi2 hi3 hi4
  go_loopw [6, 8] (fun v i wr => ∃ (k : Nat), k ≤ nb ∧ k ≤ 150 ∧ i = .int .i64 k ∧ Hid (∃ ta tn tc ps, ps = seenT zs k ∧ FP w0 wr T7 base s zs bs ga (some ⟨ab, ao, none⟩) v k ps ta tn tc)) (fun _ i _ => nb - (intOf i).toNat)
  case atStart => exact ⟨0, by omega, by omega, rfl, ta0, 0, 0, [], rfl, HF0.out⟩
  case round =>
    obtain ⟨k, hk, hk150, rfl, HR⟩ := hrel
    clear HF0
    by_cases hkn : k < nb
    rotate_left
    · have HE : Hid (Below w0.heap.size w0 wr) := by obtain ⟨_, _, _, _, _, h⟩ := HR.out; exact h.bel
      go_wp2
      go_ret
      exact ⟨rfl, HE.out⟩
    have hkn' : (k : Int) < (nb : Int) := by omega
    by_cases hk5 : k < 150
    rotate_left
    · have hk5' : ¬ ((k : Int) < 150) := by omega
      have HE : Hid (Below w0.heap.size w0 wr) := by obtain ⟨_, _, _, _, _, h⟩ := HR.out; exact h.bel
      go_wp2
      go_ret
      exact ⟨rfl, HE.out⟩
    have hk5' : (k : Int) < 150 := by omega
    obtain ⟨ta, tn, tc, ps, hps, hfp⟩ := HR.out
    have HB : Hid (FP w0 wr T7 base s zs bs ga (some ⟨ab, ao, none⟩) u6 k ps ta tn tc) := hfp
    have HPS : Hid (ps = seenT zs k) := hps
    clear HR hps hfp
    have haz := of_inr (HRP.out.2.2 k hkn)
    obtain ⟨m, hm⟩ : ∃ m : Nat, zs.getD k 0 = (m : Int) := ⟨(zs.getD k 0).toNat, by omega⟩
    have HMZ : Hid (zs.getD k 0 = (m : Int)) := hm
    have hm5 : m ≤ 65535 := by omega
    clear haz hm
    obtain ⟨p, HP⟩ : ∃ p : Nat, Hid (m / 64 = p) := ⟨_, rfl⟩
    have HPG : Hid (pgZ zs k = (p : Int)) := by show _ = _; unfold pgZ; rw [HMZ.out, Int.toNat_natCast, HP.out]
    have hpp : p ≤ 1023 := by have := HP.out; omega
    have hquo : Int.tdiv (m : Int) 64 = (p : Int) := by rw [Int.tdiv_eq_ediv_of_nonneg (by omega)]; have := HP.out; omega
    have hwq : IntKind.i64.wrap (p : Int) = (p : Int) := by rw [IntKind.wrap_i64]; omega
    obtain ⟨R, HRR⟩ : ∃ R, Hid (R = runT s zs (k + 1)) := ⟨_, rfl⟩
    have HRU : Hid (useU s (runT s zs k) (p : Int) = R) := by show _ = _; rw [HRR.out, ← HPG.out]; rfl
    obtain ⟨N, hRN⟩ : ∃ N, R.length = N := ⟨_, rfl⟩
    have HRN : Hid (R.length = N) := hRN
    have HRN1 : Hid ((runT s zs (k + 1)).length = N) := by rw [← HRR.out]; exact hRN
    have HOKT : Hid (TlbOkP s (runT s zs k) ∧ TlbOkP s R) := ⟨run_ok HRP.out.1 HRP.out.2.2 k (by omega), by rw [HRR.out]; exact run_ok HRP.out.1 HRP.out.2.2 (k + 1) (by omega)⟩
    have HN8 : Hid (N ≤ 8 ∧ tn ≤ 8) := ⟨by have := HOKT.out.2.2.1; omega, by have := HOKT.out.1.2.1; have := HB.out.tl; omega⟩
    have HR0 : Hid (0 < R.length) := by
      show 0 < R.length
      have : (p : Int) ∈ R := by rw [← HRU.out]; exact use_has _ _ _
      exact List.length_pos_of_mem this
    have HHO : Hid (THoldP s R (m : Int)) := ⟨HOKT.out.2, inr_yes ⟨by omega, by omega⟩, by
      have : pageN (m : Int) = (p : Int) := by unfold pageN; rw [Int.toNat_natCast, HP.out]
      rw [this, ← HRU.out]
      exact List.contains_iff_mem.2 (use_has _ _ _)⟩
    obtain ⟨qq, HQQ⟩ : ∃ q, Hid ((runT s zs k).contains (p : Int) = q) := ⟨_, rfl⟩
    have HRS : Hid (qq = true → R = runT s zs k) := fun h => by rw [← HRU.out]; exact use_same (HQQ.out.trans h)
    have HBV : Hid (bs.getD k false = qq) := by
      show _ = _
      rw [HBH.out, ← HQQ.out, ← HPG.out]
      simp [hitsT, List.getD, hkn]
    have HKB : Hid (k < bs.length) := by show k < bs.length; rw [HNB.out]; exact hkn
    have HTU : Hid (∀ X, Below wr.heap.size wr X → Calls Try.prog 10 #[tlb s (.slice ta tn tc), .int .i64 (m : Int)] X (UPost X s qq R)) := fun X hX => impl_tu_yes s m p ta tc tn (runT s zs k) X ((HB.out.below hX).ts) HB.out.tl (by have := HN8.out; omega) HB.out.tc' HOKT.out.1 hm5 HP.out qq HQQ.out R HRU.out
    have HCA0 : Hid (∀ X, Below wr.heap.size wr X → X.cell? ⟨ab, ao + k, none⟩ = some (.int .i64 (m : Int))) := fun X hX => by
      obtain ⟨b', o', e', _, hc⟩ := (HB.out.below hX).adr (by rw [HZL.out]; omega)
      injection e' with e'
      injection e' with e1 e2
      rw [e1, e2, hc k (by rw [HZL.out]; exact hkn), HMZ.out]
    have HSL : Hid ((ps.length : Int) ≤ s → qq = true ∨ ¬ (p : Int) ∈ ps) := fun h => by
      by_cases hin : (p : Int) ∈ ps
      · refine .inl ?_
        rw [← HQQ.out, run_all s zs k (by rw [← HPS.out]; exact h), ← HPS.out]
        exact List.contains_iff_mem.2 hin
      · exact .inr hin
    have HSB : Hid (¬ (p : Int) ∈ ps → qq = false) := fun h => by
      rw [← HQQ.out]
      cases hc : (runT s zs k).contains (p : Int)
      · rfl
      · exact absurd (by rw [HPS.out]; exact run_sub s zs k _ (List.contains_iff_mem.1 hc)) h
    obtain ⟨gs, cs, hvs, hcs⟩ := HB.out.own.shape HB.out.nv rfl
    obtain ⟨L6, HL6⟩ : ∃ l, Hid (ps.length = l) := ⟨_, rfl⟩
    have hL6 : L6 ≤ 150 := by have := HL6.out; have := HPS.out; have := seen_len zs k; subst_vars; omega
    rw [HL6.out] at hvs
    subst hvs
    have HSG : Hid (Seg .i64 wr (some ⟨gs, 0, none⟩) ps) := by
      obtain ⟨a', c', e, hs'⟩ := HB.out.own.seg
      injection e with e1 e2 e3
      show Seg _ _ _ _
      rw [e1]; exact hs'
    clear hcs hRN
    have c0 := HCA0.out _ (Below.refl _ _)
    go_wp2_with fail
    refine Calls.mono (law_has _ cs L6 ps (p : Int) _ HSG.out HL6.out (by omega)) ?_
    rintro e wq ⟨rfl, rfl⟩
    clear HSG
    have HC7 : Hid (∀ X, Below wq.heap.size wq X → X.cell? ⟨T7, 0, none⟩ = some (.int .i64 s) ∧ X.cell? ⟨T7, 1, none⟩ = some (.slice ta tn tc)) := fun X hX => ⟨(HB.out.below hX).box.cell 0 _ rfl, (HB.out.below hX).box.cell 1 _ rfl⟩
    have HCA := HCA0
    obtain ⟨gb0, go0, rfl, _, hg0⟩ := HB.out.got.at k HKB.out
    rw [HBV.out] at hg0
    cases hin : ps.contains (p : Int)
    · obtain rfl := HSB.out (fun h => by rw [List.contains_iff_mem.2 h] at hin; cases hin)
      have hal : Below wq.heap.size wq (wq.alloc (.cells #[.int .i64 (p : Int)] 3)) := (Below.refl _ _).alloc (Nat.le_refl _) _
      have HPA : Hid (FP w0 (wq.alloc (.cells #[.int .i64 (p : Int)] 3)) T7 base s zs bs (some ⟨gb0, go0, none⟩) (some ⟨ab, ao, none⟩) (.slice (some ⟨gs, 0, none⟩) L6 cs) k ps ta tn tc) := HB.out.below hal
      have hownA : (wq.alloc (.cells #[.int .i64 (p : Int)] 3)).ownsRow base 3 1 (.slice (some ⟨gs, 0, none⟩) L6 cs) ps.length (ps.map (Value.int .i64)) := HPA.out.own
      have HSZ : Hid (base ≤ (wq.alloc (.cells #[.int .i64 (p : Int)] 3)).heap.size) := HPA.out.ls
      obtain ⟨L7, HL7⟩ : ∃ l, Hid (ps.length + 1 = l) := ⟨_, rfl⟩
      obtain ⟨ps2, HP2⟩ : ∃ q, Hid (q = ps ++ [(p : Int)]) := ⟨_, rfl⟩
      have HSN : Hid (ps2 = seenT zs (k + 1)) := by show _ = _; rw [HP2.out, seen_no (by rw [HPG.out, ← HPS.out]; intro h; rw [List.contains_iff_mem.2 h] at hin; cases hin), HPG.out, HPS.out]
      have HZ : Hid (∀ (gg cap1 : Nat) (w9 : World), w9.ownsRow base 3 1 (.slice (some ⟨gg, 0, none⟩) (ps.length + 1) cap1) (ps.length + 1) (ps.map (Value.int .i64) ++ [.int .i64 (p : Int)]) → (wq.alloc (.cells #[.int .i64 (p : Int)] 3)).grownBy w9 ((.slice (some ⟨gs, 0, none⟩) L6 cs) : Value).ownBlock → (((.slice (some ⟨gs, 0, none⟩) L6 cs) : Value).ownBlock = some gg ∨ gg = (wq.alloc (.cells #[.int .i64 (p : Int)] 3)).heap.size) → FP w0 w9 T7 base s zs bs (some ⟨gb0, go0, none⟩) (some ⟨ab, ao, none⟩) (.slice (some ⟨gg, 0, none⟩) L7 cap1) k ps2 ta tn tc ∧ w9.cell? ⟨gb0, go0 + k, none⟩ = some (.bool false)) := fun gg cap1 w9 g1 g2 g3 => by
        have h := HB.out.grow (ps2 := ps ++ [(p : Int)]) hal g2 (OwnL.snoc g1) g3
        rw [HL7.out, ← HP2.out] at h
        refine ⟨h, ?_⟩
        obtain ⟨b', o', e', _, hc⟩ := h.got.at k HKB.out
        injection e' with e'
        injection e' with e1 e2
        rw [e1, e2, hc, HBV.out]
      have hsl : ps.length ≤ 2100 := by have := HL6.out; omega
      clear hal HPA hg0 c0
      go_wp2_with (at_builtin; (refine wpList_append_lies _ rfl (.tmp 51) (.tmp 53) 24 rfl base 3 iS (.int .i64 0) 1 8 Try.underlying24 HIN.out.1 HIN.out.2.1 HIN.out.2.2.1 HIN.out.2.2.2 rfl (by omega) (.slice (some ⟨gs, 0, none⟩) L6 cs) ps.length (ps.map (Value.int .i64)) rfl hownA _ 1 1 [.int .i64 (p : Int)] rfl rfl (news_int _ _ _ (by simp)) (one_int _) (by omega) (by unfold maxLen; omega) (by omega) HSZ.out _ rfl ?_; intro gg cap1 w9 hown1 hgrow hat hlt1; have HYY : Hid _ := HZ.out gg cap1 w9 hown1 hgrow hat; clear hown1 hgrow hat hlt1; rw [HL7.out]; have hg1 := HYY.out.2))
      have HB7 : Hid (FP w0 w9 T7 base s zs bs (some ⟨gb0, go0, none⟩) (some ⟨ab, ao, none⟩) (.slice (some ⟨gg, 0, none⟩) L7 cap1) k ps2 ta tn tc) := HYY.out.1
      clear HB HYY HZ hownA HSZ hsl hg1 HC7 HCA HCA0 HTU
      have HTU : Hid (∀ X, Below w9.heap.size w9 X → Calls Try.prog 10 #[tlb s (.slice ta tn tc), .int .i64 (m : Int)] X (UPost X s false R)) := fun X hX => impl_tu_yes s m p ta tc tn (runT s zs k) X ((HB7.out.below hX).ts) HB7.out.tl (by have := HN8.out; omega) HB7.out.tc' HOKT.out.1 hm5 HP.out false HQQ.out R HRU.out
      have HCA : Hid (∀ X, Below w9.heap.size w9 X → X.cell? ⟨ab, ao + k, none⟩ = some (.int .i64 (m : Int))) := fun X hX => by
        obtain ⟨b', o', e', _, hc⟩ := (HB7.out.below hX).adr (by rw [HZL.out]; omega)
        injection e' with e'
        injection e' with e1 e2
        rw [e1, e2, hc k (by rw [HZL.out]; exact hkn), HMZ.out]
      have HC7 : Hid (∀ X, Below w9.heap.size w9 X → X.cell? ⟨T7, 0, none⟩ = some (.int .i64 s) ∧ X.cell? ⟨T7, 1, none⟩ = some (.slice ta tn tc)) := fun X hX => ⟨(HB7.out.below hX).box.cell 0 _ rfl, (HB7.out.below hX).box.cell 1 _ rfl⟩
      have HB := HB7
      clear HB7
      refine wp_region_inv (by kernel_rfl) (by kernel_rfl) (fun AC ℓ a' w' => ∃ (x71 x72 x73 x74 x75 x76 x70 x77 x78 x10 x11 : Value), a' = (((((((((((AC.put (some 71) x71).put (some 72) x72).put (some 73) x73).put (some 74) x74).put (some 75) x75).put (some 76) x76).put (some 70) x70).put (some 77) x77).put (some 78) x78).put (some 10) x10).put (some 11) x11) ∧ R19 w9 (tlb s (.slice ta tn tc)) (.slice (some ⟨ab, ao, none⟩) nb ac) (.int .i64 (k : Int)) (.pointer (some ⟨ab, ao + k, none⟩)) (.int .i64 (m : Int)) s N false R w' (ℓ 0) (ℓ 1) (ℓ 2) (ℓ 3) (ℓ 4) (ℓ 5) (ℓ 6) (ℓ 7) (ℓ 8) (ℓ 9) (ℓ 10) (ℓ 11) x71 x72 x73 x74 x75 x76 x70 x77 x78 x10 x11) ?_ ?_ ?_ ?_
      · exact ⟨u71, u72, u73, u74, u75, u76, u70, u77, u78, u10, u11, (by simp only [Act.put, List.setIfInBounds_toArray, List.set_cons_zero, List.set_cons_succ]), ⟨(Below.refl _ _).drew, (fun z => by cases z), (fun z => by cases z), (fun z => by cases z), (fun z => by cases z), (fun z => by cases z), (fun z => by cases z), (fun z => by cases z), (fun z => by cases z), (fun z => by cases z), (fun z => by cases z), (fun z => by cases z), (fun z => by cases z)⟩⟩
      rotate_left
      · intro ℓ a' w' i o hI ho hi hL hdep K hK
        obtain ⟨x71, x72, x73, x74, x75, x76, x70, x77, x78, x10, x11, rfl, hr⟩ := hI
        have hi7 : i < 12 := hi
        have hcs : i = 0 ∨ i = 1 ∨ i = 2 ∨ i = 3 ∨ i = 4 ∨ i = 5 ∨ i = 6 ∨ i = 7 ∨ i = 8 ∨ i = 9 ∨ i = 10 ∨ i = 11 := by omega
        clear hi hi7
        rcases hcs with rfl | rfl | rfl | rfl | rfl | rfl | rfl | rfl | rfl | rfl | rfl | rfl
        · obtain rfl := Option.some.inj ho
          clear hdep ho
          have q0 := (HC7.out _ hr.gb).1
          have q1 := (HC7.out _ hr.gb).2
          rw [if_pos (by rfl)]
          try simp only [Act.put, List.setIfInBounds_toArray, List.set_cons_zero, List.set_cons_succ]
          go_simp
          exact hK.out _ _ (fun j => if j = 0 then true else ℓ j) ⟨tlb s (.slice ta tn tc), x72, x73, x74, x75, x76, x70, x77, x78, x10, x11, (by simp only [Act.put, List.setIfInBounds_toArray, List.set_cons_zero, List.set_cons_succ]), ⟨hr.gb, (fun _ => rfl), hr.f1, hr.f2, hr.f3, hr.f4, hr.f5, hr.f6, hr.f7, hr.f8, hr.f9, hr.f10, hr.f11⟩⟩ (if_pos rfl) (fun j hj => if_neg hj)
        · obtain rfl := Option.some.inj ho
          clear hdep ho
          rw [if_pos (by rfl)]
          try simp only [Act.put, List.setIfInBounds_toArray, List.set_cons_zero, List.set_cons_succ]
          go_simp
          exact hK.out _ _ (fun j => if j = 1 then true else ℓ j) ⟨x71, .slice (some ⟨ab, ao, none⟩) nb ac, x73, x74, x75, x76, x70, x77, x78, x10, x11, (by simp only [Act.put, List.setIfInBounds_toArray, List.set_cons_zero, List.set_cons_succ]), ⟨hr.gb, hr.f0, (fun _ => rfl), hr.f2, hr.f3, hr.f4, hr.f5, hr.f6, hr.f7, hr.f8, hr.f9, hr.f10, hr.f11⟩⟩ (if_pos rfl) (fun j hj => if_neg hj)
        · obtain rfl := Option.some.inj ho
          clear hdep ho
          rw [if_pos (by rfl)]
          try simp only [Act.put, List.setIfInBounds_toArray, List.set_cons_zero, List.set_cons_succ]
          go_simp
          exact hK.out _ _ (fun j => if j = 2 then true else ℓ j) ⟨x71, x72, .int .i64 (k : Int), x74, x75, x76, x70, x77, x78, x10, x11, (by simp only [Act.put, List.setIfInBounds_toArray, List.set_cons_zero, List.set_cons_succ]), ⟨hr.gb, hr.f0, hr.f1, (fun _ => rfl), hr.f3, hr.f4, hr.f5, hr.f6, hr.f7, hr.f8, hr.f9, hr.f10, hr.f11⟩⟩ (if_pos rfl) (fun j hj => if_neg hj)
        · obtain rfl := Option.some.inj ho
          have g1 : ℓ 1 = true := hdep { on := 1, ground := Ground.data } (by simp) rfl
          have g2 : ℓ 2 = true := hdep { on := 2, ground := Ground.data } (by simp) rfl
          clear hdep ho
          obtain rfl := hr.f1 g1
          obtain rfl := hr.f2 g2
          rw [if_pos (by rfl)]
          try simp only [Act.put, List.setIfInBounds_toArray, List.set_cons_zero, List.set_cons_succ]
          go_simp
          exact hK.out _ _ (fun j => if j = 3 then true else ℓ j) ⟨x71, .slice (some ⟨ab, ao, none⟩) nb ac, .int .i64 (k : Int), .pointer (some ⟨ab, ao + k, none⟩), x75, x76, x70, x77, x78, x10, x11, (by simp only [Act.put, List.setIfInBounds_toArray, List.set_cons_zero, List.set_cons_succ]), ⟨hr.gb, hr.f0, hr.f1, hr.f2, (fun _ => rfl), hr.f4, hr.f5, hr.f6, hr.f7, hr.f8, hr.f9, hr.f10, hr.f11⟩⟩ (if_pos rfl) (fun j hj => if_neg hj)
        · obtain rfl := Option.some.inj ho
          have g3 : ℓ 3 = true := hdep { on := 3, ground := Ground.data } (by simp) rfl
          clear hdep ho
          obtain rfl := hr.f3 g3
          have q0 := HCA.out _ hr.gb
          rw [if_pos (by rfl)]
          try simp only [Act.put, List.setIfInBounds_toArray, List.set_cons_zero, List.set_cons_succ]
          go_simp
          exact hK.out _ _ (fun j => if j = 4 then true else ℓ j) ⟨x71, x72, x73, .pointer (some ⟨ab, ao + k, none⟩), .int .i64 (m : Int), x76, x70, x77, x78, x10, x11, (by simp only [Act.put, List.setIfInBounds_toArray, List.set_cons_zero, List.set_cons_succ]), ⟨hr.gb, hr.f0, hr.f1, hr.f2, hr.f3, (fun _ => rfl), hr.f5, hr.f6, hr.f7, hr.f8, hr.f9, hr.f10, hr.f11⟩⟩ (if_pos rfl) (fun j hj => if_neg hj)
        · obtain rfl := Option.some.inj ho
          have g0 : ℓ 0 = true := hdep { on := 0, ground := Ground.data } (by simp) rfl
          have g4 : ℓ 4 = true := hdep { on := 4, ground := Ground.data } (by simp) rfl
          clear hdep ho
          obtain rfl := hr.f0 g0
          obtain rfl := hr.f4 g4
          have hl6 : ℓ 6 = false := by
            cases h7 : ℓ 6
            · rfl
            · have := (hr.f6 h7).1; rw [this] at hL; cases hL
          have hl7 : ℓ 7 = false := by
            cases h7 : ℓ 7
            · rfl
            · have := (hr.f7 h7).1; rw [this] at hL; cases hL
          have hl10 : ℓ 10 = false := by
            cases h7 : ℓ 10
            · rfl
            · have := (hr.f7 (hr.f10 h7).2).1; rw [this] at hL; cases hL
          rw [if_pos (by rfl)]
          try simp only [Act.put, List.setIfInBounds_toArray, List.set_cons_zero, List.set_cons_succ]
          go_simp
          refine Calls.mono (HTU.out _ hr.gb) ?_
          rintro e w9 ⟨v9, rfl, hb9, ho9⟩
          revert hK
          obtain ⟨g, nc, rfl, hnc⟩ := ho9.shape (ho9.ne HR0.out) HRN.out
          intro hK
          have hr9 := hr.below hb9
          have hsz := hr.gb.size
          exact hK.out _ _ (fun j => if j = 5 then true else ℓ j) ⟨tlb s (.slice ta tn tc), x72, x73, x74, .int .i64 (m : Int), TU s g N nc false, x70, x77, x78, x10, x11, (by simp only [Act.put, List.setIfInBounds_toArray, List.set_cons_zero, List.set_cons_succ]), ⟨hr9.gb, hr9.f0, hr9.f1, hr9.f2, hr9.f3, hr9.f4, (fun _ => ⟨g, nc, rfl, hnc, ho9.low hsz⟩), (fun z => by rw [hl6] at z; cases z), (fun z => by rw [hl7] at z; cases z), hr9.f8, (fun z => by
            obtain ⟨Q, e1, e2, e3, e4, e5⟩ := hr.f9 z
            obtain ⟨Q', e1', e2', e3', e4', e5'⟩ := hr9.f9 z
            have hQ : Q = Q' := by rw [e1] at e1'; injection e1' with e1'; injection e1' with e1'; injection e1'
            subst hQ
            exact ⟨Q, e1, e2, e3', (fun y => by rw [hl10] at y; cases y), fun _ g2 nc2 y => by
              have := (e3 hl10).lt
              have hg := (ho9.lt g rfl).1
              have := (TU.inj y).1
              omega⟩), hr9.f10, hr9.f11⟩⟩ (if_pos rfl) (fun j hj => if_neg hj)
        · obtain rfl := Option.some.inj ho
          have g5 : ℓ 5 = true := hdep { on := 5, ground := Ground.data } (by simp) rfl
          clear hdep ho
          revert hK
          obtain ⟨g, nc, rfl, hnc, ho⟩ := hr.f5 g5
          intro hK
          rw [if_pos (by rfl)]
          try simp only [Act.put, List.setIfInBounds_toArray, List.set_cons_zero, List.set_cons_succ]
          go_simp
          exact hK.out _ _ (fun j => if j = 6 then true else ℓ j) ⟨x71, x72, x73, x74, x75, TU s g N nc false, TU s g N nc false, x77, x78, x10, x11, (by simp only [Act.put, List.setIfInBounds_toArray, List.set_cons_zero, List.set_cons_succ]), ⟨hr.gb, hr.f0, hr.f1, hr.f2, hr.f3, hr.f4, hr.f5, (fun _ => ⟨g5, rfl⟩), hr.f7, hr.f8, hr.f9, hr.f10, hr.f11⟩⟩ (if_pos rfl) (fun j hj => if_neg hj)
        · obtain rfl := Option.some.inj ho
          have g6 : ℓ 6 = true := hdep { on := 6, ground := Ground.data } (by simp) rfl
          clear hdep ho
          revert hK
          obtain ⟨h5, rfl⟩ := hr.f6 g6
          obtain ⟨g, nc, rfl, hnc, ho⟩ := hr.f5 h5
          intro hK
          rw [if_pos (by rfl)]
          try simp only [Act.put, List.setIfInBounds_toArray, List.set_cons_zero, List.set_cons_succ]
          go_simp
          exact hK.out _ _ (fun j => if j = 7 then true else ℓ j) ⟨x71, x72, x73, x74, x75, TU s g N nc false, TU s g N nc false, tlb s (.slice (some ⟨g, 0, none⟩) N nc), x78, x10, x11, (by simp only [Act.put, List.setIfInBounds_toArray, List.set_cons_zero, List.set_cons_succ]), ⟨hr.gb, hr.f0, hr.f1, hr.f2, hr.f3, hr.f4, hr.f5, hr.f6, (fun _ => ⟨h5, fun g2 nc2 y => by obtain ⟨e1, e2⟩ := TU.inj y; rw [e1, e2]⟩), hr.f8, hr.f9, (fun z => ⟨(hr.f10 z).1, rfl⟩), hr.f11⟩⟩ (if_pos rfl) (fun j hj => if_neg hj)
        · obtain rfl := Option.some.inj ho
          have g6 : ℓ 6 = true := hdep { on := 6, ground := Ground.data } (by simp) rfl
          clear hdep ho
          revert hK
          obtain ⟨h5, rfl⟩ := hr.f6 g6
          obtain ⟨g, nc, rfl, hnc, ho⟩ := hr.f5 h5
          intro hK
          rw [if_pos (by rfl)]
          try simp only [Act.put, List.setIfInBounds_toArray, List.set_cons_zero, List.set_cons_succ]
          go_simp
          exact hK.out _ _ (fun j => if j = 8 then true else ℓ j) ⟨x71, x72, x73, x74, x75, TU s g N nc false, TU s g N nc false, x77, .bool false, x10, x11, (by simp only [Act.put, List.setIfInBounds_toArray, List.set_cons_zero, List.set_cons_succ]), ⟨hr.gb, hr.f0, hr.f1, hr.f2, hr.f3, hr.f4, hr.f5, hr.f6, hr.f7, (fun _ => rfl), hr.f9, hr.f10, hr.f11⟩⟩ (if_pos rfl) (fun j hj => if_neg hj)
        · obtain rfl := Option.some.inj ho
          clear hdep ho
          have hl10 : ℓ 10 = false := by
            cases h7 : ℓ 10
            · rfl
            · have := (hr.f10 h7).1; rw [this] at hL; cases hL
          rw [if_pos (by rfl)]
          try simp only [Act.put, List.setIfInBounds_toArray, List.set_cons_zero, List.set_cons_succ]
          go_simp
          have hal : Below w'.heap.size w' (w'.alloc (.cells #[.int .i64 0, .slice none 0 0] 30)) := (Below.refl _ _).alloc (Nat.le_refl _) _
          have hr9 := hr.below hal
          have hsz := hr.gb.size
          exact hK.out _ _ (fun j => if j = 9 then true else ℓ j) ⟨x71, x72, x73, x74, x75, x76, x70, x77, x78, .pointer (some ⟨w'.heap.size, 0, none⟩), x11, (by simp only [Act.put, List.setIfInBounds_toArray, List.set_cons_zero, List.set_cons_succ]), ⟨hr9.gb, hr9.f0, hr9.f1, hr9.f2, hr9.f3, hr9.f4, hr9.f5, hr9.f6, hr9.f7, hr9.f8, (fun _ => ⟨_, rfl, hsz, fun _ => Bk.new _ _ _ _ rfl, (fun z => by rw [hl10] at z; cases z), fun z g nc y => by
            obtain ⟨g2, nc2, e1, e2, e3⟩ := hr.f5 z
            rw [e1] at y
            have hg := (e3.lt g2 rfl).2
            have := (TU.inj y).1
            omega⟩), (fun z => by rw [hl10] at z; cases z), hr9.f11⟩⟩ (if_pos rfl) (fun j hj => if_neg hj)
        · obtain rfl := Option.some.inj ho
          have g7 : ℓ 7 = true := hdep { on := 7, ground := Ground.data } (by simp) rfl
          have g9 : ℓ 9 = true := hdep { on := 9, ground := Ground.data } (by simp) rfl
          clear hdep ho
          revert hK
          obtain ⟨h5, h77⟩ := hr.f7 g7
          obtain ⟨g, nc, rfl, hnc, ho⟩ := hr.f5 h5
          obtain rfl := h77 g nc rfl
          obtain ⟨Q, rfl, e2, e3, e4, e5⟩ := hr.f9 g9
          intro hK
          have kk := e3 hL
          have q0 := kk.cell 0 _ rfl
          have q1 := kk.cell 1 _ rfl
          have qf := kk.free
          have hgQ : g ≠ Q := e5 h5 g nc rfl
          have hkn : Bk ((w'.setCell ⟨Q, 0, none⟩ (.int .i64 s)).setCell ⟨Q, 1, none⟩ (.slice (some ⟨g, 0, none⟩) N nc)) Q #[.int .i64 s, .slice (some ⟨g, 0, none⟩) N nc] := (kk.set 0 (.int .i64 s) (by simp) (cs' := #[.int .i64 s, .slice none 0 0]) rfl).set 1 (.slice (some ⟨g, 0, none⟩) N nc) (by simp) rfl
          have hvn : ∀ g2, (Value.slice (some ⟨g, 0, none⟩) N nc).ownBlock = some g2 → g2 ≠ Q := fun g2 e => by
            have e' : g = g2 := by have : some g = some g2 := e; injection this
            subst e'; exact hgQ
          rw [if_pos (by rfl)]
          try simp only [Act.put, List.setIfInBounds_toArray, List.set_cons_zero, List.set_cons_succ]
          go_simp
          exact hK.out _ _ (fun j => if j = 10 then true else ℓ j) ⟨x71, x72, x73, x74, x75, TU s g N nc false, x70, tlb s (.slice (some ⟨g, 0, none⟩) N nc), x78, .pointer (some ⟨Q, 0, none⟩), x11, (by simp only [Act.put, List.setIfInBounds_toArray, List.set_cons_zero, List.set_cons_succ]), ⟨((hr.gb.setCell (p := ⟨Q, 0, none⟩) e2 _).setCell (p := ⟨Q, 1, none⟩) e2 _), hr.f0, hr.f1, hr.f2, hr.f3, hr.f4, (fun _ => ⟨g, nc, rfl, hnc, OwnL.set (OwnL.set ho hvn) hvn⟩), hr.f6, hr.f7, hr.f8, (fun _ => ⟨Q, rfl, e2, (fun z => by cases z), fun _ g2 nc2 y => by obtain ⟨y1, y2⟩ := TU.inj y; rw [← y1, ← y2]; exact hkn, e5⟩), (fun _ => ⟨g9, g7⟩), hr.f11⟩⟩ (if_pos rfl) (fun j hj => if_neg hj)
        · obtain rfl := Option.some.inj ho
          have g8 : ℓ 8 = true := hdep { on := 8, ground := Ground.data } (by simp) rfl
          clear hdep ho
          obtain rfl := hr.f8 g8
          rw [if_pos (by rfl)]
          try simp only [Act.put, List.setIfInBounds_toArray, List.set_cons_zero, List.set_cons_succ]
          go_simp
          exact hK.out _ _ (fun j => if j = 11 then true else ℓ j) ⟨x71, x72, x73, x74, x75, x76, x70, x77, .bool false, x10, .bool false, (by simp only [Act.put, List.setIfInBounds_toArray, List.set_cons_zero, List.set_cons_succ]), ⟨hr.gb, hr.f0, hr.f1, hr.f2, hr.f3, hr.f4, hr.f5, hr.f6, hr.f7, hr.f8, hr.f9, hr.f10, (fun _ => rfl)⟩⟩ (if_pos rfl) (fun j hj => if_neg hj)
      · rintro a' w' ℓ ℓ' hℓ hI
        rw [← show ℓ = ℓ' from funext hℓ]
        exact hI
      · intro ℓ a' w' hI hall
        obtain ⟨x71, x72, x73, x74, x75, x76, x70, x77, x78, x10, x11, rfl, hr⟩ := hI
        have hall' : ∀ i, i < 12 → ℓ i = true := hall
        obtain ⟨g, nc, rfl, hnc, ho⟩ := hr.f5 (hall' 5 (by omega))
        obtain ⟨Q, rfl, hQ, _, hkQ, _⟩ := hr.f9 (hall' 9 (by omega))
        have KQ : Hid (Bk w' Q #[.int .i64 s, .slice (some ⟨g, 0, none⟩) N nc]) := hkQ (hall' 10 (by omega)) g nc rfl
        obtain rfl := (hr.f7 (hall' 7 (by omega))).2 g nc rfl
        obtain rfl := (hr.f6 (hall' 6 (by omega))).2
        obtain rfl := hr.f0 (hall' 0 (by omega))
        obtain rfl := hr.f1 (hall' 1 (by omega))
        obtain rfl := hr.f2 (hall' 2 (by omega))
        obtain rfl := hr.f3 (hall' 3 (by omega))
        obtain rfl := hr.f4 (hall' 4 (by omega))
        obtain rfl := hr.f8 (hall' 8 (by omega))
        obtain rfl := hr.f11 (hall' 11 (by omega))
        have HGB : Hid (Below w9.heap.size w9 w') := hr.gb
        have HON : Hid (OwnL w' w9.heap.size (.slice (some ⟨g, 0, none⟩) N nc) R ∧ N ≤ nc) := ⟨ho, hnc⟩
        clear hr hall hall' hkQ ho hnc hQ
        simp only [Act.put, List.setIfInBounds_toArray, List.set_cons_zero, List.set_cons_succ]
        have HB2 : Hid (FP w0 w' T7 base s zs bs (some ⟨gb0, go0, none⟩) (some ⟨ab, ao, none⟩) (.slice (some ⟨gg, 0, none⟩) L7 cap1) k ps2 ta tn tc) := HB.out.below HGB.out
        have HTH : Hid (∀ X : Gr w', Calls Try.prog 12 #[tlb s (.slice (some ⟨g, 0, none⟩) N nc), .int .i64 (m : Int)] X.w fun e w'' => e = .returned (.bool true) ∧ Below X.w.heap.size X.w w'') := fun X => by
          obtain ⟨a5, c5, e5, hs5⟩ := (HON.out.1.below X.h).seg
          injection e5 with e51 e52 e53
          exact impl_thold s (m : Int) _ nc N R X.w (by rw [e51]; exact hs5) HRN.out (by have := HN8.out; omega) HON.out.2 true ⟨fun _ => HHO.out, fun _ => rfl⟩
        have HSI : Hid (false = true → ∀ X : Gr w', Calls Try.prog 11 #[.slice (some ⟨g, 0, none⟩) N nc, .slice ta tn tc] X.w fun e w'' => e = .returned (.bool true) ∧ Below X.w.heap.size X.w w'') := fun hq X => by
          obtain ⟨a5, c5, e5, hs5⟩ := (HON.out.1.below X.h).seg
          injection e5 with e51 e52 e53
          have hRq := HRS.out (by first | exact hq | trivial)
          have hNt : N = tn := by rw [← HRN.out, hRq]; exact HB2.out.tl
          rw [← hNt]
          exact same_ints _ _ nc tc N (runT s zs k) X.w (by rw [e51, ← hRq]; exact hs5) ((HB2.out.below X.h).ts) (by rw [← hRq]; exact HRN.out) (by have := HN8.out; omega)
        clear HSI
        obtain ⟨gb9, go9, eg9, _, hg9⟩ := HB2.out.got.at k HKB.out
        rw [HBV.out] at hg9
        have hg8 : w'.cell? ⟨gb0, go0 + k, none⟩ = some (.bool false) := by injection eg9 with eg9; injection eg9 with e1 e2; rw [e1, e2]; exact hg9
        clear hg9 eg9
        have hg9 := hg8
        clear hg8
        have e1 : w'.cell? ⟨ab, ao + k, none⟩ = some (.int .i64 (m : Int)) := HCA.out _ HGB.out
        have e2 := HB2.out.box.cell 1 _ rfl
        have e3 := KQ.out.cell 0 _ rfl
        have e4 := KQ.out.cell 1 _ rfl
        have E0 := fun X => gr_cell (W0 := w') hg9 X
        have E1 := fun X => gr_cell (W0 := w') e1 X
        have E2 := fun X => gr_cell (W0 := w') e2 X
        have E3 := fun X => gr_cell (W0 := w') e3 X
        have E4 := fun X => gr_cell (W0 := w') e4 X
        clear hg9 e1 e2 e3 e4
        have hgr := gr_some w'
        have hqq : (false != false) = false := rfl
        go_wp2
        refine region_alike (by kernel_rfl) (by kernel_rfl) ?_
        repeat (go_big_quiet_step (first | (go_at_call 12; exact gr_call (HTH.out _))))
        refine wpQuiet_nil ?_
        intro _ hw'
        obtain ⟨X1, rfl⟩ := hw'
        have HX1 : Hid (Below w'.heap.size w' X1.w) := X1.h
        generalize X1.w = X9 at HX1 ⊢
        clear hgr E0 E1 E2 E3 E4 HTH
        have HXB : Hid (Below w9.heap.size w9 X9) := HGB.out.trans (HX1.out.mono HGB.out.size)
        have KQ9 : Hid (Bk X9 Q #[.int .i64 s, .slice (some ⟨g, 0, none⟩) N nc]) := KQ.out.below HX1.out
        have HB9 : Hid (FP w0 X9 T7 base s zs bs (some ⟨gb0, go0, none⟩) (some ⟨ab, ao, none⟩) (.slice (some ⟨gg, 0, none⟩) L7 cap1) k ps2 ta tn tc) := HB.out.below HXB.out
        have HNX : Hid (∀ hh : Unit, FP w0 ((X9.setCell ⟨T7, 0, none⟩ (.int .i64 s)).setCell ⟨T7, 1, none⟩ (.slice (some ⟨g, 0, none⟩) N nc)) T7 base s zs bs (some ⟨gb0, go0, none⟩) (some ⟨ab, ao, none⟩) (.slice (some ⟨gg, 0, none⟩) L7 cap1) (k + 1) ps2 (some ⟨g, 0, none⟩) N nc) := fun _ => HB.out.next (v' := (.slice (some ⟨gg, 0, none⟩) L7 cap1)) HXB.out (HON.out.1.lt g rfl).1 HRN1.out HON.out.2 (by rw [← HRR.out]; exact HON.out.1.below HX1.out)
        have e3 := KQ9.out.cell 0 _ rfl
        have e4 := KQ9.out.cell 1 _ rfl
        have e5 := HB9.out.box.cell 0 _ rfl
        have e6 := HB9.out.box.cell 1 _ rfl
        have ef := HB9.out.box.free
        clear HB HB2 HB9 KQ KQ9 HGB HX1 HXB HON
        go_wp2
        clear e3 e4 e5 e6 ef
        go_roundw
        case rel => exact ⟨k + 1, by omega, by omega, by go_num, _, _, _, ps2, HSN.out, HNX.out ()⟩
        case measure => simp [intOf]; omega
    have hmem : (p : Int) ∈ ps := List.contains_iff_mem.1 hin
    have HSN : Hid (ps = seenT zs (k + 1)) := by show _ = _; rw [seen_yes (by rw [HPG.out, ← HPS.out]; exact hmem)]; exact HPS.out
    by_cases hle : (L6 : Int) ≤ s
    · obtain rfl := (HSL.out (by rw [HL6.out]; exact hle)).resolve_right (fun h => h hmem)
      go_wp2
      clear hg0 c0
      refine wp_region_inv (by kernel_rfl) (by kernel_rfl) (fun AC ℓ a' w' => ∃ (x71 x72 x73 x74 x75 x76 x70 x77 x78 x10 x11 : Value), a' = (((((((((((AC.put (some 71) x71).put (some 72) x72).put (some 73) x73).put (some 74) x74).put (some 75) x75).put (some 76) x76).put (some 70) x70).put (some 77) x77).put (some 78) x78).put (some 10) x10).put (some 11) x11) ∧ R19 wq (tlb s (.slice ta tn tc)) (.slice (some ⟨ab, ao, none⟩) nb ac) (.int .i64 (k : Int)) (.pointer (some ⟨ab, ao + k, none⟩)) (.int .i64 (m : Int)) s N true R w' (ℓ 0) (ℓ 1) (ℓ 2) (ℓ 3) (ℓ 4) (ℓ 5) (ℓ 6) (ℓ 7) (ℓ 8) (ℓ 9) (ℓ 10) (ℓ 11) x71 x72 x73 x74 x75 x76 x70 x77 x78 x10 x11) ?_ ?_ ?_ ?_
      · exact ⟨u71, u72, u73, u74, u75, u76, u70, u77, u78, u10, u11, (by simp only [Act.put, List.setIfInBounds_toArray, List.set_cons_zero, List.set_cons_succ]), ⟨(Below.refl _ _).drew, (fun z => by cases z), (fun z => by cases z), (fun z => by cases z), (fun z => by cases z), (fun z => by cases z), (fun z => by cases z), (fun z => by cases z), (fun z => by cases z), (fun z => by cases z), (fun z => by cases z), (fun z => by cases z), (fun z => by cases z)⟩⟩
      rotate_left
      · intro ℓ a' w' i o hI ho hi hL hdep K hK
        obtain ⟨x71, x72, x73, x74, x75, x76, x70, x77, x78, x10, x11, rfl, hr⟩ := hI
        have hi7 : i < 12 := hi
        have hcs : i = 0 ∨ i = 1 ∨ i = 2 ∨ i = 3 ∨ i = 4 ∨ i = 5 ∨ i = 6 ∨ i = 7 ∨ i = 8 ∨ i = 9 ∨ i = 10 ∨ i = 11 := by omega
        clear hi hi7
        rcases hcs with rfl | rfl | rfl | rfl | rfl | rfl | rfl | rfl | rfl | rfl | rfl | rfl
        · obtain rfl := Option.some.inj ho
          clear hdep ho
          have q0 := (HC7.out _ hr.gb).1
          have q1 := (HC7.out _ hr.gb).2
          rw [if_pos (by rfl)]
          try simp only [Act.put, List.setIfInBounds_toArray, List.set_cons_zero, List.set_cons_succ]
          go_simp
          exact hK.out _ _ (fun j => if j = 0 then true else ℓ j) ⟨tlb s (.slice ta tn tc), x72, x73, x74, x75, x76, x70, x77, x78, x10, x11, (by simp only [Act.put, List.setIfInBounds_toArray, List.set_cons_zero, List.set_cons_succ]), ⟨hr.gb, (fun _ => rfl), hr.f1, hr.f2, hr.f3, hr.f4, hr.f5, hr.f6, hr.f7, hr.f8, hr.f9, hr.f10, hr.f11⟩⟩ (if_pos rfl) (fun j hj => if_neg hj)
        · obtain rfl := Option.some.inj ho
          clear hdep ho
          rw [if_pos (by rfl)]
          try simp only [Act.put, List.setIfInBounds_toArray, List.set_cons_zero, List.set_cons_succ]
          go_simp
          exact hK.out _ _ (fun j => if j = 1 then true else ℓ j) ⟨x71, .slice (some ⟨ab, ao, none⟩) nb ac, x73, x74, x75, x76, x70, x77, x78, x10, x11, (by simp only [Act.put, List.setIfInBounds_toArray, List.set_cons_zero, List.set_cons_succ]), ⟨hr.gb, hr.f0, (fun _ => rfl), hr.f2, hr.f3, hr.f4, hr.f5, hr.f6, hr.f7, hr.f8, hr.f9, hr.f10, hr.f11⟩⟩ (if_pos rfl) (fun j hj => if_neg hj)
        · obtain rfl := Option.some.inj ho
          clear hdep ho
          rw [if_pos (by rfl)]
          try simp only [Act.put, List.setIfInBounds_toArray, List.set_cons_zero, List.set_cons_succ]
          go_simp
          exact hK.out _ _ (fun j => if j = 2 then true else ℓ j) ⟨x71, x72, .int .i64 (k : Int), x74, x75, x76, x70, x77, x78, x10, x11, (by simp only [Act.put, List.setIfInBounds_toArray, List.set_cons_zero, List.set_cons_succ]), ⟨hr.gb, hr.f0, hr.f1, (fun _ => rfl), hr.f3, hr.f4, hr.f5, hr.f6, hr.f7, hr.f8, hr.f9, hr.f10, hr.f11⟩⟩ (if_pos rfl) (fun j hj => if_neg hj)
        · obtain rfl := Option.some.inj ho
          have g1 : ℓ 1 = true := hdep { on := 1, ground := Ground.data } (by simp) rfl
          have g2 : ℓ 2 = true := hdep { on := 2, ground := Ground.data } (by simp) rfl
          clear hdep ho
          obtain rfl := hr.f1 g1
          obtain rfl := hr.f2 g2
          rw [if_pos (by rfl)]
          try simp only [Act.put, List.setIfInBounds_toArray, List.set_cons_zero, List.set_cons_succ]
          go_simp
          exact hK.out _ _ (fun j => if j = 3 then true else ℓ j) ⟨x71, .slice (some ⟨ab, ao, none⟩) nb ac, .int .i64 (k : Int), .pointer (some ⟨ab, ao + k, none⟩), x75, x76, x70, x77, x78, x10, x11, (by simp only [Act.put, List.setIfInBounds_toArray, List.set_cons_zero, List.set_cons_succ]), ⟨hr.gb, hr.f0, hr.f1, hr.f2, (fun _ => rfl), hr.f4, hr.f5, hr.f6, hr.f7, hr.f8, hr.f9, hr.f10, hr.f11⟩⟩ (if_pos rfl) (fun j hj => if_neg hj)
        · obtain rfl := Option.some.inj ho
          have g3 : ℓ 3 = true := hdep { on := 3, ground := Ground.data } (by simp) rfl
          clear hdep ho
          obtain rfl := hr.f3 g3
          have q0 := HCA.out _ hr.gb
          rw [if_pos (by rfl)]
          try simp only [Act.put, List.setIfInBounds_toArray, List.set_cons_zero, List.set_cons_succ]
          go_simp
          exact hK.out _ _ (fun j => if j = 4 then true else ℓ j) ⟨x71, x72, x73, .pointer (some ⟨ab, ao + k, none⟩), .int .i64 (m : Int), x76, x70, x77, x78, x10, x11, (by simp only [Act.put, List.setIfInBounds_toArray, List.set_cons_zero, List.set_cons_succ]), ⟨hr.gb, hr.f0, hr.f1, hr.f2, hr.f3, (fun _ => rfl), hr.f5, hr.f6, hr.f7, hr.f8, hr.f9, hr.f10, hr.f11⟩⟩ (if_pos rfl) (fun j hj => if_neg hj)
        · obtain rfl := Option.some.inj ho
          have g0 : ℓ 0 = true := hdep { on := 0, ground := Ground.data } (by simp) rfl
          have g4 : ℓ 4 = true := hdep { on := 4, ground := Ground.data } (by simp) rfl
          clear hdep ho
          obtain rfl := hr.f0 g0
          obtain rfl := hr.f4 g4
          have hl6 : ℓ 6 = false := by
            cases h7 : ℓ 6
            · rfl
            · have := (hr.f6 h7).1; rw [this] at hL; cases hL
          have hl7 : ℓ 7 = false := by
            cases h7 : ℓ 7
            · rfl
            · have := (hr.f7 h7).1; rw [this] at hL; cases hL
          have hl10 : ℓ 10 = false := by
            cases h7 : ℓ 10
            · rfl
            · have := (hr.f7 (hr.f10 h7).2).1; rw [this] at hL; cases hL
          rw [if_pos (by rfl)]
          try simp only [Act.put, List.setIfInBounds_toArray, List.set_cons_zero, List.set_cons_succ]
          go_simp
          refine Calls.mono (HTU.out _ hr.gb) ?_
          rintro e w9 ⟨v9, rfl, hb9, ho9⟩
          revert hK
          obtain ⟨g, nc, rfl, hnc⟩ := ho9.shape (ho9.ne HR0.out) HRN.out
          intro hK
          have hr9 := hr.below hb9
          have hsz := hr.gb.size
          exact hK.out _ _ (fun j => if j = 5 then true else ℓ j) ⟨tlb s (.slice ta tn tc), x72, x73, x74, .int .i64 (m : Int), TU s g N nc true, x70, x77, x78, x10, x11, (by simp only [Act.put, List.setIfInBounds_toArray, List.set_cons_zero, List.set_cons_succ]), ⟨hr9.gb, hr9.f0, hr9.f1, hr9.f2, hr9.f3, hr9.f4, (fun _ => ⟨g, nc, rfl, hnc, ho9.low hsz⟩), (fun z => by rw [hl6] at z; cases z), (fun z => by rw [hl7] at z; cases z), hr9.f8, (fun z => by
            obtain ⟨Q, e1, e2, e3, e4, e5⟩ := hr.f9 z
            obtain ⟨Q', e1', e2', e3', e4', e5'⟩ := hr9.f9 z
            have hQ : Q = Q' := by rw [e1] at e1'; injection e1' with e1'; injection e1' with e1'; injection e1'
            subst hQ
            exact ⟨Q, e1, e2, e3', (fun y => by rw [hl10] at y; cases y), fun _ g2 nc2 y => by
              have := (e3 hl10).lt
              have hg := (ho9.lt g rfl).1
              have := (TU.inj y).1
              omega⟩), hr9.f10, hr9.f11⟩⟩ (if_pos rfl) (fun j hj => if_neg hj)
        · obtain rfl := Option.some.inj ho
          have g5 : ℓ 5 = true := hdep { on := 5, ground := Ground.data } (by simp) rfl
          clear hdep ho
          revert hK
          obtain ⟨g, nc, rfl, hnc, ho⟩ := hr.f5 g5
          intro hK
          rw [if_pos (by rfl)]
          try simp only [Act.put, List.setIfInBounds_toArray, List.set_cons_zero, List.set_cons_succ]
          go_simp
          exact hK.out _ _ (fun j => if j = 6 then true else ℓ j) ⟨x71, x72, x73, x74, x75, TU s g N nc true, TU s g N nc true, x77, x78, x10, x11, (by simp only [Act.put, List.setIfInBounds_toArray, List.set_cons_zero, List.set_cons_succ]), ⟨hr.gb, hr.f0, hr.f1, hr.f2, hr.f3, hr.f4, hr.f5, (fun _ => ⟨g5, rfl⟩), hr.f7, hr.f8, hr.f9, hr.f10, hr.f11⟩⟩ (if_pos rfl) (fun j hj => if_neg hj)
        · obtain rfl := Option.some.inj ho
          have g6 : ℓ 6 = true := hdep { on := 6, ground := Ground.data } (by simp) rfl
          clear hdep ho
          revert hK
          obtain ⟨h5, rfl⟩ := hr.f6 g6
          obtain ⟨g, nc, rfl, hnc, ho⟩ := hr.f5 h5
          intro hK
          rw [if_pos (by rfl)]
          try simp only [Act.put, List.setIfInBounds_toArray, List.set_cons_zero, List.set_cons_succ]
          go_simp
          exact hK.out _ _ (fun j => if j = 7 then true else ℓ j) ⟨x71, x72, x73, x74, x75, TU s g N nc true, TU s g N nc true, tlb s (.slice (some ⟨g, 0, none⟩) N nc), x78, x10, x11, (by simp only [Act.put, List.setIfInBounds_toArray, List.set_cons_zero, List.set_cons_succ]), ⟨hr.gb, hr.f0, hr.f1, hr.f2, hr.f3, hr.f4, hr.f5, hr.f6, (fun _ => ⟨h5, fun g2 nc2 y => by obtain ⟨e1, e2⟩ := TU.inj y; rw [e1, e2]⟩), hr.f8, hr.f9, (fun z => ⟨(hr.f10 z).1, rfl⟩), hr.f11⟩⟩ (if_pos rfl) (fun j hj => if_neg hj)
        · obtain rfl := Option.some.inj ho
          have g6 : ℓ 6 = true := hdep { on := 6, ground := Ground.data } (by simp) rfl
          clear hdep ho
          revert hK
          obtain ⟨h5, rfl⟩ := hr.f6 g6
          obtain ⟨g, nc, rfl, hnc, ho⟩ := hr.f5 h5
          intro hK
          rw [if_pos (by rfl)]
          try simp only [Act.put, List.setIfInBounds_toArray, List.set_cons_zero, List.set_cons_succ]
          go_simp
          exact hK.out _ _ (fun j => if j = 8 then true else ℓ j) ⟨x71, x72, x73, x74, x75, TU s g N nc true, TU s g N nc true, x77, .bool true, x10, x11, (by simp only [Act.put, List.setIfInBounds_toArray, List.set_cons_zero, List.set_cons_succ]), ⟨hr.gb, hr.f0, hr.f1, hr.f2, hr.f3, hr.f4, hr.f5, hr.f6, hr.f7, (fun _ => rfl), hr.f9, hr.f10, hr.f11⟩⟩ (if_pos rfl) (fun j hj => if_neg hj)
        · obtain rfl := Option.some.inj ho
          clear hdep ho
          have hl10 : ℓ 10 = false := by
            cases h7 : ℓ 10
            · rfl
            · have := (hr.f10 h7).1; rw [this] at hL; cases hL
          rw [if_pos (by rfl)]
          try simp only [Act.put, List.setIfInBounds_toArray, List.set_cons_zero, List.set_cons_succ]
          go_simp
          have hal : Below w'.heap.size w' (w'.alloc (.cells #[.int .i64 0, .slice none 0 0] 30)) := (Below.refl _ _).alloc (Nat.le_refl _) _
          have hr9 := hr.below hal
          have hsz := hr.gb.size
          exact hK.out _ _ (fun j => if j = 9 then true else ℓ j) ⟨x71, x72, x73, x74, x75, x76, x70, x77, x78, .pointer (some ⟨w'.heap.size, 0, none⟩), x11, (by simp only [Act.put, List.setIfInBounds_toArray, List.set_cons_zero, List.set_cons_succ]), ⟨hr9.gb, hr9.f0, hr9.f1, hr9.f2, hr9.f3, hr9.f4, hr9.f5, hr9.f6, hr9.f7, hr9.f8, (fun _ => ⟨_, rfl, hsz, fun _ => Bk.new _ _ _ _ rfl, (fun z => by rw [hl10] at z; cases z), fun z g nc y => by
            obtain ⟨g2, nc2, e1, e2, e3⟩ := hr.f5 z
            rw [e1] at y
            have hg := (e3.lt g2 rfl).2
            have := (TU.inj y).1
            omega⟩), (fun z => by rw [hl10] at z; cases z), hr9.f11⟩⟩ (if_pos rfl) (fun j hj => if_neg hj)
        · obtain rfl := Option.some.inj ho
          have g7 : ℓ 7 = true := hdep { on := 7, ground := Ground.data } (by simp) rfl
          have g9 : ℓ 9 = true := hdep { on := 9, ground := Ground.data } (by simp) rfl
          clear hdep ho
          revert hK
          obtain ⟨h5, h77⟩ := hr.f7 g7
          obtain ⟨g, nc, rfl, hnc, ho⟩ := hr.f5 h5
          obtain rfl := h77 g nc rfl
          obtain ⟨Q, rfl, e2, e3, e4, e5⟩ := hr.f9 g9
          intro hK
          have kk := e3 hL
          have q0 := kk.cell 0 _ rfl
          have q1 := kk.cell 1 _ rfl
          have qf := kk.free
          have hgQ : g ≠ Q := e5 h5 g nc rfl
          have hkn : Bk ((w'.setCell ⟨Q, 0, none⟩ (.int .i64 s)).setCell ⟨Q, 1, none⟩ (.slice (some ⟨g, 0, none⟩) N nc)) Q #[.int .i64 s, .slice (some ⟨g, 0, none⟩) N nc] := (kk.set 0 (.int .i64 s) (by simp) (cs' := #[.int .i64 s, .slice none 0 0]) rfl).set 1 (.slice (some ⟨g, 0, none⟩) N nc) (by simp) rfl
          have hvn : ∀ g2, (Value.slice (some ⟨g, 0, none⟩) N nc).ownBlock = some g2 → g2 ≠ Q := fun g2 e => by
            have e' : g = g2 := by have : some g = some g2 := e; injection this
            subst e'; exact hgQ
          rw [if_pos (by rfl)]
          try simp only [Act.put, List.setIfInBounds_toArray, List.set_cons_zero, List.set_cons_succ]
          go_simp
          exact hK.out _ _ (fun j => if j = 10 then true else ℓ j) ⟨x71, x72, x73, x74, x75, TU s g N nc true, x70, tlb s (.slice (some ⟨g, 0, none⟩) N nc), x78, .pointer (some ⟨Q, 0, none⟩), x11, (by simp only [Act.put, List.setIfInBounds_toArray, List.set_cons_zero, List.set_cons_succ]), ⟨((hr.gb.setCell (p := ⟨Q, 0, none⟩) e2 _).setCell (p := ⟨Q, 1, none⟩) e2 _), hr.f0, hr.f1, hr.f2, hr.f3, hr.f4, (fun _ => ⟨g, nc, rfl, hnc, OwnL.set (OwnL.set ho hvn) hvn⟩), hr.f6, hr.f7, hr.f8, (fun _ => ⟨Q, rfl, e2, (fun z => by cases z), fun _ g2 nc2 y => by obtain ⟨y1, y2⟩ := TU.inj y; rw [← y1, ← y2]; exact hkn, e5⟩), (fun _ => ⟨g9, g7⟩), hr.f11⟩⟩ (if_pos rfl) (fun j hj => if_neg hj)
        · obtain rfl := Option.some.inj ho
          have g8 : ℓ 8 = true := hdep { on := 8, ground := Ground.data } (by simp) rfl
          clear hdep ho
          obtain rfl := hr.f8 g8
          rw [if_pos (by rfl)]
          try simp only [Act.put, List.setIfInBounds_toArray, List.set_cons_zero, List.set_cons_succ]
          go_simp
          exact hK.out _ _ (fun j => if j = 11 then true else ℓ j) ⟨x71, x72, x73, x74, x75, x76, x70, x77, .bool true, x10, .bool true, (by simp only [Act.put, List.setIfInBounds_toArray, List.set_cons_zero, List.set_cons_succ]), ⟨hr.gb, hr.f0, hr.f1, hr.f2, hr.f3, hr.f4, hr.f5, hr.f6, hr.f7, hr.f8, hr.f9, hr.f10, (fun _ => rfl)⟩⟩ (if_pos rfl) (fun j hj => if_neg hj)
      · rintro a' w' ℓ ℓ' hℓ hI
        rw [← show ℓ = ℓ' from funext hℓ]
        exact hI
      · intro ℓ a' w' hI hall
        obtain ⟨x71, x72, x73, x74, x75, x76, x70, x77, x78, x10, x11, rfl, hr⟩ := hI
        have hall' : ∀ i, i < 12 → ℓ i = true := hall
        obtain ⟨g, nc, rfl, hnc, ho⟩ := hr.f5 (hall' 5 (by omega))
        obtain ⟨Q, rfl, hQ, _, hkQ, _⟩ := hr.f9 (hall' 9 (by omega))
        have KQ : Hid (Bk w' Q #[.int .i64 s, .slice (some ⟨g, 0, none⟩) N nc]) := hkQ (hall' 10 (by omega)) g nc rfl
        obtain rfl := (hr.f7 (hall' 7 (by omega))).2 g nc rfl
        obtain rfl := (hr.f6 (hall' 6 (by omega))).2
        obtain rfl := hr.f0 (hall' 0 (by omega))
        obtain rfl := hr.f1 (hall' 1 (by omega))
        obtain rfl := hr.f2 (hall' 2 (by omega))
        obtain rfl := hr.f3 (hall' 3 (by omega))
        obtain rfl := hr.f4 (hall' 4 (by omega))
        obtain rfl := hr.f8 (hall' 8 (by omega))
        obtain rfl := hr.f11 (hall' 11 (by omega))
        have HGB : Hid (Below wq.heap.size wq w') := hr.gb
        have HON : Hid (OwnL w' wq.heap.size (.slice (some ⟨g, 0, none⟩) N nc) R ∧ N ≤ nc) := ⟨ho, hnc⟩
        clear hr hall hall' hkQ ho hnc hQ
        simp only [Act.put, List.setIfInBounds_toArray, List.set_cons_zero, List.set_cons_succ]
        have HB2 : Hid (FP w0 w' T7 base s zs bs (some ⟨gb0, go0, none⟩) (some ⟨ab, ao, none⟩) (.slice (some ⟨gs, 0, none⟩) L6 cs) k ps ta tn tc) := HB.out.below HGB.out
        have HTH : Hid (∀ X : Gr w', Calls Try.prog 12 #[tlb s (.slice (some ⟨g, 0, none⟩) N nc), .int .i64 (m : Int)] X.w fun e w'' => e = .returned (.bool true) ∧ Below X.w.heap.size X.w w'') := fun X => by
          obtain ⟨a5, c5, e5, hs5⟩ := (HON.out.1.below X.h).seg
          injection e5 with e51 e52 e53
          exact impl_thold s (m : Int) _ nc N R X.w (by rw [e51]; exact hs5) HRN.out (by have := HN8.out; omega) HON.out.2 true ⟨fun _ => HHO.out, fun _ => rfl⟩
        have HSI : Hid (true = true → ∀ X : Gr w', Calls Try.prog 11 #[.slice (some ⟨g, 0, none⟩) N nc, .slice ta tn tc] X.w fun e w'' => e = .returned (.bool true) ∧ Below X.w.heap.size X.w w'') := fun hq X => by
          obtain ⟨a5, c5, e5, hs5⟩ := (HON.out.1.below X.h).seg
          injection e5 with e51 e52 e53
          have hRq := HRS.out (by first | exact hq | trivial)
          have hNt : N = tn := by rw [← HRN.out, hRq]; exact HB2.out.tl
          rw [← hNt]
          exact same_ints _ _ nc tc N (runT s zs k) X.w (by rw [e51, ← hRq]; exact hs5) ((HB2.out.below X.h).ts) (by rw [← hRq]; exact HRN.out) (by have := HN8.out; omega)
        replace HSI := (show Hid (∀ X : Gr w', _) from HSI.out rfl)
        obtain ⟨gb9, go9, eg9, _, hg9⟩ := HB2.out.got.at k HKB.out
        rw [HBV.out] at hg9
        have hg8 : w'.cell? ⟨gb0, go0 + k, none⟩ = some (.bool true) := by injection eg9 with eg9; injection eg9 with e1 e2; rw [e1, e2]; exact hg9
        clear hg9 eg9
        have hg9 := hg8
        clear hg8
        have e1 : w'.cell? ⟨ab, ao + k, none⟩ = some (.int .i64 (m : Int)) := HCA.out _ HGB.out
        have e2 := HB2.out.box.cell 1 _ rfl
        have e3 := KQ.out.cell 0 _ rfl
        have e4 := KQ.out.cell 1 _ rfl
        have E0 := fun X => gr_cell (W0 := w') hg9 X
        have E1 := fun X => gr_cell (W0 := w') e1 X
        have E2 := fun X => gr_cell (W0 := w') e2 X
        have E3 := fun X => gr_cell (W0 := w') e3 X
        have E4 := fun X => gr_cell (W0 := w') e4 X
        clear hg9 e1 e2 e3 e4
        have hgr := gr_some w'
        have hqq : (true != true) = false := rfl
        go_wp2
        refine region_alike (by kernel_rfl) (by kernel_rfl) ?_
        repeat (go_big_quiet_step (first | (go_at_call 11; exact gr_call (HSI.out _)) | (go_at_call 12; exact gr_call (HTH.out _))))
        refine wpQuiet_nil ?_
        intro _ hw'
        obtain ⟨X1, rfl⟩ := hw'
        have HX1 : Hid (Below w'.heap.size w' X1.w) := X1.h
        generalize X1.w = X9 at HX1 ⊢
        clear hgr E0 E1 E2 E3 E4 HTH HSI
        have HXB : Hid (Below wq.heap.size wq X9) := HGB.out.trans (HX1.out.mono HGB.out.size)
        have KQ9 : Hid (Bk X9 Q #[.int .i64 s, .slice (some ⟨g, 0, none⟩) N nc]) := KQ.out.below HX1.out
        have HB9 : Hid (FP w0 X9 T7 base s zs bs (some ⟨gb0, go0, none⟩) (some ⟨ab, ao, none⟩) (.slice (some ⟨gs, 0, none⟩) L6 cs) k ps ta tn tc) := HB.out.below HXB.out
        have HNX : Hid (∀ hh : Unit, FP w0 ((X9.setCell ⟨T7, 0, none⟩ (.int .i64 s)).setCell ⟨T7, 1, none⟩ (.slice (some ⟨g, 0, none⟩) N nc)) T7 base s zs bs (some ⟨gb0, go0, none⟩) (some ⟨ab, ao, none⟩) (.slice (some ⟨gs, 0, none⟩) L6 cs) (k + 1) ps (some ⟨g, 0, none⟩) N nc) := fun _ => HB.out.next (v' := (.slice (some ⟨gs, 0, none⟩) L6 cs)) HXB.out (HON.out.1.lt g rfl).1 HRN1.out HON.out.2 (by rw [← HRR.out]; exact HON.out.1.below HX1.out)
        have e3 := KQ9.out.cell 0 _ rfl
        have e4 := KQ9.out.cell 1 _ rfl
        have e5 := HB9.out.box.cell 0 _ rfl
        have e6 := HB9.out.box.cell 1 _ rfl
        have ef := HB9.out.box.free
        clear HB HB2 HB9 KQ KQ9 HGB HX1 HXB HON
        go_wp2
        clear e3 e4 e5 e6 ef
        go_roundw
        case rel => exact ⟨k + 1, by omega, by omega, by go_num, _, _, _, ps, HSN.out, HNX.out ()⟩
        case measure => simp [intOf]; omega
    cases qq
    · go_wp2
      clear hg0 c0
      refine wp_region_inv (by kernel_rfl) (by kernel_rfl) (fun AC ℓ a' w' => ∃ (x71 x72 x73 x74 x75 x76 x70 x77 x78 x10 x11 : Value), a' = (((((((((((AC.put (some 71) x71).put (some 72) x72).put (some 73) x73).put (some 74) x74).put (some 75) x75).put (some 76) x76).put (some 70) x70).put (some 77) x77).put (some 78) x78).put (some 10) x10).put (some 11) x11) ∧ R19 wq (tlb s (.slice ta tn tc)) (.slice (some ⟨ab, ao, none⟩) nb ac) (.int .i64 (k : Int)) (.pointer (some ⟨ab, ao + k, none⟩)) (.int .i64 (m : Int)) s N false R w' (ℓ 0) (ℓ 1) (ℓ 2) (ℓ 3) (ℓ 4) (ℓ 5) (ℓ 6) (ℓ 7) (ℓ 8) (ℓ 9) (ℓ 10) (ℓ 11) x71 x72 x73 x74 x75 x76 x70 x77 x78 x10 x11) ?_ ?_ ?_ ?_
      · exact ⟨u71, u72, u73, u74, u75, u76, u70, u77, u78, u10, u11, (by simp only [Act.put, List.setIfInBounds_toArray, List.set_cons_zero, List.set_cons_succ]), ⟨(Below.refl _ _).drew, (fun z => by cases z), (fun z => by cases z), (fun z => by cases z), (fun z => by cases z), (fun z => by cases z), (fun z => by cases z), (fun z => by cases z), (fun z => by cases z), (fun z => by cases z), (fun z => by cases z), (fun z => by cases z), (fun z => by cases z)⟩⟩
      rotate_left
      · intro ℓ a' w' i o hI ho hi hL hdep K hK
        obtain ⟨x71, x72, x73, x74, x75, x76, x70, x77, x78, x10, x11, rfl, hr⟩ := hI
        have hi7 : i < 12 := hi
        have hcs : i = 0 ∨ i = 1 ∨ i = 2 ∨ i = 3 ∨ i = 4 ∨ i = 5 ∨ i = 6 ∨ i = 7 ∨ i = 8 ∨ i = 9 ∨ i = 10 ∨ i = 11 := by omega
        clear hi hi7
        rcases hcs with rfl | rfl | rfl | rfl | rfl | rfl | rfl | rfl | rfl | rfl | rfl | rfl
        · obtain rfl := Option.some.inj ho
          clear hdep ho
          have q0 := (HC7.out _ hr.gb).1
          have q1 := (HC7.out _ hr.gb).2
          rw [if_pos (by rfl)]
          try simp only [Act.put, List.setIfInBounds_toArray, List.set_cons_zero, List.set_cons_succ]
          go_simp
          exact hK.out _ _ (fun j => if j = 0 then true else ℓ j) ⟨tlb s (.slice ta tn tc), x72, x73, x74, x75, x76, x70, x77, x78, x10, x11, (by simp only [Act.put, List.setIfInBounds_toArray, List.set_cons_zero, List.set_cons_succ]), ⟨hr.gb, (fun _ => rfl), hr.f1, hr.f2, hr.f3, hr.f4, hr.f5, hr.f6, hr.f7, hr.f8, hr.f9, hr.f10, hr.f11⟩⟩ (if_pos rfl) (fun j hj => if_neg hj)
        · obtain rfl := Option.some.inj ho
          clear hdep ho
          rw [if_pos (by rfl)]
          try simp only [Act.put, List.setIfInBounds_toArray, List.set_cons_zero, List.set_cons_succ]
          go_simp
          exact hK.out _ _ (fun j => if j = 1 then true else ℓ j) ⟨x71, .slice (some ⟨ab, ao, none⟩) nb ac, x73, x74, x75, x76, x70, x77, x78, x10, x11, (by simp only [Act.put, List.setIfInBounds_toArray, List.set_cons_zero, List.set_cons_succ]), ⟨hr.gb, hr.f0, (fun _ => rfl), hr.f2, hr.f3, hr.f4, hr.f5, hr.f6, hr.f7, hr.f8, hr.f9, hr.f10, hr.f11⟩⟩ (if_pos rfl) (fun j hj => if_neg hj)
        · obtain rfl := Option.some.inj ho
          clear hdep ho
          rw [if_pos (by rfl)]
          try simp only [Act.put, List.setIfInBounds_toArray, List.set_cons_zero, List.set_cons_succ]
          go_simp
          exact hK.out _ _ (fun j => if j = 2 then true else ℓ j) ⟨x71, x72, .int .i64 (k : Int), x74, x75, x76, x70, x77, x78, x10, x11, (by simp only [Act.put, List.setIfInBounds_toArray, List.set_cons_zero, List.set_cons_succ]), ⟨hr.gb, hr.f0, hr.f1, (fun _ => rfl), hr.f3, hr.f4, hr.f5, hr.f6, hr.f7, hr.f8, hr.f9, hr.f10, hr.f11⟩⟩ (if_pos rfl) (fun j hj => if_neg hj)
        · obtain rfl := Option.some.inj ho
          have g1 : ℓ 1 = true := hdep { on := 1, ground := Ground.data } (by simp) rfl
          have g2 : ℓ 2 = true := hdep { on := 2, ground := Ground.data } (by simp) rfl
          clear hdep ho
          obtain rfl := hr.f1 g1
          obtain rfl := hr.f2 g2
          rw [if_pos (by rfl)]
          try simp only [Act.put, List.setIfInBounds_toArray, List.set_cons_zero, List.set_cons_succ]
          go_simp
          exact hK.out _ _ (fun j => if j = 3 then true else ℓ j) ⟨x71, .slice (some ⟨ab, ao, none⟩) nb ac, .int .i64 (k : Int), .pointer (some ⟨ab, ao + k, none⟩), x75, x76, x70, x77, x78, x10, x11, (by simp only [Act.put, List.setIfInBounds_toArray, List.set_cons_zero, List.set_cons_succ]), ⟨hr.gb, hr.f0, hr.f1, hr.f2, (fun _ => rfl), hr.f4, hr.f5, hr.f6, hr.f7, hr.f8, hr.f9, hr.f10, hr.f11⟩⟩ (if_pos rfl) (fun j hj => if_neg hj)
        · obtain rfl := Option.some.inj ho
          have g3 : ℓ 3 = true := hdep { on := 3, ground := Ground.data } (by simp) rfl
          clear hdep ho
          obtain rfl := hr.f3 g3
          have q0 := HCA.out _ hr.gb
          rw [if_pos (by rfl)]
          try simp only [Act.put, List.setIfInBounds_toArray, List.set_cons_zero, List.set_cons_succ]
          go_simp
          exact hK.out _ _ (fun j => if j = 4 then true else ℓ j) ⟨x71, x72, x73, .pointer (some ⟨ab, ao + k, none⟩), .int .i64 (m : Int), x76, x70, x77, x78, x10, x11, (by simp only [Act.put, List.setIfInBounds_toArray, List.set_cons_zero, List.set_cons_succ]), ⟨hr.gb, hr.f0, hr.f1, hr.f2, hr.f3, (fun _ => rfl), hr.f5, hr.f6, hr.f7, hr.f8, hr.f9, hr.f10, hr.f11⟩⟩ (if_pos rfl) (fun j hj => if_neg hj)
        · obtain rfl := Option.some.inj ho
          have g0 : ℓ 0 = true := hdep { on := 0, ground := Ground.data } (by simp) rfl
          have g4 : ℓ 4 = true := hdep { on := 4, ground := Ground.data } (by simp) rfl
          clear hdep ho
          obtain rfl := hr.f0 g0
          obtain rfl := hr.f4 g4
          have hl6 : ℓ 6 = false := by
            cases h7 : ℓ 6
            · rfl
            · have := (hr.f6 h7).1; rw [this] at hL; cases hL
          have hl7 : ℓ 7 = false := by
            cases h7 : ℓ 7
            · rfl
            · have := (hr.f7 h7).1; rw [this] at hL; cases hL
          have hl10 : ℓ 10 = false := by
            cases h7 : ℓ 10
            · rfl
            · have := (hr.f7 (hr.f10 h7).2).1; rw [this] at hL; cases hL
          rw [if_pos (by rfl)]
          try simp only [Act.put, List.setIfInBounds_toArray, List.set_cons_zero, List.set_cons_succ]
          go_simp
          refine Calls.mono (HTU.out _ hr.gb) ?_
          rintro e w9 ⟨v9, rfl, hb9, ho9⟩
          revert hK
          obtain ⟨g, nc, rfl, hnc⟩ := ho9.shape (ho9.ne HR0.out) HRN.out
          intro hK
          have hr9 := hr.below hb9
          have hsz := hr.gb.size
          exact hK.out _ _ (fun j => if j = 5 then true else ℓ j) ⟨tlb s (.slice ta tn tc), x72, x73, x74, .int .i64 (m : Int), TU s g N nc false, x70, x77, x78, x10, x11, (by simp only [Act.put, List.setIfInBounds_toArray, List.set_cons_zero, List.set_cons_succ]), ⟨hr9.gb, hr9.f0, hr9.f1, hr9.f2, hr9.f3, hr9.f4, (fun _ => ⟨g, nc, rfl, hnc, ho9.low hsz⟩), (fun z => by rw [hl6] at z; cases z), (fun z => by rw [hl7] at z; cases z), hr9.f8, (fun z => by
            obtain ⟨Q, e1, e2, e3, e4, e5⟩ := hr.f9 z
            obtain ⟨Q', e1', e2', e3', e4', e5'⟩ := hr9.f9 z
            have hQ : Q = Q' := by rw [e1] at e1'; injection e1' with e1'; injection e1' with e1'; injection e1'
            subst hQ
            exact ⟨Q, e1, e2, e3', (fun y => by rw [hl10] at y; cases y), fun _ g2 nc2 y => by
              have := (e3 hl10).lt
              have hg := (ho9.lt g rfl).1
              have := (TU.inj y).1
              omega⟩), hr9.f10, hr9.f11⟩⟩ (if_pos rfl) (fun j hj => if_neg hj)
        · obtain rfl := Option.some.inj ho
          have g5 : ℓ 5 = true := hdep { on := 5, ground := Ground.data } (by simp) rfl
          clear hdep ho
          revert hK
          obtain ⟨g, nc, rfl, hnc, ho⟩ := hr.f5 g5
          intro hK
          rw [if_pos (by rfl)]
          try simp only [Act.put, List.setIfInBounds_toArray, List.set_cons_zero, List.set_cons_succ]
          go_simp
          exact hK.out _ _ (fun j => if j = 6 then true else ℓ j) ⟨x71, x72, x73, x74, x75, TU s g N nc false, TU s g N nc false, x77, x78, x10, x11, (by simp only [Act.put, List.setIfInBounds_toArray, List.set_cons_zero, List.set_cons_succ]), ⟨hr.gb, hr.f0, hr.f1, hr.f2, hr.f3, hr.f4, hr.f5, (fun _ => ⟨g5, rfl⟩), hr.f7, hr.f8, hr.f9, hr.f10, hr.f11⟩⟩ (if_pos rfl) (fun j hj => if_neg hj)
        · obtain rfl := Option.some.inj ho
          have g6 : ℓ 6 = true := hdep { on := 6, ground := Ground.data } (by simp) rfl
          clear hdep ho
          revert hK
          obtain ⟨h5, rfl⟩ := hr.f6 g6
          obtain ⟨g, nc, rfl, hnc, ho⟩ := hr.f5 h5
          intro hK
          rw [if_pos (by rfl)]
          try simp only [Act.put, List.setIfInBounds_toArray, List.set_cons_zero, List.set_cons_succ]
          go_simp
          exact hK.out _ _ (fun j => if j = 7 then true else ℓ j) ⟨x71, x72, x73, x74, x75, TU s g N nc false, TU s g N nc false, tlb s (.slice (some ⟨g, 0, none⟩) N nc), x78, x10, x11, (by simp only [Act.put, List.setIfInBounds_toArray, List.set_cons_zero, List.set_cons_succ]), ⟨hr.gb, hr.f0, hr.f1, hr.f2, hr.f3, hr.f4, hr.f5, hr.f6, (fun _ => ⟨h5, fun g2 nc2 y => by obtain ⟨e1, e2⟩ := TU.inj y; rw [e1, e2]⟩), hr.f8, hr.f9, (fun z => ⟨(hr.f10 z).1, rfl⟩), hr.f11⟩⟩ (if_pos rfl) (fun j hj => if_neg hj)
        · obtain rfl := Option.some.inj ho
          have g6 : ℓ 6 = true := hdep { on := 6, ground := Ground.data } (by simp) rfl
          clear hdep ho
          revert hK
          obtain ⟨h5, rfl⟩ := hr.f6 g6
          obtain ⟨g, nc, rfl, hnc, ho⟩ := hr.f5 h5
          intro hK
          rw [if_pos (by rfl)]
          try simp only [Act.put, List.setIfInBounds_toArray, List.set_cons_zero, List.set_cons_succ]
          go_simp
          exact hK.out _ _ (fun j => if j = 8 then true else ℓ j) ⟨x71, x72, x73, x74, x75, TU s g N nc false, TU s g N nc false, x77, .bool false, x10, x11, (by simp only [Act.put, List.setIfInBounds_toArray, List.set_cons_zero, List.set_cons_succ]), ⟨hr.gb, hr.f0, hr.f1, hr.f2, hr.f3, hr.f4, hr.f5, hr.f6, hr.f7, (fun _ => rfl), hr.f9, hr.f10, hr.f11⟩⟩ (if_pos rfl) (fun j hj => if_neg hj)
        · obtain rfl := Option.some.inj ho
          clear hdep ho
          have hl10 : ℓ 10 = false := by
            cases h7 : ℓ 10
            · rfl
            · have := (hr.f10 h7).1; rw [this] at hL; cases hL
          rw [if_pos (by rfl)]
          try simp only [Act.put, List.setIfInBounds_toArray, List.set_cons_zero, List.set_cons_succ]
          go_simp
          have hal : Below w'.heap.size w' (w'.alloc (.cells #[.int .i64 0, .slice none 0 0] 30)) := (Below.refl _ _).alloc (Nat.le_refl _) _
          have hr9 := hr.below hal
          have hsz := hr.gb.size
          exact hK.out _ _ (fun j => if j = 9 then true else ℓ j) ⟨x71, x72, x73, x74, x75, x76, x70, x77, x78, .pointer (some ⟨w'.heap.size, 0, none⟩), x11, (by simp only [Act.put, List.setIfInBounds_toArray, List.set_cons_zero, List.set_cons_succ]), ⟨hr9.gb, hr9.f0, hr9.f1, hr9.f2, hr9.f3, hr9.f4, hr9.f5, hr9.f6, hr9.f7, hr9.f8, (fun _ => ⟨_, rfl, hsz, fun _ => Bk.new _ _ _ _ rfl, (fun z => by rw [hl10] at z; cases z), fun z g nc y => by
            obtain ⟨g2, nc2, e1, e2, e3⟩ := hr.f5 z
            rw [e1] at y
            have hg := (e3.lt g2 rfl).2
            have := (TU.inj y).1
            omega⟩), (fun z => by rw [hl10] at z; cases z), hr9.f11⟩⟩ (if_pos rfl) (fun j hj => if_neg hj)
        · obtain rfl := Option.some.inj ho
          have g7 : ℓ 7 = true := hdep { on := 7, ground := Ground.data } (by simp) rfl
          have g9 : ℓ 9 = true := hdep { on := 9, ground := Ground.data } (by simp) rfl
          clear hdep ho
          revert hK
          obtain ⟨h5, h77⟩ := hr.f7 g7
          obtain ⟨g, nc, rfl, hnc, ho⟩ := hr.f5 h5
          obtain rfl := h77 g nc rfl
          obtain ⟨Q, rfl, e2, e3, e4, e5⟩ := hr.f9 g9
          intro hK
          have kk := e3 hL
          have q0 := kk.cell 0 _ rfl
          have q1 := kk.cell 1 _ rfl
          have qf := kk.free
          have hgQ : g ≠ Q := e5 h5 g nc rfl
          have hkn : Bk ((w'.setCell ⟨Q, 0, none⟩ (.int .i64 s)).setCell ⟨Q, 1, none⟩ (.slice (some ⟨g, 0, none⟩) N nc)) Q #[.int .i64 s, .slice (some ⟨g, 0, none⟩) N nc] := (kk.set 0 (.int .i64 s) (by simp) (cs' := #[.int .i64 s, .slice none 0 0]) rfl).set 1 (.slice (some ⟨g, 0, none⟩) N nc) (by simp) rfl
          have hvn : ∀ g2, (Value.slice (some ⟨g, 0, none⟩) N nc).ownBlock = some g2 → g2 ≠ Q := fun g2 e => by
            have e' : g = g2 := by have : some g = some g2 := e; injection this
            subst e'; exact hgQ
          rw [if_pos (by rfl)]
          try simp only [Act.put, List.setIfInBounds_toArray, List.set_cons_zero, List.set_cons_succ]
          go_simp
          exact hK.out _ _ (fun j => if j = 10 then true else ℓ j) ⟨x71, x72, x73, x74, x75, TU s g N nc false, x70, tlb s (.slice (some ⟨g, 0, none⟩) N nc), x78, .pointer (some ⟨Q, 0, none⟩), x11, (by simp only [Act.put, List.setIfInBounds_toArray, List.set_cons_zero, List.set_cons_succ]), ⟨((hr.gb.setCell (p := ⟨Q, 0, none⟩) e2 _).setCell (p := ⟨Q, 1, none⟩) e2 _), hr.f0, hr.f1, hr.f2, hr.f3, hr.f4, (fun _ => ⟨g, nc, rfl, hnc, OwnL.set (OwnL.set ho hvn) hvn⟩), hr.f6, hr.f7, hr.f8, (fun _ => ⟨Q, rfl, e2, (fun z => by cases z), fun _ g2 nc2 y => by obtain ⟨y1, y2⟩ := TU.inj y; rw [← y1, ← y2]; exact hkn, e5⟩), (fun _ => ⟨g9, g7⟩), hr.f11⟩⟩ (if_pos rfl) (fun j hj => if_neg hj)
        · obtain rfl := Option.some.inj ho
          have g8 : ℓ 8 = true := hdep { on := 8, ground := Ground.data } (by simp) rfl
          clear hdep ho
          obtain rfl := hr.f8 g8
          rw [if_pos (by rfl)]
          try simp only [Act.put, List.setIfInBounds_toArray, List.set_cons_zero, List.set_cons_succ]
          go_simp
          exact hK.out _ _ (fun j => if j = 11 then true else ℓ j) ⟨x71, x72, x73, x74, x75, x76, x70, x77, .bool false, x10, .bool false, (by simp only [Act.put, List.setIfInBounds_toArray, List.set_cons_zero, List.set_cons_succ]), ⟨hr.gb, hr.f0, hr.f1, hr.f2, hr.f3, hr.f4, hr.f5, hr.f6, hr.f7, hr.f8, hr.f9, hr.f10, (fun _ => rfl)⟩⟩ (if_pos rfl) (fun j hj => if_neg hj)
      · rintro a' w' ℓ ℓ' hℓ hI
        rw [← show ℓ = ℓ' from funext hℓ]
        exact hI
      · intro ℓ a' w' hI hall
        obtain ⟨x71, x72, x73, x74, x75, x76, x70, x77, x78, x10, x11, rfl, hr⟩ := hI
        have hall' : ∀ i, i < 12 → ℓ i = true := hall
        obtain ⟨g, nc, rfl, hnc, ho⟩ := hr.f5 (hall' 5 (by omega))
        obtain ⟨Q, rfl, hQ, _, hkQ, _⟩ := hr.f9 (hall' 9 (by omega))
        have KQ : Hid (Bk w' Q #[.int .i64 s, .slice (some ⟨g, 0, none⟩) N nc]) := hkQ (hall' 10 (by omega)) g nc rfl
        obtain rfl := (hr.f7 (hall' 7 (by omega))).2 g nc rfl
        obtain rfl := (hr.f6 (hall' 6 (by omega))).2
        obtain rfl := hr.f0 (hall' 0 (by omega))
        obtain rfl := hr.f1 (hall' 1 (by omega))
        obtain rfl := hr.f2 (hall' 2 (by omega))
        obtain rfl := hr.f3 (hall' 3 (by omega))
        obtain rfl := hr.f4 (hall' 4 (by omega))
        obtain rfl := hr.f8 (hall' 8 (by omega))
        obtain rfl := hr.f11 (hall' 11 (by omega))
        have HGB : Hid (Below wq.heap.size wq w') := hr.gb
        have HON : Hid (OwnL w' wq.heap.size (.slice (some ⟨g, 0, none⟩) N nc) R ∧ N ≤ nc) := ⟨ho, hnc⟩
        clear hr hall hall' hkQ ho hnc hQ
        simp only [Act.put, List.setIfInBounds_toArray, List.set_cons_zero, List.set_cons_succ]
        have HB2 : Hid (FP w0 w' T7 base s zs bs (some ⟨gb0, go0, none⟩) (some ⟨ab, ao, none⟩) (.slice (some ⟨gs, 0, none⟩) L6 cs) k ps ta tn tc) := HB.out.below HGB.out
        have HTH : Hid (∀ X : Gr w', Calls Try.prog 12 #[tlb s (.slice (some ⟨g, 0, none⟩) N nc), .int .i64 (m : Int)] X.w fun e w'' => e = .returned (.bool true) ∧ Below X.w.heap.size X.w w'') := fun X => by
          obtain ⟨a5, c5, e5, hs5⟩ := (HON.out.1.below X.h).seg
          injection e5 with e51 e52 e53
          exact impl_thold s (m : Int) _ nc N R X.w (by rw [e51]; exact hs5) HRN.out (by have := HN8.out; omega) HON.out.2 true ⟨fun _ => HHO.out, fun _ => rfl⟩
        have HSI : Hid (false = true → ∀ X : Gr w', Calls Try.prog 11 #[.slice (some ⟨g, 0, none⟩) N nc, .slice ta tn tc] X.w fun e w'' => e = .returned (.bool true) ∧ Below X.w.heap.size X.w w'') := fun hq X => by
          obtain ⟨a5, c5, e5, hs5⟩ := (HON.out.1.below X.h).seg
          injection e5 with e51 e52 e53
          have hRq := HRS.out (by first | exact hq | trivial)
          have hNt : N = tn := by rw [← HRN.out, hRq]; exact HB2.out.tl
          rw [← hNt]
          exact same_ints _ _ nc tc N (runT s zs k) X.w (by rw [e51, ← hRq]; exact hs5) ((HB2.out.below X.h).ts) (by rw [← hRq]; exact HRN.out) (by have := HN8.out; omega)
        clear HSI
        obtain ⟨gb9, go9, eg9, _, hg9⟩ := HB2.out.got.at k HKB.out
        rw [HBV.out] at hg9
        have hg8 : w'.cell? ⟨gb0, go0 + k, none⟩ = some (.bool false) := by injection eg9 with eg9; injection eg9 with e1 e2; rw [e1, e2]; exact hg9
        clear hg9 eg9
        have hg9 := hg8
        clear hg8
        have e1 : w'.cell? ⟨ab, ao + k, none⟩ = some (.int .i64 (m : Int)) := HCA.out _ HGB.out
        have e2 := HB2.out.box.cell 1 _ rfl
        have e3 := KQ.out.cell 0 _ rfl
        have e4 := KQ.out.cell 1 _ rfl
        have E0 := fun X => gr_cell (W0 := w') hg9 X
        have E1 := fun X => gr_cell (W0 := w') e1 X
        have E2 := fun X => gr_cell (W0 := w') e2 X
        have E3 := fun X => gr_cell (W0 := w') e3 X
        have E4 := fun X => gr_cell (W0 := w') e4 X
        clear hg9 e1 e2 e3 e4
        have hgr := gr_some w'
        have hqq : (false != false) = false := rfl
        go_wp2
        refine region_alike (by kernel_rfl) (by kernel_rfl) ?_
        repeat (go_big_quiet_step (first | (go_at_call 12; exact gr_call (HTH.out _))))
        refine wpQuiet_nil ?_
        intro _ hw'
        obtain ⟨X1, rfl⟩ := hw'
        have HX1 : Hid (Below w'.heap.size w' X1.w) := X1.h
        generalize X1.w = X9 at HX1 ⊢
        clear hgr E0 E1 E2 E3 E4 HTH
        have HXB : Hid (Below wq.heap.size wq X9) := HGB.out.trans (HX1.out.mono HGB.out.size)
        have KQ9 : Hid (Bk X9 Q #[.int .i64 s, .slice (some ⟨g, 0, none⟩) N nc]) := KQ.out.below HX1.out
        have HB9 : Hid (FP w0 X9 T7 base s zs bs (some ⟨gb0, go0, none⟩) (some ⟨ab, ao, none⟩) (.slice (some ⟨gs, 0, none⟩) L6 cs) k ps ta tn tc) := HB.out.below HXB.out
        have HNX : Hid (∀ hh : Unit, FP w0 ((X9.setCell ⟨T7, 0, none⟩ (.int .i64 s)).setCell ⟨T7, 1, none⟩ (.slice (some ⟨g, 0, none⟩) N nc)) T7 base s zs bs (some ⟨gb0, go0, none⟩) (some ⟨ab, ao, none⟩) (.slice (some ⟨gs, 0, none⟩) L6 cs) (k + 1) ps (some ⟨g, 0, none⟩) N nc) := fun _ => HB.out.next (v' := (.slice (some ⟨gs, 0, none⟩) L6 cs)) HXB.out (HON.out.1.lt g rfl).1 HRN1.out HON.out.2 (by rw [← HRR.out]; exact HON.out.1.below HX1.out)
        have e3 := KQ9.out.cell 0 _ rfl
        have e4 := KQ9.out.cell 1 _ rfl
        have e5 := HB9.out.box.cell 0 _ rfl
        have e6 := HB9.out.box.cell 1 _ rfl
        have ef := HB9.out.box.free
        clear HB HB2 HB9 KQ KQ9 HGB HX1 HXB HON
        go_wp2
        clear e3 e4 e5 e6 ef
        go_roundw
        case rel => exact ⟨k + 1, by omega, by omega, by go_num, _, _, _, ps, HSN.out, HNX.out ()⟩
        case measure => simp [intOf]; omega
    · go_wp2
      clear hg0 c0
      refine wp_region_inv (by kernel_rfl) (by kernel_rfl) (fun AC ℓ a' w' => ∃ (x71 x72 x73 x74 x75 x76 x70 x77 x78 x10 x11 : Value), a' = (((((((((((AC.put (some 71) x71).put (some 72) x72).put (some 73) x73).put (some 74) x74).put (some 75) x75).put (some 76) x76).put (some 70) x70).put (some 77) x77).put (some 78) x78).put (some 10) x10).put (some 11) x11) ∧ R19 wq (tlb s (.slice ta tn tc)) (.slice (some ⟨ab, ao, none⟩) nb ac) (.int .i64 (k : Int)) (.pointer (some ⟨ab, ao + k, none⟩)) (.int .i64 (m : Int)) s N true R w' (ℓ 0) (ℓ 1) (ℓ 2) (ℓ 3) (ℓ 4) (ℓ 5) (ℓ 6) (ℓ 7) (ℓ 8) (ℓ 9) (ℓ 10) (ℓ 11) x71 x72 x73 x74 x75 x76 x70 x77 x78 x10 x11) ?_ ?_ ?_ ?_
      · exact ⟨u71, u72, u73, u74, u75, u76, u70, u77, u78, u10, u11, (by simp only [Act.put, List.setIfInBounds_toArray, List.set_cons_zero, List.set_cons_succ]), ⟨(Below.refl _ _).drew, (fun z => by cases z), (fun z => by cases z), (fun z => by cases z), (fun z => by cases z), (fun z => by cases z), (fun z => by cases z), (fun z => by cases z), (fun z => by cases z), (fun z => by cases z), (fun z => by cases z), (fun z => by cases z), (fun z => by cases z)⟩⟩
      rotate_left
      · intro ℓ a' w' i o hI ho hi hL hdep K hK
        obtain ⟨x71, x72, x73, x74, x75, x76, x70, x77, x78, x10, x11, rfl, hr⟩ := hI
        have hi7 : i < 12 := hi
        have hcs : i = 0 ∨ i = 1 ∨ i = 2 ∨ i = 3 ∨ i = 4 ∨ i = 5 ∨ i = 6 ∨ i = 7 ∨ i = 8 ∨ i = 9 ∨ i = 10 ∨ i = 11 := by omega
        clear hi hi7
        rcases hcs with rfl | rfl | rfl | rfl | rfl | rfl | rfl | rfl | rfl | rfl | rfl | rfl
        · obtain rfl := Option.some.inj ho
          clear hdep ho
          have q0 := (HC7.out _ hr.gb).1
          have q1 := (HC7.out _ hr.gb).2
          rw [if_pos (by rfl)]
          try simp only [Act.put, List.setIfInBounds_toArray, List.set_cons_zero, List.set_cons_succ]
          go_simp
          exact hK.out _ _ (fun j => if j = 0 then true else ℓ j) ⟨tlb s (.slice ta tn tc), x72, x73, x74, x75, x76, x70, x77, x78, x10, x11, (by simp only [Act.put, List.setIfInBounds_toArray, List.set_cons_zero, List.set_cons_succ]), ⟨hr.gb, (fun _ => rfl), hr.f1, hr.f2, hr.f3, hr.f4, hr.f5, hr.f6, hr.f7, hr.f8, hr.f9, hr.f10, hr.f11⟩⟩ (if_pos rfl) (fun j hj => if_neg hj)
        · obtain rfl := Option.some.inj ho
          clear hdep ho
          rw [if_pos (by rfl)]
          try simp only [Act.put, List.setIfInBounds_toArray, List.set_cons_zero, List.set_cons_succ]
          go_simp
          exact hK.out _ _ (fun j => if j = 1 then true else ℓ j) ⟨x71, .slice (some ⟨ab, ao, none⟩) nb ac, x73, x74, x75, x76, x70, x77, x78, x10, x11, (by simp only [Act.put, List.setIfInBounds_toArray, List.set_cons_zero, List.set_cons_succ]), ⟨hr.gb, hr.f0, (fun _ => rfl), hr.f2, hr.f3, hr.f4, hr.f5, hr.f6, hr.f7, hr.f8, hr.f9, hr.f10, hr.f11⟩⟩ (if_pos rfl) (fun j hj => if_neg hj)
        · obtain rfl := Option.some.inj ho
          clear hdep ho
          rw [if_pos (by rfl)]
          try simp only [Act.put, List.setIfInBounds_toArray, List.set_cons_zero, List.set_cons_succ]
          go_simp
          exact hK.out _ _ (fun j => if j = 2 then true else ℓ j) ⟨x71, x72, .int .i64 (k : Int), x74, x75, x76, x70, x77, x78, x10, x11, (by simp only [Act.put, List.setIfInBounds_toArray, List.set_cons_zero, List.set_cons_succ]), ⟨hr.gb, hr.f0, hr.f1, (fun _ => rfl), hr.f3, hr.f4, hr.f5, hr.f6, hr.f7, hr.f8, hr.f9, hr.f10, hr.f11⟩⟩ (if_pos rfl) (fun j hj => if_neg hj)
        · obtain rfl := Option.some.inj ho
          have g1 : ℓ 1 = true := hdep { on := 1, ground := Ground.data } (by simp) rfl
          have g2 : ℓ 2 = true := hdep { on := 2, ground := Ground.data } (by simp) rfl
          clear hdep ho
          obtain rfl := hr.f1 g1
          obtain rfl := hr.f2 g2
          rw [if_pos (by rfl)]
          try simp only [Act.put, List.setIfInBounds_toArray, List.set_cons_zero, List.set_cons_succ]
          go_simp
          exact hK.out _ _ (fun j => if j = 3 then true else ℓ j) ⟨x71, .slice (some ⟨ab, ao, none⟩) nb ac, .int .i64 (k : Int), .pointer (some ⟨ab, ao + k, none⟩), x75, x76, x70, x77, x78, x10, x11, (by simp only [Act.put, List.setIfInBounds_toArray, List.set_cons_zero, List.set_cons_succ]), ⟨hr.gb, hr.f0, hr.f1, hr.f2, (fun _ => rfl), hr.f4, hr.f5, hr.f6, hr.f7, hr.f8, hr.f9, hr.f10, hr.f11⟩⟩ (if_pos rfl) (fun j hj => if_neg hj)
        · obtain rfl := Option.some.inj ho
          have g3 : ℓ 3 = true := hdep { on := 3, ground := Ground.data } (by simp) rfl
          clear hdep ho
          obtain rfl := hr.f3 g3
          have q0 := HCA.out _ hr.gb
          rw [if_pos (by rfl)]
          try simp only [Act.put, List.setIfInBounds_toArray, List.set_cons_zero, List.set_cons_succ]
          go_simp
          exact hK.out _ _ (fun j => if j = 4 then true else ℓ j) ⟨x71, x72, x73, .pointer (some ⟨ab, ao + k, none⟩), .int .i64 (m : Int), x76, x70, x77, x78, x10, x11, (by simp only [Act.put, List.setIfInBounds_toArray, List.set_cons_zero, List.set_cons_succ]), ⟨hr.gb, hr.f0, hr.f1, hr.f2, hr.f3, (fun _ => rfl), hr.f5, hr.f6, hr.f7, hr.f8, hr.f9, hr.f10, hr.f11⟩⟩ (if_pos rfl) (fun j hj => if_neg hj)
        · obtain rfl := Option.some.inj ho
          have g0 : ℓ 0 = true := hdep { on := 0, ground := Ground.data } (by simp) rfl
          have g4 : ℓ 4 = true := hdep { on := 4, ground := Ground.data } (by simp) rfl
          clear hdep ho
          obtain rfl := hr.f0 g0
          obtain rfl := hr.f4 g4
          have hl6 : ℓ 6 = false := by
            cases h7 : ℓ 6
            · rfl
            · have := (hr.f6 h7).1; rw [this] at hL; cases hL
          have hl7 : ℓ 7 = false := by
            cases h7 : ℓ 7
            · rfl
            · have := (hr.f7 h7).1; rw [this] at hL; cases hL
          have hl10 : ℓ 10 = false := by
            cases h7 : ℓ 10
            · rfl
            · have := (hr.f7 (hr.f10 h7).2).1; rw [this] at hL; cases hL
          rw [if_pos (by rfl)]
          try simp only [Act.put, List.setIfInBounds_toArray, List.set_cons_zero, List.set_cons_succ]
          go_simp
          refine Calls.mono (HTU.out _ hr.gb) ?_
          rintro e w9 ⟨v9, rfl, hb9, ho9⟩
          revert hK
          obtain ⟨g, nc, rfl, hnc⟩ := ho9.shape (ho9.ne HR0.out) HRN.out
          intro hK
          have hr9 := hr.below hb9
          have hsz := hr.gb.size
          exact hK.out _ _ (fun j => if j = 5 then true else ℓ j) ⟨tlb s (.slice ta tn tc), x72, x73, x74, .int .i64 (m : Int), TU s g N nc true, x70, x77, x78, x10, x11, (by simp only [Act.put, List.setIfInBounds_toArray, List.set_cons_zero, List.set_cons_succ]), ⟨hr9.gb, hr9.f0, hr9.f1, hr9.f2, hr9.f3, hr9.f4, (fun _ => ⟨g, nc, rfl, hnc, ho9.low hsz⟩), (fun z => by rw [hl6] at z; cases z), (fun z => by rw [hl7] at z; cases z), hr9.f8, (fun z => by
            obtain ⟨Q, e1, e2, e3, e4, e5⟩ := hr.f9 z
            obtain ⟨Q', e1', e2', e3', e4', e5'⟩ := hr9.f9 z
            have hQ : Q = Q' := by rw [e1] at e1'; injection e1' with e1'; injection e1' with e1'; injection e1'
            subst hQ
            exact ⟨Q, e1, e2, e3', (fun y => by rw [hl10] at y; cases y), fun _ g2 nc2 y => by
              have := (e3 hl10).lt
              have hg := (ho9.lt g rfl).1
              have := (TU.inj y).1
              omega⟩), hr9.f10, hr9.f11⟩⟩ (if_pos rfl) (fun j hj => if_neg hj)
        · obtain rfl := Option.some.inj ho
          have g5 : ℓ 5 = true := hdep { on := 5, ground := Ground.data } (by simp) rfl
          clear hdep ho
          revert hK
          obtain ⟨g, nc, rfl, hnc, ho⟩ := hr.f5 g5
          intro hK
          rw [if_pos (by rfl)]
          try simp only [Act.put, List.setIfInBounds_toArray, List.set_cons_zero, List.set_cons_succ]
          go_simp
          exact hK.out _ _ (fun j => if j = 6 then true else ℓ j) ⟨x71, x72, x73, x74, x75, TU s g N nc true, TU s g N nc true, x77, x78, x10, x11, (by simp only [Act.put, List.setIfInBounds_toArray, List.set_cons_zero, List.set_cons_succ]), ⟨hr.gb, hr.f0, hr.f1, hr.f2, hr.f3, hr.f4, hr.f5, (fun _ => ⟨g5, rfl⟩), hr.f7, hr.f8, hr.f9, hr.f10, hr.f11⟩⟩ (if_pos rfl) (fun j hj => if_neg hj)
        · obtain rfl := Option.some.inj ho
          have g6 : ℓ 6 = true := hdep { on := 6, ground := Ground.data } (by simp) rfl
          clear hdep ho
          revert hK
          obtain ⟨h5, rfl⟩ := hr.f6 g6
          obtain ⟨g, nc, rfl, hnc, ho⟩ := hr.f5 h5
          intro hK
          rw [if_pos (by rfl)]
          try simp only [Act.put, List.setIfInBounds_toArray, List.set_cons_zero, List.set_cons_succ]
          go_simp
          exact hK.out _ _ (fun j => if j = 7 then true else ℓ j) ⟨x71, x72, x73, x74, x75, TU s g N nc true, TU s g N nc true, tlb s (.slice (some ⟨g, 0, none⟩) N nc), x78, x10, x11, (by simp only [Act.put, List.setIfInBounds_toArray, List.set_cons_zero, List.set_cons_succ]), ⟨hr.gb, hr.f0, hr.f1, hr.f2, hr.f3, hr.f4, hr.f5, hr.f6, (fun _ => ⟨h5, fun g2 nc2 y => by obtain ⟨e1, e2⟩ := TU.inj y; rw [e1, e2]⟩), hr.f8, hr.f9, (fun z => ⟨(hr.f10 z).1, rfl⟩), hr.f11⟩⟩ (if_pos rfl) (fun j hj => if_neg hj)
        · obtain rfl := Option.some.inj ho
          have g6 : ℓ 6 = true := hdep { on := 6, ground := Ground.data } (by simp) rfl
          clear hdep ho
          revert hK
          obtain ⟨h5, rfl⟩ := hr.f6 g6
          obtain ⟨g, nc, rfl, hnc, ho⟩ := hr.f5 h5
          intro hK
          rw [if_pos (by rfl)]
          try simp only [Act.put, List.setIfInBounds_toArray, List.set_cons_zero, List.set_cons_succ]
          go_simp
          exact hK.out _ _ (fun j => if j = 8 then true else ℓ j) ⟨x71, x72, x73, x74, x75, TU s g N nc true, TU s g N nc true, x77, .bool true, x10, x11, (by simp only [Act.put, List.setIfInBounds_toArray, List.set_cons_zero, List.set_cons_succ]), ⟨hr.gb, hr.f0, hr.f1, hr.f2, hr.f3, hr.f4, hr.f5, hr.f6, hr.f7, (fun _ => rfl), hr.f9, hr.f10, hr.f11⟩⟩ (if_pos rfl) (fun j hj => if_neg hj)
        · obtain rfl := Option.some.inj ho
          clear hdep ho
          have hl10 : ℓ 10 = false := by
            cases h7 : ℓ 10
            · rfl
            · have := (hr.f10 h7).1; rw [this] at hL; cases hL
          rw [if_pos (by rfl)]
          try simp only [Act.put, List.setIfInBounds_toArray, List.set_cons_zero, List.set_cons_succ]
          go_simp
          have hal : Below w'.heap.size w' (w'.alloc (.cells #[.int .i64 0, .slice none 0 0] 30)) := (Below.refl _ _).alloc (Nat.le_refl _) _
          have hr9 := hr.below hal
          have hsz := hr.gb.size
          exact hK.out _ _ (fun j => if j = 9 then true else ℓ j) ⟨x71, x72, x73, x74, x75, x76, x70, x77, x78, .pointer (some ⟨w'.heap.size, 0, none⟩), x11, (by simp only [Act.put, List.setIfInBounds_toArray, List.set_cons_zero, List.set_cons_succ]), ⟨hr9.gb, hr9.f0, hr9.f1, hr9.f2, hr9.f3, hr9.f4, hr9.f5, hr9.f6, hr9.f7, hr9.f8, (fun _ => ⟨_, rfl, hsz, fun _ => Bk.new _ _ _ _ rfl, (fun z => by rw [hl10] at z; cases z), fun z g nc y => by
            obtain ⟨g2, nc2, e1, e2, e3⟩ := hr.f5 z
            rw [e1] at y
            have hg := (e3.lt g2 rfl).2
            have := (TU.inj y).1
            omega⟩), (fun z => by rw [hl10] at z; cases z), hr9.f11⟩⟩ (if_pos rfl) (fun j hj => if_neg hj)
        · obtain rfl := Option.some.inj ho
          have g7 : ℓ 7 = true := hdep { on := 7, ground := Ground.data } (by simp) rfl
          have g9 : ℓ 9 = true := hdep { on := 9, ground := Ground.data } (by simp) rfl
          clear hdep ho
          revert hK
          obtain ⟨h5, h77⟩ := hr.f7 g7
          obtain ⟨g, nc, rfl, hnc, ho⟩ := hr.f5 h5
          obtain rfl := h77 g nc rfl
          obtain ⟨Q, rfl, e2, e3, e4, e5⟩ := hr.f9 g9
          intro hK
          have kk := e3 hL
          have q0 := kk.cell 0 _ rfl
          have q1 := kk.cell 1 _ rfl
          have qf := kk.free
          have hgQ : g ≠ Q := e5 h5 g nc rfl
          have hkn : Bk ((w'.setCell ⟨Q, 0, none⟩ (.int .i64 s)).setCell ⟨Q, 1, none⟩ (.slice (some ⟨g, 0, none⟩) N nc)) Q #[.int .i64 s, .slice (some ⟨g, 0, none⟩) N nc] := (kk.set 0 (.int .i64 s) (by simp) (cs' := #[.int .i64 s, .slice none 0 0]) rfl).set 1 (.slice (some ⟨g, 0, none⟩) N nc) (by simp) rfl
          have hvn : ∀ g2, (Value.slice (some ⟨g, 0, none⟩) N nc).ownBlock = some g2 → g2 ≠ Q := fun g2 e => by
            have e' : g = g2 := by have : some g = some g2 := e; injection this
            subst e'; exact hgQ
          rw [if_pos (by rfl)]
          try simp only [Act.put, List.setIfInBounds_toArray, List.set_cons_zero, List.set_cons_succ]
          go_simp
          exact hK.out _ _ (fun j => if j = 10 then true else ℓ j) ⟨x71, x72, x73, x74, x75, TU s g N nc true, x70, tlb s (.slice (some ⟨g, 0, none⟩) N nc), x78, .pointer (some ⟨Q, 0, none⟩), x11, (by simp only [Act.put, List.setIfInBounds_toArray, List.set_cons_zero, List.set_cons_succ]), ⟨((hr.gb.setCell (p := ⟨Q, 0, none⟩) e2 _).setCell (p := ⟨Q, 1, none⟩) e2 _), hr.f0, hr.f1, hr.f2, hr.f3, hr.f4, (fun _ => ⟨g, nc, rfl, hnc, OwnL.set (OwnL.set ho hvn) hvn⟩), hr.f6, hr.f7, hr.f8, (fun _ => ⟨Q, rfl, e2, (fun z => by cases z), fun _ g2 nc2 y => by obtain ⟨y1, y2⟩ := TU.inj y; rw [← y1, ← y2]; exact hkn, e5⟩), (fun _ => ⟨g9, g7⟩), hr.f11⟩⟩ (if_pos rfl) (fun j hj => if_neg hj)
        · obtain rfl := Option.some.inj ho
          have g8 : ℓ 8 = true := hdep { on := 8, ground := Ground.data } (by simp) rfl
          clear hdep ho
          obtain rfl := hr.f8 g8
          rw [if_pos (by rfl)]
          try simp only [Act.put, List.setIfInBounds_toArray, List.set_cons_zero, List.set_cons_succ]
          go_simp
          exact hK.out _ _ (fun j => if j = 11 then true else ℓ j) ⟨x71, x72, x73, x74, x75, x76, x70, x77, .bool true, x10, .bool true, (by simp only [Act.put, List.setIfInBounds_toArray, List.set_cons_zero, List.set_cons_succ]), ⟨hr.gb, hr.f0, hr.f1, hr.f2, hr.f3, hr.f4, hr.f5, hr.f6, hr.f7, hr.f8, hr.f9, hr.f10, (fun _ => rfl)⟩⟩ (if_pos rfl) (fun j hj => if_neg hj)
      · rintro a' w' ℓ ℓ' hℓ hI
        rw [← show ℓ = ℓ' from funext hℓ]
        exact hI
      · intro ℓ a' w' hI hall
        obtain ⟨x71, x72, x73, x74, x75, x76, x70, x77, x78, x10, x11, rfl, hr⟩ := hI
        have hall' : ∀ i, i < 12 → ℓ i = true := hall
        obtain ⟨g, nc, rfl, hnc, ho⟩ := hr.f5 (hall' 5 (by omega))
        obtain ⟨Q, rfl, hQ, _, hkQ, _⟩ := hr.f9 (hall' 9 (by omega))
        have KQ : Hid (Bk w' Q #[.int .i64 s, .slice (some ⟨g, 0, none⟩) N nc]) := hkQ (hall' 10 (by omega)) g nc rfl
        obtain rfl := (hr.f7 (hall' 7 (by omega))).2 g nc rfl
        obtain rfl := (hr.f6 (hall' 6 (by omega))).2
        obtain rfl := hr.f0 (hall' 0 (by omega))
        obtain rfl := hr.f1 (hall' 1 (by omega))
        obtain rfl := hr.f2 (hall' 2 (by omega))
        obtain rfl := hr.f3 (hall' 3 (by omega))
        obtain rfl := hr.f4 (hall' 4 (by omega))
        obtain rfl := hr.f8 (hall' 8 (by omega))
        obtain rfl := hr.f11 (hall' 11 (by omega))
        have HGB : Hid (Below wq.heap.size wq w') := hr.gb
        have HON : Hid (OwnL w' wq.heap.size (.slice (some ⟨g, 0, none⟩) N nc) R ∧ N ≤ nc) := ⟨ho, hnc⟩
        clear hr hall hall' hkQ ho hnc hQ
        simp only [Act.put, List.setIfInBounds_toArray, List.set_cons_zero, List.set_cons_succ]
        have HB2 : Hid (FP w0 w' T7 base s zs bs (some ⟨gb0, go0, none⟩) (some ⟨ab, ao, none⟩) (.slice (some ⟨gs, 0, none⟩) L6 cs) k ps ta tn tc) := HB.out.below HGB.out
        have HTH : Hid (∀ X : Gr w', Calls Try.prog 12 #[tlb s (.slice (some ⟨g, 0, none⟩) N nc), .int .i64 (m : Int)] X.w fun e w'' => e = .returned (.bool true) ∧ Below X.w.heap.size X.w w'') := fun X => by
          obtain ⟨a5, c5, e5, hs5⟩ := (HON.out.1.below X.h).seg
          injection e5 with e51 e52 e53
          exact impl_thold s (m : Int) _ nc N R X.w (by rw [e51]; exact hs5) HRN.out (by have := HN8.out; omega) HON.out.2 true ⟨fun _ => HHO.out, fun _ => rfl⟩
        have HSI : Hid (true = true → ∀ X : Gr w', Calls Try.prog 11 #[.slice (some ⟨g, 0, none⟩) N nc, .slice ta tn tc] X.w fun e w'' => e = .returned (.bool true) ∧ Below X.w.heap.size X.w w'') := fun hq X => by
          obtain ⟨a5, c5, e5, hs5⟩ := (HON.out.1.below X.h).seg
          injection e5 with e51 e52 e53
          have hRq := HRS.out (by first | exact hq | trivial)
          have hNt : N = tn := by rw [← HRN.out, hRq]; exact HB2.out.tl
          rw [← hNt]
          exact same_ints _ _ nc tc N (runT s zs k) X.w (by rw [e51, ← hRq]; exact hs5) ((HB2.out.below X.h).ts) (by rw [← hRq]; exact HRN.out) (by have := HN8.out; omega)
        replace HSI := (show Hid (∀ X : Gr w', _) from HSI.out rfl)
        obtain ⟨gb9, go9, eg9, _, hg9⟩ := HB2.out.got.at k HKB.out
        rw [HBV.out] at hg9
        have hg8 : w'.cell? ⟨gb0, go0 + k, none⟩ = some (.bool true) := by injection eg9 with eg9; injection eg9 with e1 e2; rw [e1, e2]; exact hg9
        clear hg9 eg9
        have hg9 := hg8
        clear hg8
        have e1 : w'.cell? ⟨ab, ao + k, none⟩ = some (.int .i64 (m : Int)) := HCA.out _ HGB.out
        have e2 := HB2.out.box.cell 1 _ rfl
        have e3 := KQ.out.cell 0 _ rfl
        have e4 := KQ.out.cell 1 _ rfl
        have E0 := fun X => gr_cell (W0 := w') hg9 X
        have E1 := fun X => gr_cell (W0 := w') e1 X
        have E2 := fun X => gr_cell (W0 := w') e2 X
        have E3 := fun X => gr_cell (W0 := w') e3 X
        have E4 := fun X => gr_cell (W0 := w') e4 X
        clear hg9 e1 e2 e3 e4
        have hgr := gr_some w'
        have hqq : (true != true) = false := rfl
        go_wp2
        refine region_alike (by kernel_rfl) (by kernel_rfl) ?_
        repeat (go_big_quiet_step (first | (go_at_call 11; exact gr_call (HSI.out _)) | (go_at_call 12; exact gr_call (HTH.out _))))
        refine wpQuiet_nil ?_
        intro _ hw'
        obtain ⟨X1, rfl⟩ := hw'
        have HX1 : Hid (Below w'.heap.size w' X1.w) := X1.h
        generalize X1.w = X9 at HX1 ⊢
        clear hgr E0 E1 E2 E3 E4 HTH HSI
        have HXB : Hid (Below wq.heap.size wq X9) := HGB.out.trans (HX1.out.mono HGB.out.size)
        have KQ9 : Hid (Bk X9 Q #[.int .i64 s, .slice (some ⟨g, 0, none⟩) N nc]) := KQ.out.below HX1.out
        have HB9 : Hid (FP w0 X9 T7 base s zs bs (some ⟨gb0, go0, none⟩) (some ⟨ab, ao, none⟩) (.slice (some ⟨gs, 0, none⟩) L6 cs) k ps ta tn tc) := HB.out.below HXB.out
        have HNX : Hid (∀ hh : Unit, FP w0 ((X9.setCell ⟨T7, 0, none⟩ (.int .i64 s)).setCell ⟨T7, 1, none⟩ (.slice (some ⟨g, 0, none⟩) N nc)) T7 base s zs bs (some ⟨gb0, go0, none⟩) (some ⟨ab, ao, none⟩) (.slice (some ⟨gs, 0, none⟩) L6 cs) (k + 1) ps (some ⟨g, 0, none⟩) N nc) := fun _ => HB.out.next (v' := (.slice (some ⟨gs, 0, none⟩) L6 cs)) HXB.out (HON.out.1.lt g rfl).1 HRN1.out HON.out.2 (by rw [← HRR.out]; exact HON.out.1.below HX1.out)
        have e3 := KQ9.out.cell 0 _ rfl
        have e4 := KQ9.out.cell 1 _ rfl
        have e5 := HB9.out.box.cell 0 _ rfl
        have e6 := HB9.out.box.cell 1 _ rfl
        have ef := HB9.out.box.free
        clear HB HB2 HB9 KQ KQ9 HGB HX1 HXB HON
        go_wp2
        clear e3 e4 e5 e6 ef
        go_roundw
        case rel => exact ⟨k + 1, by omega, by omega, by go_num, _, _, _, ps, HSN.out, HNX.out ()⟩
        case measure => simp [intOf]; omega
end Go.Proofs.Ytdjfijkgmeapdaa
