
/-
  The law on PartOk, walked. Conditions: the lists lie in memory; the program's table of extras holds what the program's text lays.
-/
import Derived.Test.YtknipnenipdgiaaGreatDoorBas
import Derived.Test.YtknipnenipdgiaaGreatDoorPki
import Derived.Test.YtknipnenipdgiaaGreatDoorPto
import Derived.Test.YtknipnenipdgiaaGreatDoorLsw
namespace Go.Proofs.YtknipnenipdgiaaGreatDoor
open Go.ChangeShapes Go.WideShapes Go.ChangeAt Go.RowKit Go.Deep Go.Joins
set_option linter.unusedVariables false

theorem PLike.both {y a b : Ps} (h : PLike y a) (g : PLike y b) : PLike a b := ⟨h.rl.symm.trans g.rl, h.pc.symm.trans g.pc, h.mn.symm.trans g.mn, h.on.symm.trans g.on, h.vv.symm.trans g.vv, h.vs.symm.trans g.vs, h.vc.symm.trans g.vc, h.vk.symm.trans g.vk, h.vt.symm.trans g.vt, h.vn.symm.trans g.vn, h.vp.symm.trans g.vp, h.hf.symm.trans g.hf, h.hr.symm.trans g.hr, h.hl.symm.trans g.hl, h.hh.symm.trans g.hh, h.cs.symm.trans g.cs, h.cy.symm.trans g.cy, h.cl.symm.trans g.cl, h.kn.symm.trans g.kn, h.ts.symm.trans g.ts, h.tn.symm.trans g.tn, h.nx.symm.trans g.nx, h.idle.symm.trans g.idle, h.bn.symm.trans g.bn, h.un.symm.trans g.un, h.jn.symm.trans g.jn, h.dn.symm.trans g.dn⟩
theorem PLike.len {y z : Ps} {d : Pd} (h : PLike y z) (l : PLen y d) : PLen z d := ⟨by rw [← h.rl]; exact l.zr, by rw [← h.tn]; exact l.zz, by rw [← h.rl]; exact l.zrl, by rw [← h.mn]; exact l.zn, by rw [← h.kn]; exact l.zkn, by rw [← h.tn]; exact l.ztn, by rw [← h.bn]; exact l.zbn, by rw [← h.un]; exact l.zun, by rw [← h.jn]; exact l.zjn, by rw [← h.dn]; exact l.zdn, by rw [← h.mn]; exact l.zD, by rw [← h.kn]; exact l.zE, by rw [← h.bn]; exact l.zF, by rw [← h.un]; exact l.zG, by rw [← h.jn]; exact l.zI, by rw [← h.dn]; exact l.zU, by rw [← h.dn]; exact l.zV⟩
theorem PLike.fit {y z : Ps} {d : Pd} (h : PLike y z) (l : PFit y d) : PFit z d := ⟨by rw [← h.rl]; exact l.zrl, by rw [← h.mn]; exact l.zn, by rw [← h.mn]; exact l.zD, by rw [← h.kn]; exact l.zkn, by rw [← h.kn]; exact l.zE, by rw [← h.tn]; exact l.ztn, by rw [← h.bn]; exact l.zbn, by rw [← h.bn]; exact l.zF, by rw [← h.un]; exact l.zG, by rw [← h.jn]; exact l.zI, by rw [← h.dn]; exact l.zU⟩
theorem PLike.pok {t : Tb} {p : Int} {y z : Ps} {d : Pd} (h : PLike y z) : POk t p y d ↔ POk t p z d := by
  unfold POk EndsP DevP
  rw [h.bn, h.mn, h.hf, h.hr, h.hl, h.cs, h.cy, h.cl, h.ts, h.kn, h.nx, h.un, h.jn, h.dn]
/-- A copy of a state. -/
structure PCy (w : World) (y z : Ps) (d : Pd) : Prop where
  g : PSeg w z d
  k : PLike y z
  c : z.tn ≤ z.tc
theorem PCy.below {w w' : World} {y z : Ps} {d : Pd} (h : PCy w y z d) (hb : Below w.heap.size w w') : PCy w' y z d := ⟨h.g.below hb, h.k, h.c⟩
/-- What stands while the specification is asked. -/
structure QI (t : Tb) (a : Ad) (p : Int) (y : Ps) (d : Pd) (q : Bool) (W0 w : World) (b0 b1 b2 b3 b4 b5 b6 : Bool) (x22 x23 x24 x25 x26 x27 x8 : Value) : Prop where
  gb : Below W0.heap.size W0 w
  f0 : b0 = true → x22 = tbV t a
  f1 : b1 = true → ∃ a2, x23 = tbV t a2 ∧ Cpy w t a a2
  f2 : b2 = true → x24 = .int .i64 p
  f3 : b3 = true → x25 = psV y
  f4 : b4 = true → ∃ z, x26 = psV z ∧ PCy w y z d
  f5 : b5 = true → x27 = .bool q
  f6 : b6 = true → x8 = .bool q
theorem QI.below {t : Tb} {a : Ad} {p : Int} {y : Ps} {d : Pd} {q : Bool} {W0 w w' : World} {b0 b1 b2 b3 b4 b5 b6 : Bool} {x22 x23 x24 x25 x26 x27 x8 : Value} (h : QI t a p y d q W0 w b0 b1 b2 b3 b4 b5 b6 x22 x23 x24 x25 x26 x27 x8) (hb : Below w.heap.size w w') : QI t a p y d q W0 w' b0 b1 b2 b3 b4 b5 b6 x22 x23 x24 x25 x26 x27 x8 :=
  ⟨h.gb.trans (hb.mono h.gb.size), h.f0, fun g => by obtain ⟨a2, e, c⟩ := h.f1 g; exact ⟨a2, e, c.below hb⟩, h.f2, h.f3, fun g => by obtain ⟨a3, e, c⟩ := h.f4 g; exact ⟨a3, e, c.below hb⟩, h.f5, h.f6⟩
/-- What stands while the copies of the state are held against each other. -/
structure PI (y z4 : Ps) (d : Pd) (W0 w : World) (b0 b1 b2 b3 b4 : Bool) (x22 x23 x24 x25 x26 : Value) : Prop where
  gb : Below W0.heap.size W0 w
  f0 : b0 = true → x22 = psV z4
  f1 : b1 = true → x23 = psV y
  f2 : b2 = true → ∃ z, x24 = psV z ∧ PCy w y z d
  f3 : b3 = true → x25 = .bool true
  f4 : b4 = true → x26 = .bool false
theorem PI.below {y z4 : Ps} {d : Pd} {W0 w w' : World} {b0 b1 b2 b3 b4 : Bool} {x22 x23 x24 x25 x26 : Value} (h : PI y z4 d W0 w b0 b1 b2 b3 b4 x22 x23 x24 x25 x26) (hb : Below w.heap.size w w') : PI y z4 d W0 w' b0 b1 b2 b3 b4 x22 x23 x24 x25 x26 :=
  ⟨h.gb.trans (hb.mono h.gb.size), h.f0, h.f1, fun g => by obtain ⟨a5, e, c⟩ := h.f2 g; exact ⟨a5, e, c.below hb⟩, h.f3, h.f4⟩
set_option maxRecDepth 20000 in
set_option maxHeartbeats 4000000 in
theorem sz_tab2 (t : Tb) (a : Ad) (w : World) (hm : TM 0 w t a) (hw : TW t a) :
    Calls Tryz.prog 8 #[tbV t a, .int .i64 1048576] w fun e w' => (∃ r : Int, e = .returned (.int .i64 r) ∧ (r = -1 ∨ (0 ≤ r ∧ r ≤ 1048576 ∧ TS a))) ∧ Below w.heap.size w w' := by
  have HM : Hid (TM 0 w t a) := hm
  have HW : Hid (TW t a) := hw
  clear hm hw
  have HB0 : Hid (Below w.heap.size w (w.alloc (.cells (tbA t a) 31))) := (Below.refl _ _).alloc (Nat.le_refl _) _
  have KB0 : Hid (Bk (w.alloc (.cells (tbA t a) 31)) w.heap.size (tbA t a)) := Bk.new w _ _ _ rfl
  have h8 := HW.out.db
  have h9 := HW.out.cb
  have h10 := HW.out.sb
  have HZ : Hid (∀ X, Below w.heap.size w X → Calls Tryz.prog 31 #[.slice a.pa a.pn a.pc, .int .i64 ((1048576 : Nat) : Int)] X fun e w' => (∃ r : Int, e = .returned (.int .i64 r) ∧ (r = -1 ∨ ∃ d : Nat, r = (d : Int) ∧ d ≤ 1048576 ∧ a.pn ≤ 1048576 ∧ ∀ i, i < a.pn → (a.Y i).wn ≤ 1048576 ∧ (a.Y i).nm.size ≤ 1048576)) ∧ Below X.heap.size X w') := fun X hX => sz_parts a.pa a.pc a.pn 1048576 a.Y X (HM.out.p.below hX).1.seg HW.out.pb (Nat.le_refl _) HW.out.wb
  go_enter Tryz.func8, Tryz.ntmps8
  go_wp2_with fail
  refine (HZ.out _ HB0.out).mono ?_
  rintro e1 w1 ⟨⟨r, rfl, hr⟩, hb1⟩
  have HB1 : Hid (Below w.heap.size w w1) := HB0.out.trans (hb1.mono HB0.out.size)
  have KB1 : Hid (Bk w1 w.heap.size (tbA t a)) := KB0.out.below hb1
  clear hb1 HB0 KB0 HZ
  rcases hr with rfl | ⟨D, rfl, hD, hp, hww⟩
  · go_wp2
    go_ret
    exact ⟨⟨_, rfl, .inl rfl⟩, HB1.out⟩
  have HP : Hid (a.pn ≤ 1048576 ∧ ∀ i, i < a.pn → (a.Y i).wn ≤ 1048576 ∧ (a.Y i).nm.size ≤ 1048576) := ⟨hp, hww⟩
  clear hp hww
  have hd0 : ¬ ((D : Int) < 0) := by omega
  have k16 : w1.cell? ⟨w.heap.size, 16, none⟩ = some (.slice a.da a.dn a.dc) := KB1.out.cell 16 _ rfl
  have k17 : w1.cell? ⟨w.heap.size, 17, none⟩ = some (.slice a.ca a.cn a.cc) := KB1.out.cell 17 _ rfl
  have k18 : w1.cell? ⟨w.heap.size, 18, none⟩ = some (.slice a.sa a.sn a.sc) := KB1.out.cell 18 _ rfl
  go_wp2_with fail
  refine (in_sz a.da a.dc a.dn D _ h8 hD).mono ?_
  rintro e2 w2 ⟨⟨r, rfl, hr⟩, rfl⟩
  rcases hr with rfl | ⟨hr, hd⟩
  · go_wp2
    go_ret
    exact ⟨⟨_, rfl, .inl rfl⟩, HB1.out⟩
  obtain ⟨E, hE⟩ : ∃ E : Nat, D - a.dn = E := ⟨_, rfl⟩
  rw [hE] at hr
  subst hr
  have hE2 : E ≤ 1048576 := by omega
  have he0 : ¬ ((E : Int) < 0) := by omega
  have HD : Hid (a.dn ≤ 1048576) := by show _ ≤ _; omega
  clear hE hd
  go_wp2_with fail
  refine (ch_sz a.ca a.cc a.cn E _ h9 hE2).mono ?_
  rintro e2 w2 ⟨⟨r, rfl, hr⟩, rfl⟩
  rcases hr with rfl | ⟨hr, hd⟩
  · go_wp2
    go_ret
    exact ⟨⟨_, rfl, .inl rfl⟩, HB1.out⟩
  obtain ⟨G, hG⟩ : ∃ G : Nat, E - a.cn = G := ⟨_, rfl⟩
  rw [hG] at hr
  subst hr
  have hG2 : G ≤ 1048576 := by omega
  have hg0 : ¬ ((G : Int) < 0) := by omega
  have HC : Hid (a.cn ≤ 1048576) := by show _ ≤ _; omega
  clear hG hd
  go_wp2_with fail
  refine (sl_sz a.sa a.sc a.sn G _ h10 hG2).mono ?_
  rintro e2 w2 ⟨⟨r, rfl, hr⟩, rfl⟩
  rcases hr with rfl | ⟨hr, hd⟩
  · go_wp2
    go_ret
    exact ⟨⟨_, rfl, .inl rfl⟩, HB1.out⟩
  obtain ⟨J, hJ⟩ : ∃ J : Nat, G - a.sn = J := ⟨_, rfl⟩
  rw [hJ] at hr
  subst hr
  have hj0 : ¬ ((J : Int) < 0) := by omega
  have HS : Hid (a.sn ≤ 1048576) := by show _ ≤ _; omega
  have hJ2 : J ≤ 1048576 := by omega
  clear hJ hd
  go_wp2
  go_ret
  exact ⟨⟨_, rfl, .inr ⟨by omega, by omega, HP.out.1, HD.out, HC.out, HS.out, HP.out.2⟩⟩, HB1.out⟩
set_option maxRecDepth 40000 in
set_option maxHeartbeats 16000000 in
theorem walk_partok (t : Tb) (a : Ad) (p : Int) (y : Ps) (d : Pd) (w : World) (hm : TM 0 w t a) (hw : TW t a) (he : TabE w) (hps : PSeg w y d) (hl : PLen y d) : Calls Tryz.prog 3 #[tbV t a, .int .i64 p, psV y] w fun e w' => e = .returned (.bool true) ∧ Below w.heap.size w w' := by
  obtain ⟨q, hq⟩ := told (POk t p y d)
  have HQ : Hid (q = true ↔ POk t p y d) := hq
  have HU : Hid (∀ X, Below w.heap.size w X → TM 0 X t a ∧ TabE X) := fun X hX => ⟨hm.below hX, he.below hX⟩
  have HW : Hid (TW t a) := hw
  have HP : Hid (∀ X, Below w.heap.size w X → PSeg X y d) := fun X hX => hps.below hX
  have HPL : Hid (PLen y d) := hl
  have HB0 : Hid (Below w.heap.size w ((w.alloc (.cells (tbA t a) 31)).alloc (.cells (psA y) 50))) := ((Below.refl _ _).alloc (Nat.le_refl _) _).alloc (by simp) _
  have HX0 : Hid (((w.alloc (.cells (tbA t a) 31)).alloc (.cells (psA y) 50)).heap[w.heap.size]? = some (.cells (tbA t a) 31 (0, 0))) := row_below (new_row w _ _ _ rfl) ((Below.refl _ _).alloc (Nat.le_refl _) _)
  have HK0 : Hid (PBx ((w.alloc (.cells (tbA t a) 31)).alloc (.cells (psA y) 50)) (w.heap.size + 1) 50 y) := PBx.new _ _ y _ (by simp)
  clear hm hw he hps hl hq
  go_enter Tryz.func3, Tryz.ntmps3
  go_wp2_with (first | (refine wpList_load_row rfl 31 (.tmp 3) rfl w.heap.size rfl 31 (tbA t a) (0, 0) _ HX0.out Tryz.underlying31 rfl (by kernel_rfl) ?_) | fail)
  revert HB0 HX0 HK0
  generalize ((w.alloc (.cells (tbA t a) 31)).alloc (.cells (psA y) 50)) = V0
  intro HB0 HX0 HK0
  refine Calls.mono (sz_tab2 t a _ (HU.out _ HB0.out).1 HW.out) ?_
  rintro e w1 ⟨⟨r, rfl, hr⟩, hb⟩
  have HB1 : Hid (Below w.heap.size w w1) := HB0.out.trans (hb.mono HB0.out.size)
  have HX1 : Hid (w1.heap[w.heap.size]? = some (.cells (tbA t a) 31 (0, 0))) := row_below HX0.out hb
  have HK1 : Hid (PBx w1 (w.heap.size + 1) 50 y) := HK0.out.below hb
  clear hb HB0 HX0 HK0
  rcases hr with rfl | ⟨h0, h1, hs⟩
  · go_wp2
    go_ret
    exact ⟨rfl, HB1.out⟩
  have HS : Hid (TS a) := hs
  clear hs
  obtain ⟨L, rfl⟩ : ∃ L : Nat, r = (L : Int) := ⟨r.toNat, by omega⟩
  have hL : L ≤ 1048576 := by omega
  have hr0 : ¬ ((L : Int) < 0) := by omega
  go_wp2_with (first | (refine wpList_load_row rfl 50 (.tmp 5) rfl (w.heap.size + 1) rfl 50 (psA y) (0, 0) _ HK1.out Tryz.underlying50 rfl (by kernel_rfl) ?_) | fail)
  refine Calls.mono (sz_pst y d L _ (HP.out _ HB1.out) HPL.out hL) ?_
  rintro e w2 ⟨⟨r, rfl, hr⟩, hb⟩
  have HB2 : Hid (Below w.heap.size w w2) := HB1.out.trans (hb.mono HB1.out.size)
  have HX2 : Hid (w2.heap[w.heap.size]? = some (.cells (tbA t a) 31 (0, 0))) := row_below HX1.out hb
  have HK2 : Hid (PBx w2 (w.heap.size + 1) 50 y) := HK1.out.below hb
  clear hb HB1 HX1 HK1 h0 h1 hr0
  rcases hr with hr | ⟨h0, hf⟩
  · by_cases hr1 : r < 0
    · go_wp2
      go_ret
      exact ⟨rfl, HB2.out⟩
    · exact absurd hr hr1
  by_cases hr0 : r < 0
  · go_wp2
    go_ret
    exact ⟨rfl, HB2.out⟩
  have HF : Hid (PFit y d) := hf
  clear hf
  have HTC : Hid (∀ X, Below w.heap.size w X → Calls Tryz.prog 12 #[psV y] X fun e w' => ∃ z, e = .returned (psV z) ∧ Below X.heap.size X w' ∧ PCy w' y z d) := fun X hX => (to_pst y d X (HP.out X hX) HPL.out HF.out).mono fun e w' ⟨z, h1, h2, h3, h4, h5⟩ => ⟨z, h1, h2, h3, h4, h5⟩
  have HTT : Hid (∀ X, Below w.heap.size w X → Calls Tryz.prog 11 #[tbV t a] X fun e w' => ∃ a', e = .returned (tbV t a') ∧ Below X.heap.size X w' ∧ Cpy w' t a a') := fun X hX => copy_tab t a X (HU.out X hX).1 HW.out HS.out
  have HSP : Hid (∀ (X : World) a2 z, Cpy X t a a2 → PCy X y z d → Calls Tryz.prog 10 #[tbV t a2, .int .i64 p, psV z] X fun e w' => e = .returned (.bool q) ∧ Below X.heap.size X w') := fun X a2 z h1 h2 => spec_partok t a2 p z d q X h1.m h1.w h1.s h2.g (h2.k.len HPL.out) (h2.k.fit HF.out) (HQ.out.trans h2.k.pok)
  have HIM : Hid (∀ (X : World) a2 z, Below w.heap.size w X → Cpy X t a a2 → PCy X y z d → Calls Tryz.prog 13 #[tbV t a2, .int .i64 p, psV z] X fun e w' => e = .returned (.bool q) ∧ Below X.heap.size X w') := fun X a2 z h0 h1 h2 => impl_partok t a2 p z d q X h1.m h1.w h1.s h2.g (h2.k.len HPL.out) (h2.k.fit HF.out) (HU.out X h0).2 h1.c h2.c (HQ.out.trans h2.k.pok)
  have HEC : Hid (∀ (X : World) z1 z2, PCy X y z1 d → PCy X y z2 d → Calls Tryz.prog 15 #[psV z1, psV z2] X fun e w' => e = .returned (.bool true) ∧ Below X.heap.size X w') := fun X z1 z2 h1 h2 => eq_pst z1 z2 d X (h1.k.both h2.k) h1.g h2.g (h1.k.len HPL.out) (h1.k.fit HF.out)
  clear h0 hL HQ HP HPL HF
  go_wp2
  refine wp_region_inv (by kernel_rfl) (by kernel_rfl) (fun A ℓ a' w' => ∃ (x22 x23 x24 x25 x26 x27 x8 : Value), a' = (((((((A.put (some 22) x22).put (some 23) x23).put (some 24) x24).put (some 25) x25).put (some 26) x26).put (some 27) x27).put (some 8) x8) ∧ QI t a p y d q w2 w' (ℓ 0) (ℓ 1) (ℓ 2) (ℓ 3) (ℓ 4) (ℓ 5) (ℓ 6) x22 x23 x24 x25 x26 x27 x8) ?_ ?_ ?_ ?_
  · exact ⟨undef, undef, undef, undef, undef, undef, undef, (by simp only [Act.put, List.setIfInBounds_toArray, List.set_cons_zero, List.set_cons_succ]), ⟨(Below.refl _ _).drew, (fun g => by cases g), (fun g => by cases g), (fun g => by cases g), (fun g => by cases g), (fun g => by cases g), (fun g => by cases g), (fun g => by cases g)⟩⟩
  · intro ℓ a' w3 hI hall
    obtain ⟨x22, x23, x24, x25, x26, x27, x8, rfl, hr⟩ := hI
    have hall' : ∀ i, i < 7 → ℓ i = true := hall
    obtain rfl := hr.f6 (hall' 6 (by omega))
    have hb := hr.gb
    have HB3 : Hid (Below w.heap.size w w3) := HB2.out.trans (hb.mono HB2.out.size)
    have HX3 : Hid (w3.heap[w.heap.size]? = some (.cells (tbA t a) 31 (0, 0))) := row_below HX2.out hb
    have HK3 : Hid (PBx w3 (w.heap.size + 1) 50 y) := HK2.out.below hb
    clear hr hall hall' hb HB2 HX2 HK2 HSP
    simp only [Act.put, List.setIfInBounds_toArray, List.set_cons_zero, List.set_cons_succ]
    go_wp2_with (first | (refine wpList_load_row rfl 31 (.tmp 3) rfl w.heap.size rfl 31 (tbA t a) (0, 0) _ HX3.out Tryz.underlying31 rfl (by kernel_rfl) ?_) | fail)
    refine Calls.mono (HTT.out _ HB3.out) ?_
    rintro e w5 ⟨a4, rfl, hb, hc4⟩
    have HNR : Hid ((w5.alloc (.cells #[.int .i64 0, .int .i64 0, .int .i64 0, .int .i64 0, .int .i64 0, .int .i64 0, .int .i64 0, .int .i64 0, .int .i64 0, .int .i64 0, .int .i64 0, .int .i64 0, .int .i64 0, .int .i64 0, .int .i64 0, .slice none 0 0, .slice none 0 0, .slice none 0 0, .slice none 0 0] 60)).heap[w5.heap.size]? = some (.cells #[.int .i64 0, .int .i64 0, .int .i64 0, .int .i64 0, .int .i64 0, .int .i64 0, .int .i64 0, .int .i64 0, .int .i64 0, .int .i64 0, .int .i64 0, .int .i64 0, .int .i64 0, .int .i64 0, .int .i64 0, .slice none 0 0, .slice none 0 0, .slice none 0 0, .slice none 0 0] 60 (0, 0))) := new_row w5 _ _ _ rfl
    have hbV : Below w5.heap.size w5 ((w5.alloc (.cells #[.int .i64 0, .int .i64 0, .int .i64 0, .int .i64 0, .int .i64 0, .int .i64 0, .int .i64 0, .int .i64 0, .int .i64 0, .int .i64 0, .int .i64 0, .int .i64 0, .int .i64 0, .int .i64 0, .int .i64 0, .slice none 0 0, .slice none 0 0, .slice none 0 0, .slice none 0 0] 60)).setRow w5.heap.size (tbA t a4)) := below_setRow ((Below.refl _ _).alloc (Nat.le_refl _) _) (Nat.le_refl _) _
    have HXB : Hid (((w5.alloc (.cells #[.int .i64 0, .int .i64 0, .int .i64 0, .int .i64 0, .int .i64 0, .int .i64 0, .int .i64 0, .int .i64 0, .int .i64 0, .int .i64 0, .int .i64 0, .int .i64 0, .int .i64 0, .int .i64 0, .int .i64 0, .slice none 0 0, .slice none 0 0, .slice none 0 0, .slice none 0 0] 60)).setRow w5.heap.size (tbA t a4)).heap[w5.heap.size]? = some (.cells (tbA t a4) 60 (0, 0))) := setRow_heap _ _ _ _ _ _ HNR.out
    have hb2 := hb.trans (hbV.mono hb.size)
    have HB5 : Hid (Below w.heap.size w ((w5.alloc (.cells #[.int .i64 0, .int .i64 0, .int .i64 0, .int .i64 0, .int .i64 0, .int .i64 0, .int .i64 0, .int .i64 0, .int .i64 0, .int .i64 0, .int .i64 0, .int .i64 0, .int .i64 0, .int .i64 0, .int .i64 0, .slice none 0 0, .slice none 0 0, .slice none 0 0, .slice none 0 0] 60)).setRow w5.heap.size (tbA t a4))) := HB3.out.trans (hb2.mono HB3.out.size)
    have HX5 : Hid (((w5.alloc (.cells #[.int .i64 0, .int .i64 0, .int .i64 0, .int .i64 0, .int .i64 0, .int .i64 0, .int .i64 0, .int .i64 0, .int .i64 0, .int .i64 0, .int .i64 0, .int .i64 0, .int .i64 0, .int .i64 0, .int .i64 0, .slice none 0 0, .slice none 0 0, .slice none 0 0, .slice none 0 0] 60)).setRow w5.heap.size (tbA t a4)).heap[w.heap.size]? = some (.cells (tbA t a) 31 (0, 0))) := row_below HX3.out hb2
    have HK5 : Hid (PBx ((w5.alloc (.cells #[.int .i64 0, .int .i64 0, .int .i64 0, .int .i64 0, .int .i64 0, .int .i64 0, .int .i64 0, .int .i64 0, .int .i64 0, .int .i64 0, .int .i64 0, .int .i64 0, .int .i64 0, .int .i64 0, .int .i64 0, .slice none 0 0, .slice none 0 0, .slice none 0 0, .slice none 0 0] 60)).setRow w5.heap.size (tbA t a4)) (w.heap.size + 1) 50 y) := HK3.out.below hb2
    have HC5 : Hid (Cpy ((w5.alloc (.cells #[.int .i64 0, .int .i64 0, .int .i64 0, .int .i64 0, .int .i64 0, .int .i64 0, .int .i64 0, .int .i64 0, .int .i64 0, .int .i64 0, .int .i64 0, .int .i64 0, .int .i64 0, .int .i64 0, .int .i64 0, .slice none 0 0, .slice none 0 0, .slice none 0 0, .slice none 0 0] 60)).setRow w5.heap.size (tbA t a4)) t a a4) := hc4.below hbV
    clear hb hb2 hbV hc4 HB3 HX3 HK3
    go_wp2_with (first | (refine wpList_store_row rfl 60 (.tmp 9) (.tmp 29) rfl w5.heap.size (tbA t a4) rfl rfl 60 #[.int .i64 0, .int .i64 0, .int .i64 0, .int .i64 0, .int .i64 0, .int .i64 0, .int .i64 0, .int .i64 0, .int .i64 0, .int .i64 0, .int .i64 0, .int .i64 0, .int .i64 0, .int .i64 0, .int .i64 0, .slice none 0 0, .slice none 0 0, .slice none 0 0, .slice none 0 0] HNR.out (by kernel_rfl) rfl (by simp [Value.oneCell']) ?_) | (refine wpList_load_row rfl 50 (.tmp 5) rfl (w.heap.size + 1) rfl 50 (psA y) (0, 0) _ HK5.out Tryz.underlying50 rfl (by kernel_rfl) ?_) | fail)
    clear HNR
    revert HXB HB5 HX5 HK5 HC5
    generalize ((w5.alloc (.cells #[.int .i64 0, .int .i64 0, .int .i64 0, .int .i64 0, .int .i64 0, .int .i64 0, .int .i64 0, .int .i64 0, .int .i64 0, .int .i64 0, .int .i64 0, .int .i64 0, .int .i64 0, .int .i64 0, .int .i64 0, .slice none 0 0, .slice none 0 0, .slice none 0 0, .slice none 0 0] 60)).setRow w5.heap.size (tbA t a4)) = V5
    intro HXB HB5 HX5 HK5 HC5
    obtain ⟨N, hN⟩ : ∃ N, w5.heap.size = N := ⟨_, rfl⟩
    rw [hN] at HXB
    rw [hN]
    clear hN
    refine Calls.mono (HTC.out _ HB5.out) ?_
    rintro e w6 ⟨z4, rfl, hb, hc5⟩
    have HNR : Hid ((w6.alloc (.cells #[.slice none 0 0, .int .u32 0, .slice none 0 0, .bool false, .int .u32 0, .int .u32 0, .int .u32 0, .int .u32 0, .bool false, .bool false, .int .u32 0, .int .i64 0, .int .i64 0, .int .i64 0, .bool false, .int .i64 0, .int .i64 0, .int .i64 0, .slice none 0 0, .int .i64 0, .slice none 0 0, .int .i64 0, .bool false, .slice none 0 0, .slice none 0 0, .slice none 0 0, .slice none 0 0] 73)).heap[w6.heap.size]? = some (.cells #[.slice none 0 0, .int .u32 0, .slice none 0 0, .bool false, .int .u32 0, .int .u32 0, .int .u32 0, .int .u32 0, .bool false, .bool false, .int .u32 0, .int .i64 0, .int .i64 0, .int .i64 0, .bool false, .int .i64 0, .int .i64 0, .int .i64 0, .slice none 0 0, .int .i64 0, .slice none 0 0, .int .i64 0, .bool false, .slice none 0 0, .slice none 0 0, .slice none 0 0, .slice none 0 0] 73 (0, 0))) := new_row w6 _ _ _ rfl
    have hbV : Below w6.heap.size w6 ((w6.alloc (.cells #[.slice none 0 0, .int .u32 0, .slice none 0 0, .bool false, .int .u32 0, .int .u32 0, .int .u32 0, .int .u32 0, .bool false, .bool false, .int .u32 0, .int .i64 0, .int .i64 0, .int .i64 0, .bool false, .int .i64 0, .int .i64 0, .int .i64 0, .slice none 0 0, .int .i64 0, .slice none 0 0, .int .i64 0, .bool false, .slice none 0 0, .slice none 0 0, .slice none 0 0, .slice none 0 0] 73)).setRow w6.heap.size (psA z4)) := below_setRow ((Below.refl _ _).alloc (Nat.le_refl _) _) (Nat.le_refl _) _
    have HZB : Hid (((w6.alloc (.cells #[.slice none 0 0, .int .u32 0, .slice none 0 0, .bool false, .int .u32 0, .int .u32 0, .int .u32 0, .int .u32 0, .bool false, .bool false, .int .u32 0, .int .i64 0, .int .i64 0, .int .i64 0, .bool false, .int .i64 0, .int .i64 0, .int .i64 0, .slice none 0 0, .int .i64 0, .slice none 0 0, .int .i64 0, .bool false, .slice none 0 0, .slice none 0 0, .slice none 0 0, .slice none 0 0] 73)).setRow w6.heap.size (psA z4)).heap[w6.heap.size]? = some (.cells (psA z4) 73 (0, 0))) := setRow_heap _ _ _ _ _ _ HNR.out
    have hb2 := hb.trans (hbV.mono hb.size)
    have HB6 : Hid (Below w.heap.size w ((w6.alloc (.cells #[.slice none 0 0, .int .u32 0, .slice none 0 0, .bool false, .int .u32 0, .int .u32 0, .int .u32 0, .int .u32 0, .bool false, .bool false, .int .u32 0, .int .i64 0, .int .i64 0, .int .i64 0, .bool false, .int .i64 0, .int .i64 0, .int .i64 0, .slice none 0 0, .int .i64 0, .slice none 0 0, .int .i64 0, .bool false, .slice none 0 0, .slice none 0 0, .slice none 0 0, .slice none 0 0] 73)).setRow w6.heap.size (psA z4))) := HB5.out.trans (hb2.mono HB5.out.size)
    have HX6 : Hid (((w6.alloc (.cells #[.slice none 0 0, .int .u32 0, .slice none 0 0, .bool false, .int .u32 0, .int .u32 0, .int .u32 0, .int .u32 0, .bool false, .bool false, .int .u32 0, .int .i64 0, .int .i64 0, .int .i64 0, .bool false, .int .i64 0, .int .i64 0, .int .i64 0, .slice none 0 0, .int .i64 0, .slice none 0 0, .int .i64 0, .bool false, .slice none 0 0, .slice none 0 0, .slice none 0 0, .slice none 0 0] 73)).setRow w6.heap.size (psA z4)).heap[w.heap.size]? = some (.cells (tbA t a) 31 (0, 0))) := row_below HX5.out hb2
    have HK6 : Hid (PBx ((w6.alloc (.cells #[.slice none 0 0, .int .u32 0, .slice none 0 0, .bool false, .int .u32 0, .int .u32 0, .int .u32 0, .int .u32 0, .bool false, .bool false, .int .u32 0, .int .i64 0, .int .i64 0, .int .i64 0, .bool false, .int .i64 0, .int .i64 0, .int .i64 0, .slice none 0 0, .int .i64 0, .slice none 0 0, .int .i64 0, .bool false, .slice none 0 0, .slice none 0 0, .slice none 0 0, .slice none 0 0] 73)).setRow w6.heap.size (psA z4)) (w.heap.size + 1) 50 y) := HK5.out.below hb2
    have HY6 : Hid (((w6.alloc (.cells #[.slice none 0 0, .int .u32 0, .slice none 0 0, .bool false, .int .u32 0, .int .u32 0, .int .u32 0, .int .u32 0, .bool false, .bool false, .int .u32 0, .int .i64 0, .int .i64 0, .int .i64 0, .bool false, .int .i64 0, .int .i64 0, .int .i64 0, .slice none 0 0, .int .i64 0, .slice none 0 0, .int .i64 0, .bool false, .slice none 0 0, .slice none 0 0, .slice none 0 0, .slice none 0 0] 73)).setRow w6.heap.size (psA z4)).heap[N]? = some (.cells (tbA t a4) 60 (0, 0))) := row_below HXB.out hb2
    have HC6 : Hid (Cpy ((w6.alloc (.cells #[.slice none 0 0, .int .u32 0, .slice none 0 0, .bool false, .int .u32 0, .int .u32 0, .int .u32 0, .int .u32 0, .bool false, .bool false, .int .u32 0, .int .i64 0, .int .i64 0, .int .i64 0, .bool false, .int .i64 0, .int .i64 0, .int .i64 0, .slice none 0 0, .int .i64 0, .slice none 0 0, .int .i64 0, .bool false, .slice none 0 0, .slice none 0 0, .slice none 0 0, .slice none 0 0] 73)).setRow w6.heap.size (psA z4)) t a a4) := HC5.out.below hb2
    have HR6 : Hid (PCy ((w6.alloc (.cells #[.slice none 0 0, .int .u32 0, .slice none 0 0, .bool false, .int .u32 0, .int .u32 0, .int .u32 0, .int .u32 0, .bool false, .bool false, .int .u32 0, .int .i64 0, .int .i64 0, .int .i64 0, .bool false, .int .i64 0, .int .i64 0, .int .i64 0, .slice none 0 0, .int .i64 0, .slice none 0 0, .int .i64 0, .bool false, .slice none 0 0, .slice none 0 0, .slice none 0 0, .slice none 0 0] 73)).setRow w6.heap.size (psA z4)) y z4 d) := hc5.below hbV
    clear hb hb2 hbV hc5 HB5 HX5 HK5 HXB HC5
    go_wp2_with (first | (refine wpList_store_row rfl 73 (.tmp 10) (.tmp 31) rfl w6.heap.size (psA z4) rfl rfl 73 #[.slice none 0 0, .int .u32 0, .slice none 0 0, .bool false, .int .u32 0, .int .u32 0, .int .u32 0, .int .u32 0, .bool false, .bool false, .int .u32 0, .int .i64 0, .int .i64 0, .int .i64 0, .bool false, .int .i64 0, .int .i64 0, .int .i64 0, .slice none 0 0, .int .i64 0, .slice none 0 0, .int .i64 0, .bool false, .slice none 0 0, .slice none 0 0, .slice none 0 0, .slice none 0 0] HNR.out (by kernel_rfl) rfl (by simp [psA, Value.oneCell']) ?_) | (refine wpList_load_row rfl 60 (.tmp 9) rfl N rfl 60 (tbA t a4) (0, 0) _ HY6.out Tryz.underlying60 rfl (by kernel_rfl) ?_) | (refine wpList_load_row rfl 73 (.tmp 10) rfl w6.heap.size rfl 73 (psA z4) (0, 0) _ HZB.out Tryz.underlying73 rfl (by kernel_rfl) ?_) | fail)
    clear HNR
    revert HZB HB6 HX6 HK6 HY6 HC6 HR6
    generalize ((w6.alloc (.cells #[.slice none 0 0, .int .u32 0, .slice none 0 0, .bool false, .int .u32 0, .int .u32 0, .int .u32 0, .int .u32 0, .bool false, .bool false, .int .u32 0, .int .i64 0, .int .i64 0, .int .i64 0, .bool false, .int .i64 0, .int .i64 0, .int .i64 0, .slice none 0 0, .int .i64 0, .slice none 0 0, .int .i64 0, .bool false, .slice none 0 0, .slice none 0 0, .slice none 0 0, .slice none 0 0] 73)).setRow w6.heap.size (psA z4)) = V6
    intro HZB HB6 HX6 HK6 HY6 HC6 HR6
    obtain ⟨N6, hN⟩ : ∃ N, w6.heap.size = N := ⟨_, rfl⟩
    rw [hN] at HZB
    rw [hN]
    clear hN
    refine Calls.mono (HIM.out _ a4 z4 HB6.out HC6.out HR6.out) ?_
    rintro e w7 ⟨rfl, hb⟩
    have HB7 : Hid (Below w.heap.size w w7) := HB6.out.trans (hb.mono HB6.out.size)
    have HX7 : Hid (∀ X, Below w7.heap.size w7 X → X.heap[w.heap.size]? = some (.cells (tbA t a) 31 (0, 0))) := fun X hX => row_below (row_below HX6.out hb) hX
    have HK7 : Hid (PBx w7 (w.heap.size + 1) 50 y) := HK6.out.below hb
    have HY7 : Hid (∀ X, Below w7.heap.size w7 X → X.heap[N]? = some (.cells (tbA t a4) 60 (0, 0))) := fun X hX => row_below (row_below HY6.out hb) hX
    have HZ7 : Hid (w7.heap[N6]? = some (.cells (psA z4) 73 (0, 0))) := row_below HZB.out hb
    have HC7 : Hid (∀ X, Below w7.heap.size w7 X → Cpy X t a a4) := fun X hX => (HC6.out.below hb).below hX
    have HR7 : Hid (PCy w7 y z4 d) := HR6.out.below hb
    clear hb HB6 HX6 HK6 HY6 HZB HC6 HR6 HIM
    have hqq : (q != q) = false := by simp
    go_wp2
    clear hqq
    refine wp_region_inv (by kernel_rfl) (by kernel_rfl) (fun A ℓ a' w' => ∃ (x39 x40 x41 x42 x43 : Value), a' = (((((A.put (some 39) x39).put (some 40) x40).put (some 41) x41).put (some 42) x42).put (some 43) x43) ∧ TI t a a4 w7 w' (ℓ 0) (ℓ 1) (ℓ 2) (ℓ 3) (ℓ 4) x39 x40 x41 x42 x43) ?_ ?_ ?_ ?_
    · exact ⟨undef, undef, undef, undef, undef, (by simp only [Act.put, List.setIfInBounds_toArray, List.set_cons_zero, List.set_cons_succ]), ⟨(Below.refl _ _).drew, (fun g => by cases g), (fun g => by cases g), (fun g => by cases g), (fun g => by cases g), (fun g => by cases g)⟩⟩
    · intro ℓ a' w8 hI hall
      obtain ⟨x39, x40, x41, x42, x43, rfl, hr⟩ := hI
      have hall' : ∀ i, i < 5 → ℓ i = true := hall
      obtain rfl := hr.f4 (hall' 4 (by omega))
      have hb := hr.gb
      clear hr hall hall'
      simp only [Act.put, List.setIfInBounds_toArray, List.set_cons_zero, List.set_cons_succ]
      have HB8 : Hid (Below w.heap.size w w8) := HB7.out.trans (hb.mono HB7.out.size)
      have HK8 : Hid (PBx w8 (w.heap.size + 1) 50 y) := HK7.out.below hb
      have HZ8 : Hid (w8.heap[N6]? = some (.cells (psA z4) 73 (0, 0))) := row_below HZ7.out hb
      have HR8 : Hid (PCy w8 y z4 d) := HR7.out.below hb
      clear hb HB7 HK7 HZ7 HR7 HX7 HY7 HC7
      go_wp2
      refine wp_region_inv (by kernel_rfl) (by kernel_rfl) (fun A ℓ a' w' => ∃ (x44 x45 x46 x47 x48 : Value), a' = (((((A.put (some 44) x44).put (some 45) x45).put (some 46) x46).put (some 47) x47).put (some 48) x48) ∧ PI y z4 d w8 w' (ℓ 0) (ℓ 1) (ℓ 2) (ℓ 3) (ℓ 4) x44 x45 x46 x47 x48) ?_ ?_ ?_ ?_
      · exact ⟨undef, undef, undef, undef, undef, (by simp only [Act.put, List.setIfInBounds_toArray, List.set_cons_zero, List.set_cons_succ]), ⟨(Below.refl _ _).drew, (fun g => by cases g), (fun g => by cases g), (fun g => by cases g), (fun g => by cases g), (fun g => by cases g)⟩⟩
      · intro ℓ a' w9 hI hall
        obtain ⟨x44, x45, x46, x47, x48, rfl, hr⟩ := hI
        have hall' : ∀ i, i < 5 → ℓ i = true := hall
        obtain rfl := hr.f4 (hall' 4 (by omega))
        have HE : Hid (Below w.heap.size w w9) := HB8.out.trans (hr.gb.mono HB8.out.size)
        clear hr hall hall'
        simp only [Act.put, List.setIfInBounds_toArray, List.set_cons_zero, List.set_cons_succ]
        go_wp2
        go_ret
        exact ⟨rfl, HE.out⟩
      · intro ℓ a' w' i o hI ho hi hL hdep K hK
        obtain ⟨x44, x45, x46, x47, x48, rfl, hr⟩ := hI
        have hi7 : i < 5 := hi
        have hcs : i = 0 ∨ i = 1 ∨ i = 2 ∨ i = 3 ∨ i = 4 := by omega
        have HKw : Hid (PBx w' (w.heap.size + 1) 50 y) := HK8.out.below hr.gb
        have HZw : Hid (w'.heap[N6]? = some (.cells (psA z4) 73 (0, 0))) := row_below HZ8.out hr.gb
        clear hi hi7
        rcases hcs with rfl | rfl | rfl | rfl | rfl
        · replace ho : some ({ dst := some 44, op := .load 73 (.tmp 10), type := 73, pos := "exact.go:6131", after := #[], guard := none } : Oper) = some o := ho
          obtain rfl := Option.some.inj ho
          clear hdep ho
          rw [if_pos (by rfl)]
          try simp only [Act.put, List.setIfInBounds_toArray, List.set_cons_zero, List.set_cons_succ]
          refine wp_load_row (P := Tryz.prog) 73 (.tmp 10) rfl N6 rfl 73 (psA z4) (0, 0) _ HZw.out Tryz.underlying73 rfl (by kernel_rfl) ?_
          exact hK.out _ _ (fun j => if j = 0 then true else ℓ j) ⟨psV z4, x45, x46, x47, x48, (by simp only [Act.put, List.setIfInBounds_toArray, List.set_cons_zero, List.set_cons_succ]), ⟨hr.gb, (fun _ => rfl), hr.f1, hr.f2, hr.f3, hr.f4⟩⟩ (if_pos rfl) (fun j hj => if_neg hj)
        · replace ho : some ({ dst := some 45, op := .load 50 (.tmp 5), type := 50, pos := "exact.go:6131", after := #[], guard := none } : Oper) = some o := ho
          obtain rfl := Option.some.inj ho
          clear hdep ho
          rw [if_pos (by rfl)]
          try simp only [Act.put, List.setIfInBounds_toArray, List.set_cons_zero, List.set_cons_succ]
          refine wp_load_row (P := Tryz.prog) 50 (.tmp 5) rfl (w.heap.size + 1) rfl 50 (psA y) (0, 0) _ HKw.out Tryz.underlying50 rfl (by kernel_rfl) ?_
          exact hK.out _ _ (fun j => if j = 1 then true else ℓ j) ⟨x44, psV y, x46, x47, x48, (by simp only [Act.put, List.setIfInBounds_toArray, List.set_cons_zero, List.set_cons_succ]), ⟨hr.gb, hr.f0, (fun _ => rfl), hr.f2, hr.f3, hr.f4⟩⟩ (if_pos rfl) (fun j hj => if_neg hj)
        · obtain rfl := Option.some.inj ho
          have g : ℓ 1 = true := hdep { on := 1, ground := Ground.data } (by simp) rfl
          clear hdep ho
          obtain rfl := hr.f1 g
          rw [if_pos (by rfl)]
          try simp only [Act.put, List.setIfInBounds_toArray, List.set_cons_zero, List.set_cons_succ]
          go_simp
          refine Calls.mono (HTC.out _ (HB8.out.trans (hr.gb.mono HB8.out.size))) ?_
          rintro e w9 ⟨z9, rfl, hb9, hc9⟩
          have hr9 := hr.below hb9
          exact hK.out _ _ (fun j => if j = 2 then true else ℓ j) ⟨x44, psV y, psV z9, x47, x48, (by simp only [Act.put, List.setIfInBounds_toArray, List.set_cons_zero, List.set_cons_succ]), ⟨hr9.gb, hr9.f0, hr9.f1, (fun _ => ⟨z9, rfl, hc9⟩), hr9.f3, hr9.f4⟩⟩ (if_pos rfl) (fun j hj => if_neg hj)
        · obtain rfl := Option.some.inj ho
          have g0 : ℓ 0 = true := hdep { on := 0, ground := Ground.data } (by simp) rfl
          have g2 : ℓ 2 = true := hdep { on := 2, ground := Ground.data } (by simp) rfl
          clear hdep ho
          obtain rfl := hr.f0 g0
          obtain ⟨z9, rfl, hc9⟩ := hr.f2 g2
          rw [if_pos (by rfl)]
          try simp only [Act.put, List.setIfInBounds_toArray, List.set_cons_zero, List.set_cons_succ]
          go_simp
          refine Calls.mono (HEC.out _ z4 z9 (HR8.out.below hr.gb) hc9) ?_
          rintro e w9 ⟨rfl, hb9⟩
          have hr9 := hr.below hb9
          exact hK.out _ _ (fun j => if j = 3 then true else ℓ j) ⟨psV z4, x45, psV z9, .bool true, x48, (by simp only [Act.put, List.setIfInBounds_toArray, List.set_cons_zero, List.set_cons_succ]), ⟨hr9.gb, hr9.f0, hr9.f1, hr9.f2, (fun _ => rfl), hr9.f4⟩⟩ (if_pos rfl) (fun j hj => if_neg hj)
        · obtain rfl := Option.some.inj ho
          have g : ℓ 3 = true := hdep { on := 3, ground := Ground.data } (by simp) rfl
          clear hdep ho
          obtain rfl := hr.f3 g
          rw [if_pos (by rfl)]
          try simp only [Act.put, List.setIfInBounds_toArray, List.set_cons_zero, List.set_cons_succ]
          go_simp
          exact hK.out _ _ (fun j => if j = 4 then true else ℓ j) ⟨x44, x45, x46, .bool true, .bool false, (by simp only [Act.put, List.setIfInBounds_toArray, List.set_cons_zero, List.set_cons_succ]), ⟨hr.gb, hr.f0, hr.f1, hr.f2, hr.f3, (fun _ => rfl)⟩⟩ (if_pos rfl) (fun j hj => if_neg hj)
      · rintro a' w' ℓ ℓ' hℓ hI
        rw [← show ℓ = ℓ' from funext hℓ]
        exact hI
    · intro ℓ a' w' i o hI ho hi hL hdep K hK
      obtain ⟨x39, x40, x41, x42, x43, rfl, hr⟩ := hI
      have hi7 : i < 5 := hi
      have hcs : i = 0 ∨ i = 1 ∨ i = 2 ∨ i = 3 ∨ i = 4 := by omega
      clear hi hi7
      rcases hcs with rfl | rfl | rfl | rfl | rfl
      · replace ho : some ({ dst := some 39, op := .load 60 (.tmp 9), type := 60, pos := "exact.go:6128", after := #[], guard := none } : Oper) = some o := ho
        obtain rfl := Option.some.inj ho
        clear hdep ho
        rw [if_pos (by rfl)]
        try simp only [Act.put, List.setIfInBounds_toArray, List.set_cons_zero, List.set_cons_succ]
        refine wp_load_row (P := Tryz.prog) 60 (.tmp 9) rfl N rfl 60 (tbA t a4) (0, 0) _ (HY7.out _ hr.gb) Tryz.underlying60 rfl (by kernel_rfl) ?_
        exact hK.out _ _ (fun j => if j = 0 then true else ℓ j) ⟨tbV t a4, x40, x41, x42, x43, (by simp only [Act.put, List.setIfInBounds_toArray, List.set_cons_zero, List.set_cons_succ]), ⟨hr.gb, (fun _ => rfl), hr.f1, hr.f2, hr.f3, hr.f4⟩⟩ (if_pos rfl) (fun j hj => if_neg hj)
      · replace ho : some ({ dst := some 40, op := .load 31 (.tmp 3), type := 31, pos := "exact.go:6128", after := #[], guard := none } : Oper) = some o := ho
        obtain rfl := Option.some.inj ho
        clear hdep ho
        rw [if_pos (by rfl)]
        try simp only [Act.put, List.setIfInBounds_toArray, List.set_cons_zero, List.set_cons_succ]
        refine wp_load_row (P := Tryz.prog) 31 (.tmp 3) rfl w.heap.size rfl 31 (tbA t a) (0, 0) _ (HX7.out _ hr.gb) Tryz.underlying31 rfl (by kernel_rfl) ?_
        exact hK.out _ _ (fun j => if j = 1 then true else ℓ j) ⟨x39, tbV t a, x41, x42, x43, (by simp only [Act.put, List.setIfInBounds_toArray, List.set_cons_zero, List.set_cons_succ]), ⟨hr.gb, hr.f0, (fun _ => rfl), hr.f2, hr.f3, hr.f4⟩⟩ (if_pos rfl) (fun j hj => if_neg hj)
      · obtain rfl := Option.some.inj ho
        have g : ℓ 1 = true := hdep { on := 1, ground := Ground.data } (by simp) rfl
        clear hdep ho
        obtain rfl := hr.f1 g
        rw [if_pos (by rfl)]
        try simp only [Act.put, List.setIfInBounds_toArray, List.set_cons_zero, List.set_cons_succ]
        go_simp
        refine Calls.mono (HTT.out _ (HB7.out.trans (hr.gb.mono HB7.out.size))) ?_
        rintro e w9 ⟨a9, rfl, hb9, hc9⟩
        have hr9 := hr.below hb9
        exact hK.out _ _ (fun j => if j = 2 then true else ℓ j) ⟨x39, tbV t a, tbV t a9, x42, x43, (by simp only [Act.put, List.setIfInBounds_toArray, List.set_cons_zero, List.set_cons_succ]), ⟨hr9.gb, hr9.f0, hr9.f1, (fun _ => ⟨a9, rfl, hc9⟩), hr9.f3, hr9.f4⟩⟩ (if_pos rfl) (fun j hj => if_neg hj)
      · obtain rfl := Option.some.inj ho
        have g0 : ℓ 0 = true := hdep { on := 0, ground := Ground.data } (by simp) rfl
        have g2 : ℓ 2 = true := hdep { on := 2, ground := Ground.data } (by simp) rfl
        clear hdep ho
        obtain rfl := hr.f0 g0
        obtain ⟨a9, rfl, hc9⟩ := hr.f2 g2
        have hc4 := HC7.out _ hr.gb
        rw [if_pos (by rfl)]
        try simp only [Act.put, List.setIfInBounds_toArray, List.set_cons_zero, List.set_cons_succ]
        go_simp
        refine Calls.mono (eq_tab t a4 a9 _ hc4.m hc9.m hc4.s (hc9.p1.trans hc4.p1.symm) (hc9.p2.trans hc4.p2.symm) (hc9.p3.trans hc4.p3.symm) (hc9.p4.trans hc4.p4.symm)) ?_
        rintro e w9 ⟨rfl, hb9⟩
        have hr9 := hr.below hb9
        exact hK.out _ _ (fun j => if j = 3 then true else ℓ j) ⟨tbV t a4, x40, tbV t a9, .bool true, x43, (by simp only [Act.put, List.setIfInBounds_toArray, List.set_cons_zero, List.set_cons_succ]), ⟨hr9.gb, hr9.f0, hr9.f1, hr9.f2, (fun _ => rfl), hr9.f4⟩⟩ (if_pos rfl) (fun j hj => if_neg hj)
      · obtain rfl := Option.some.inj ho
        have g : ℓ 3 = true := hdep { on := 3, ground := Ground.data } (by simp) rfl
        clear hdep ho
        obtain rfl := hr.f3 g
        rw [if_pos (by rfl)]
        try simp only [Act.put, List.setIfInBounds_toArray, List.set_cons_zero, List.set_cons_succ]
        go_simp
        exact hK.out _ _ (fun j => if j = 4 then true else ℓ j) ⟨x39, x40, x41, .bool true, .bool false, (by simp only [Act.put, List.setIfInBounds_toArray, List.set_cons_zero, List.set_cons_succ]), ⟨hr.gb, hr.f0, hr.f1, hr.f2, hr.f3, (fun _ => rfl)⟩⟩ (if_pos rfl) (fun j hj => if_neg hj)
    · rintro a' w' ℓ ℓ' hℓ hI
      rw [← show ℓ = ℓ' from funext hℓ]
      exact hI
  · intro ℓ a' w' i o hI ho hi hL hdep K hK
    obtain ⟨x22, x23, x24, x25, x26, x27, x8, rfl, hr⟩ := hI
    have hi7 : i < 7 := hi
    have hcs : i = 0 ∨ i = 1 ∨ i = 2 ∨ i = 3 ∨ i = 4 ∨ i = 5 ∨ i = 6 := by omega
    have HBw : Hid (Below w.heap.size w w') := HB2.out.trans (hr.gb.mono HB2.out.size)
    have HXw : Hid (w'.heap[w.heap.size]? = some (.cells (tbA t a) 31 (0, 0))) := row_below HX2.out hr.gb
    have HKw : Hid (PBx w' (w.heap.size + 1) 50 y) := HK2.out.below hr.gb
    clear hi hi7
    rcases hcs with rfl | rfl | rfl | rfl | rfl | rfl | rfl
    · replace ho : some ({ dst := some 22, op := .load 31 (.tmp 3), type := 31, pos := "exact.go:6121", after := #[], guard := none } : Oper) = some o := ho
      obtain rfl := Option.some.inj ho
      clear hdep ho
      rw [if_pos (by rfl)]
      try simp only [Act.put, List.setIfInBounds_toArray, List.set_cons_zero, List.set_cons_succ]
      refine wp_load_row (P := Tryz.prog) 31 (.tmp 3) rfl w.heap.size rfl 31 (tbA t a) (0, 0) _ HXw.out Tryz.underlying31 rfl (by kernel_rfl) ?_
      exact hK.out _ _ (fun j => if j = 0 then true else ℓ j) ⟨tbV t a, x23, x24, x25, x26, x27, x8, (by simp only [Act.put, List.setIfInBounds_toArray, List.set_cons_zero, List.set_cons_succ]), ⟨hr.gb, (fun _ => rfl), hr.f1, hr.f2, hr.f3, hr.f4, hr.f5, hr.f6⟩⟩ (if_pos rfl) (fun j hj => if_neg hj)
    · obtain rfl := Option.some.inj ho
      have g0 : ℓ 0 = true := hdep { on := 0, ground := Ground.data } (by simp) rfl
      clear hdep ho
      obtain rfl := hr.f0 g0
      rw [if_pos (by rfl)]
      try simp only [Act.put, List.setIfInBounds_toArray, List.set_cons_zero, List.set_cons_succ]
      go_simp
      refine Calls.mono (HTT.out _ HBw.out) ?_
      rintro e w9 ⟨a9, rfl, hb9, hc9⟩
      have hr9 := hr.below hb9
      exact hK.out _ _ (fun j => if j = 1 then true else ℓ j) ⟨tbV t a, tbV t a9, x24, x25, x26, x27, x8, (by simp only [Act.put, List.setIfInBounds_toArray, List.set_cons_zero, List.set_cons_succ]), ⟨hr9.gb, hr9.f0, (fun _ => ⟨a9, rfl, hc9⟩), hr9.f2, hr9.f3, hr9.f4, hr9.f5, hr9.f6⟩⟩ (if_pos rfl) (fun j hj => if_neg hj)
    · obtain rfl := Option.some.inj ho
      clear hdep ho
      rw [if_pos (by rfl)]
      try simp only [Act.put, List.setIfInBounds_toArray, List.set_cons_zero, List.set_cons_succ]
      go_simp
      exact hK.out _ _ (fun j => if j = 2 then true else ℓ j) ⟨x22, x23, .int .i64 p, x25, x26, x27, x8, (by simp only [Act.put, List.setIfInBounds_toArray, List.set_cons_zero, List.set_cons_succ]), ⟨hr.gb, hr.f0, hr.f1, (fun _ => rfl), hr.f3, hr.f4, hr.f5, hr.f6⟩⟩ (if_pos rfl) (fun j hj => if_neg hj)
    · replace ho : some ({ dst := some 25, op := .load 50 (.tmp 5), type := 50, pos := "exact.go:6121", after := #[], guard := none } : Oper) = some o := ho
      obtain rfl := Option.some.inj ho
      clear hdep ho
      rw [if_pos (by rfl)]
      try simp only [Act.put, List.setIfInBounds_toArray, List.set_cons_zero, List.set_cons_succ]
      refine wp_load_row (P := Tryz.prog) 50 (.tmp 5) rfl (w.heap.size + 1) rfl 50 (psA y) (0, 0) _ HKw.out Tryz.underlying50 rfl (by kernel_rfl) ?_
      exact hK.out _ _ (fun j => if j = 3 then true else ℓ j) ⟨x22, x23, x24, psV y, x26, x27, x8, (by simp only [Act.put, List.setIfInBounds_toArray, List.set_cons_zero, List.set_cons_succ]), ⟨hr.gb, hr.f0, hr.f1, hr.f2, (fun _ => rfl), hr.f4, hr.f5, hr.f6⟩⟩ (if_pos rfl) (fun j hj => if_neg hj)
    · obtain rfl := Option.some.inj ho
      have g3 : ℓ 3 = true := hdep { on := 3, ground := Ground.data } (by simp) rfl
      clear hdep ho
      obtain rfl := hr.f3 g3
      rw [if_pos (by rfl)]
      try simp only [Act.put, List.setIfInBounds_toArray, List.set_cons_zero, List.set_cons_succ]
      go_simp
      refine Calls.mono (HTC.out _ HBw.out) ?_
      rintro e w9 ⟨z9, rfl, hb9, hc9⟩
      have hr9 := hr.below hb9
      exact hK.out _ _ (fun j => if j = 4 then true else ℓ j) ⟨x22, x23, x24, psV y, psV z9, x27, x8, (by simp only [Act.put, List.setIfInBounds_toArray, List.set_cons_zero, List.set_cons_succ]), ⟨hr9.gb, hr9.f0, hr9.f1, hr9.f2, hr9.f3, (fun _ => ⟨z9, rfl, hc9⟩), hr9.f5, hr9.f6⟩⟩ (if_pos rfl) (fun j hj => if_neg hj)
    · obtain rfl := Option.some.inj ho
      have g1 : ℓ 1 = true := hdep { on := 1, ground := Ground.data } (by simp) rfl
      have g2 : ℓ 2 = true := hdep { on := 2, ground := Ground.data } (by simp) rfl
      have g4 : ℓ 4 = true := hdep { on := 4, ground := Ground.data } (by simp) rfl
      clear hdep ho
      obtain ⟨a9, rfl, hc9⟩ := hr.f1 g1
      obtain rfl := hr.f2 g2
      obtain ⟨z9, rfl, hd9⟩ := hr.f4 g4
      rw [if_pos (by rfl)]
      try simp only [Act.put, List.setIfInBounds_toArray, List.set_cons_zero, List.set_cons_succ]
      go_simp
      refine Calls.mono (HSP.out _ a9 z9 hc9 hd9) ?_
      rintro e w9 ⟨rfl, hb9⟩
      have hr9 := hr.below hb9
      exact hK.out _ _ (fun j => if j = 5 then true else ℓ j) ⟨x22, tbV t a9, .int .i64 p, x25, psV z9, .bool q, x8, (by simp only [Act.put, List.setIfInBounds_toArray, List.set_cons_zero, List.set_cons_succ]), ⟨hr9.gb, hr9.f0, hr9.f1, hr9.f2, hr9.f3, hr9.f4, (fun _ => rfl), hr9.f6⟩⟩ (if_pos rfl) (fun j hj => if_neg hj)
    · obtain rfl := Option.some.inj ho
      have g5 : ℓ 5 = true := hdep { on := 5, ground := Ground.data } (by simp) rfl
      clear hdep ho
      obtain rfl := hr.f5 g5
      rw [if_pos (by rfl)]
      try simp only [Act.put, List.setIfInBounds_toArray, List.set_cons_zero, List.set_cons_succ]
      go_simp
      exact hK.out _ _ (fun j => if j = 6 then true else ℓ j) ⟨x22, x23, x24, x25, x26, .bool q, .bool q, (by simp only [Act.put, List.setIfInBounds_toArray, List.set_cons_zero, List.set_cons_succ]), ⟨hr.gb, hr.f0, hr.f1, hr.f2, hr.f3, hr.f4, hr.f5, (fun _ => rfl)⟩⟩ (if_pos rfl) (fun j hj => if_neg hj)
  · rintro a' w' ℓ ℓ' hℓ hI
    rw [← show ℓ = ℓ' from funext hℓ]
    exact hI
end Go.Proofs.YtknipnenipdgiaaGreatDoor
