
/-
  The law on SwitchWork, walked. Conditions: the lists lie in memory; the program's table of extras holds what the program's text lays.
-/
import Derived.Test.YtnifidijheeebaaGreatDoorBas
import Derived.Test.YtnifidijheeebaaGreatDoorSwj
import Derived.Test.YtnifidijheeebaaGreatDoorWsz
import Derived.Test.YtnifidijheeebaaGreatDoorWto
import Derived.Test.YtnifidijheeebaaGreatDoorWeq
namespace Go.Proofs.YtnifidijheeebaaGreatDoor
open Go.ChangeShapes Go.WideShapes Go.ChangeAt Go.RowKit Go.Deep Go.Joins
set_option linter.unusedVariables false

set_option maxRecDepth 20000 in
set_option maxHeartbeats 4000000 in
theorem sz_tab2 (t : Tb) (a : Ad) (w : World) (hm : TM 0 w t a) (hw : TW t a) :
    Calls Tryz.prog 7 #[tbV t a, .int .i64 1048576] w fun e w' => (∃ r : Int, e = .returned (.int .i64 r) ∧ (r = -1 ∨ (0 ≤ r ∧ r ≤ 1048576 ∧ TS a))) ∧ Below w.heap.size w w' := by
  have HM : Hid (TM 0 w t a) := hm
  have HW : Hid (TW t a) := hw
  clear hm hw
  have HB0 : Hid (Below w.heap.size w (w.alloc (.cells (tbA t a) 31))) := (Below.refl _ _).alloc (Nat.le_refl _) _
  have KB0 : Hid (Bk (w.alloc (.cells (tbA t a) 31)) w.heap.size (tbA t a)) := Bk.new w _ _ _ rfl
  have h8 := HW.out.db
  have h9 := HW.out.cb
  have h10 := HW.out.sb
  have HZ : Hid (∀ X, Below w.heap.size w X → Calls Tryz.prog 37 #[.slice a.pa a.pn a.pc, .int .i64 ((1048576 : Nat) : Int)] X fun e w' => (∃ r : Int, e = .returned (.int .i64 r) ∧ (r = -1 ∨ ∃ d : Nat, r = (d : Int) ∧ d ≤ 1048576 ∧ a.pn ≤ 1048576 ∧ ∀ i, i < a.pn → (a.Y i).wn ≤ 1048576 ∧ (a.Y i).nm.size ≤ 1048576)) ∧ Below X.heap.size X w') := fun X hX => sz_parts a.pa a.pc a.pn 1048576 a.Y X (HM.out.p.below hX).1.seg HW.out.pb (Nat.le_refl _) HW.out.wb
  go_enter Tryz.func7, Tryz.ntmps7
  go_wp2_with fail
  refine (HZ.out _ HB0.out).mono ?_
  rintro e1 w1 ⟨⟨r, rfl, hr⟩, hb1⟩
  have HB1 : Hid (Below w.heap.size w w1) := HB0.out.trans (hb1.mono HB0.out.size)
  have KB1 : Hid (Bk w1 w.heap.size (tbA t a)) := KB0.out.below hb1
  clear hb1 HB0 KB0 HZ
  rcases hr with rfl | ⟨D, rfl, hD, hp, hww⟩
  · go_wp2
    go_ret
    exact ⟨⟨_, rfl, .inl rfl⟩, HB1.out⟩
  have HP : Hid (a.pn ≤ 1048576 ∧ ∀ i, i < a.pn → (a.Y i).wn ≤ 1048576 ∧ (a.Y i).nm.size ≤ 1048576) := ⟨hp, hww⟩
  clear hp hww
  have hd0 : ¬ ((D : Int) < 0) := by omega
  have k16 : w1.cell? ⟨w.heap.size, 16, none⟩ = some (.slice a.da a.dn a.dc) := KB1.out.cell 16 _ rfl
  have k17 : w1.cell? ⟨w.heap.size, 17, none⟩ = some (.slice a.ca a.cn a.cc) := KB1.out.cell 17 _ rfl
  have k18 : w1.cell? ⟨w.heap.size, 18, none⟩ = some (.slice a.sa a.sn a.sc) := KB1.out.cell 18 _ rfl
  go_wp2_with fail
  refine (in_sz a.da a.dc a.dn D _ h8 hD).mono ?_
  rintro e2 w2 ⟨⟨r, rfl, hr⟩, rfl⟩
  rcases hr with rfl | ⟨hr, hd⟩
  · go_wp2
    go_ret
    exact ⟨⟨_, rfl, .inl rfl⟩, HB1.out⟩
  obtain ⟨E, hE⟩ : ∃ E : Nat, D - a.dn = E := ⟨_, rfl⟩
  rw [hE] at hr
  subst hr
  have hE2 : E ≤ 1048576 := by omega
  have he0 : ¬ ((E : Int) < 0) := by omega
  have HD : Hid (a.dn ≤ 1048576) := by show _ ≤ _; omega
  clear hE hd
  go_wp2_with fail
  refine (ch_sz a.ca a.cc a.cn E _ h9 hE2).mono ?_
  rintro e2 w2 ⟨⟨r, rfl, hr⟩, rfl⟩
  rcases hr with rfl | ⟨hr, hd⟩
  · go_wp2
    go_ret
    exact ⟨⟨_, rfl, .inl rfl⟩, HB1.out⟩
  obtain ⟨G, hG⟩ : ∃ G : Nat, E - a.cn = G := ⟨_, rfl⟩
  rw [hG] at hr
  subst hr
  have hG2 : G ≤ 1048576 := by omega
  have hg0 : ¬ ((G : Int) < 0) := by omega
  have HC : Hid (a.cn ≤ 1048576) := by show _ ≤ _; omega
  clear hG hd
  go_wp2_with fail
  refine (sl_sz a.sa a.sc a.sn G _ h10 hG2).mono ?_
  rintro e2 w2 ⟨⟨r, rfl, hr⟩, rfl⟩
  rcases hr with rfl | ⟨hr, hd⟩
  · go_wp2
    go_ret
    exact ⟨⟨_, rfl, .inl rfl⟩, HB1.out⟩
  obtain ⟨J, hJ⟩ : ∃ J : Nat, G - a.sn = J := ⟨_, rfl⟩
  rw [hJ] at hr
  subst hr
  have hj0 : ¬ ((J : Int) < 0) := by omega
  have HS : Hid (a.sn ≤ 1048576) := by show _ ≤ _; omega
  have hJ2 : J ≤ 1048576 := by omega
  clear hJ hd
  go_wp2
  go_ret
  exact ⟨⟨_, rfl, .inr ⟨by omega, by omega, HP.out.1, HD.out, HC.out, HS.out, HP.out.2⟩⟩, HB1.out⟩
set_option maxHeartbeats 1000000 in
theorem sz_cache2 (L : Nat) (hL : L ≤ 1048576) (s y l : Int) (a : Option Addr) (cap n : Nat) (D : Nat → List Wy) (w : World) (hs : RSeg w a n D) (hn : n ≤ 9223372036854775807) (hD : ∀ i, i < n → (D i).length ≤ 9223372036854775807) :
    Calls Tryz.prog 8 #[cch s y l (.slice a n cap), .int .i64 (L : Int)] w fun e w' => (∃ r : Int, e = .returned (.int .i64 r) ∧ (r < 0 ∨ (0 ≤ r ∧ n ≤ 1048576 ∧ tot D n ≤ 1048576))) ∧ Below w.heap.size w w' := by
  have HS : Hid _ := And.intro hs hD
  clear hs hD
  have hbw := (Below.refl _ w).alloc (Nat.le_refl _) (.cells #[.int .i64 s, .int .i64 y, .int .i64 l, .slice a n cap] 34)
  have HC : Hid _ := sz_rows a cap n L D _ (RSeg.below HS.out.1 hbw) hn HS.out.2 hL
  have HB : Hid _ := hbw
  clear hbw
  go_enter Tryz.func8, Tryz.ntmps8
  go_wp2_with fail
  refine Calls.mono HC.out ?_
  rintro u w2 ⟨⟨r, rfl, hr⟩, rfl⟩
  rcases hr with hr | ⟨hr, h1, h2⟩
  · go_wp2
    go_ret
    exact ⟨⟨_, rfl, .inl (by omega)⟩, HB.out⟩
  · have hr0 : ¬ (r < 0) := by omega
    go_wp2
    go_ret
    exact ⟨⟨_, rfl, .inr ⟨hr, by omega, by omega⟩⟩, HB.out⟩
theorem eq_work (f s c r : Int) (w : World) : Calls Tryz.prog 13 #[wkv f s c r, wkv f s c r] w fun e w' => e = .returned (.bool true) ∧ Below w.heap.size w w' := by
  have hb : Hid (Below w.heap.size w ((w.alloc (.cells (wkr f s c r) 38)).alloc (.cells (wkr f s c r) 38))) := ((Below.refl _ w).alloc (Nat.le_refl _) _).alloc (by simp) _
  have h1 : (f != f) = false := by simp
  have h2 : (s != s) = false := by simp
  have h3 : (c != c) = false := by simp
  have h4 : (r != r) = false := by simp
  go_enter Tryz.func13, Tryz.ntmps13
  go_wp2
  go_ret
  exact ⟨rfl, hb.out⟩
/-- What stands while the specification is asked. -/
structure SI (t : Tb) (a : Ad) (s y l : Int) (ra : Option Addr) (cap n : Nat) (D : Nat → List Wy) (m : Int) (W0 w : World) (b0 b1 b2 b3 b4 b5 b6 b7 : Bool) (x22 x23 x24 x25 x26 x27 x8 : Value) : Prop where
  gb : Below W0.heap.size W0 w
  f0 : b0 = true → x22 = tbV t a
  f1 : b1 = true → b7 = false → ∃ a2, x23 = tbV t a2 ∧ Cpy w t a a2
  f2 : b2 = true → x24 = cch s y l (.slice ra n cap)
  f3 : b3 = true → b7 = false → ∃ a3, x25 = cch s y l (.slice a3 n n) ∧ RSeg w a3 n D
  f4 : b4 = true → x26 = .int .i64 m
  f5 : b5 = true → ∃ f sc c r, x27 = wkv f sc c r ∧ SwR t s y l n D m f sc c r
  f6 : b6 = true → ∃ B, x8 = .pointer (some ⟨B, 0, none⟩) ∧ W0.heap.size ≤ B ∧ ∃ f sc c r, Bk w B (wkr f sc c r) ∧ (b7 = true → SwR t s y l n D m f sc c r)
  f7 : b7 = true → b6 = true ∧ b5 = true
theorem SI.below {t : Tb} {a : Ad} {s y l : Int} {ra : Option Addr} {cap n : Nat} {D : Nat → List Wy} {m : Int} {W0 w w' : World} {b0 b1 b2 b3 b4 b5 b6 b7 : Bool} {x22 x23 x24 x25 x26 x27 x8 : Value} (h : SI t a s y l ra cap n D m W0 w b0 b1 b2 b3 b4 b5 b6 b7 x22 x23 x24 x25 x26 x27 x8) (hb : Below w.heap.size w w') : SI t a s y l ra cap n D m W0 w' b0 b1 b2 b3 b4 b5 b6 b7 x22 x23 x24 x25 x26 x27 x8 :=
  ⟨h.gb.trans (hb.mono h.gb.size), h.f0, fun g g' => by obtain ⟨a2, e, c⟩ := h.f1 g g'; exact ⟨a2, e, c.below hb⟩, h.f2, fun g g' => by obtain ⟨a3, e, c⟩ := h.f3 g g'; exact ⟨a3, e, RSeg.below c hb⟩, h.f4, h.f5, fun g => by obtain ⟨B, e, hl, f, sc, c, r, hk, hr⟩ := h.f6 g; exact ⟨B, e, hl, f, sc, c, r, hk.below hb, hr⟩, h.f7⟩
/-- What stands while the copies of the cache are held against each other. -/
structure KI (s y l : Int) (ra : Option Addr) (cap n : Nat) (D : Nat → List Wy) (r4 : Option Addr) (W0 w : World) (b0 b1 b2 b3 b4 : Bool) (x22 x23 x24 x25 x26 : Value) : Prop where
  gb : Below W0.heap.size W0 w
  f0 : b0 = true → x22 = cch s y l (.slice r4 n n)
  f1 : b1 = true → x23 = cch s y l (.slice ra n cap)
  f2 : b2 = true → ∃ a5, x24 = cch s y l (.slice a5 n n) ∧ RSeg w a5 n D
  f3 : b3 = true → x25 = .bool true
  f4 : b4 = true → x26 = .bool false
theorem KI.below {s y l : Int} {ra : Option Addr} {cap n : Nat} {D : Nat → List Wy} {r4 : Option Addr} {W0 w w' : World} {b0 b1 b2 b3 b4 : Bool} {x22 x23 x24 x25 x26 : Value} (h : KI s y l ra cap n D r4 W0 w b0 b1 b2 b3 b4 x22 x23 x24 x25 x26) (hb : Below w.heap.size w w') : KI s y l ra cap n D r4 W0 w' b0 b1 b2 b3 b4 x22 x23 x24 x25 x26 :=
  ⟨h.gb.trans (hb.mono h.gb.size), h.f0, h.f1, fun g => by obtain ⟨a5, e, c⟩ := h.f2 g; exact ⟨a5, e, RSeg.below c hb⟩, h.f3, h.f4⟩
theorem rows_seg {w : World} {lo hi : Nat} {a : Option Addr} {n : Nat} {D : Nat → List Wy} (h : ORows w lo hi a n D) : RSeg w a n D := ORows.seg h
set_option maxRecDepth 40000 in
set_option maxHeartbeats 16000000 in
theorem walk_switchwork (t : Tb) (a : Ad) (s y l : Int) (ra : Option Addr) (cap n : Nat) (D : Nat → List Wy) (m : Int) (w : World) (hm : TM 0 w t a) (hw : TW t a) (he : TabE w) (hrs : RSeg w ra n D) (hn : n ≤ 9223372036854775807) (hD : ∀ i, i < n → (D i).length ≤ 9223372036854775807) : Calls Tryz.prog 3 #[tbV t a, cch s y l (.slice ra n cap), .int .i64 m] w fun e w' => e = .returned (.bool true) ∧ Below w.heap.size w w' := by
  have HU : Hid (∀ X, Below w.heap.size w X → TM 0 X t a ∧ TabE X) := fun X hX => ⟨hm.below hX, he.below hX⟩
  have HW : Hid (TW t a) := hw
  have HRS : Hid (∀ X, Below w.heap.size w X → RSeg X ra n D) := fun X hX => RSeg.below hrs hX
  have HDD : Hid (∀ i, i < n → (D i).length ≤ 9223372036854775807) := hD
  have HB0 : Hid (Below w.heap.size w ((w.alloc (.cells (tbA t a) 31)).alloc (.cells #[.int .i64 s, .int .i64 y, .int .i64 l, .slice ra n cap] 34))) := ((Below.refl _ _).alloc (Nat.le_refl _) _).alloc (by simp) _
  have HX0 : Hid (((w.alloc (.cells (tbA t a) 31)).alloc (.cells #[.int .i64 s, .int .i64 y, .int .i64 l, .slice ra n cap] 34)).heap[w.heap.size]? = some (.cells (tbA t a) 31 (0, 0))) := row_below (new_row w _ _ _ rfl) ((Below.refl _ _).alloc (Nat.le_refl _) _)
  have KC0 : Hid (Bk ((w.alloc (.cells (tbA t a) 31)).alloc (.cells #[.int .i64 s, .int .i64 y, .int .i64 l, .slice ra n cap] 34)) (w.heap.size + 1) #[.int .i64 s, .int .i64 y, .int .i64 l, .slice ra n cap]) := Bk.new _ _ _ (w.heap.size + 1) (by simp)
  clear hm hw he hrs hD
  go_enter Tryz.func3, Tryz.ntmps3
  go_wp2_with (first | (refine wpList_load_row rfl 31 (.tmp 3) rfl w.heap.size rfl 31 (tbA t a) (0, 0) _ HX0.out Tryz.underlying31 rfl (by kernel_rfl) ?_) | fail)
  refine Calls.mono (sz_tab2 t a _ (HU.out _ HB0.out).1 HW.out) ?_
  rintro e w1 ⟨⟨r, rfl, hr⟩, hb⟩
  have HB1 : Hid (Below w.heap.size w w1) := HB0.out.trans (hb.mono HB0.out.size)
  have HX1 : Hid (w1.heap[w.heap.size]? = some (.cells (tbA t a) 31 (0, 0))) := row_below HX0.out hb
  have KC1 : Hid (Bk w1 (w.heap.size + 1) #[.int .i64 s, .int .i64 y, .int .i64 l, .slice ra n cap]) := KC0.out.below hb
  clear hb HB0 HX0 KC0
  rcases hr with rfl | ⟨h0, h1, hs⟩
  · go_wp2
    go_ret
    exact ⟨rfl, HB1.out⟩
  have HS : Hid (TS a) := hs
  clear hs
  obtain ⟨L, rfl⟩ : ∃ L : Nat, r = (L : Int) := ⟨r.toNat, by omega⟩
  have hL : L ≤ 1048576 := by omega
  have hr0 : ¬ ((L : Int) < 0) := by omega
  have c0 : w1.cell? ⟨w.heap.size + 1, 0, none⟩ = some (.int .i64 s) := KC1.out.cell 0 _ rfl
  have c1 : w1.cell? ⟨w.heap.size + 1, 1, none⟩ = some (.int .i64 y) := KC1.out.cell 1 _ rfl
  have c2 : w1.cell? ⟨w.heap.size + 1, 2, none⟩ = some (.int .i64 l) := KC1.out.cell 2 _ rfl
  have c3 : w1.cell? ⟨w.heap.size + 1, 3, none⟩ = some (.slice ra n cap) := KC1.out.cell 3 _ rfl
  go_wp2_with fail
  refine Calls.mono (sz_cache2 L hL s y l ra cap n D _ (HRS.out _ HB1.out) hn HDD.out) ?_
  rintro e w2 ⟨⟨r, rfl, hr⟩, hb⟩
  have HB2 : Hid (Below w.heap.size w w2) := HB1.out.trans (hb.mono HB1.out.size)
  have HX2 : Hid (w2.heap[w.heap.size]? = some (.cells (tbA t a) 31 (0, 0))) := row_below HX1.out hb
  have KC2 : Hid (Bk w2 (w.heap.size + 1) #[.int .i64 s, .int .i64 y, .int .i64 l, .slice ra n cap]) := KC1.out.below hb
  clear hb HB1 HX1 KC1 c0 c1 c2 c3 h0 h1 hr0
  rcases hr with hr | ⟨h0, hn2, ht2⟩
  · go_wp2
    go_ret
    exact ⟨rfl, HB2.out⟩
  have hr0 : ¬ (r < 0) := by omega
  have HTC : Hid (∀ X, Below w.heap.size w X → Calls Tryz.prog 11 #[cch s y l (.slice ra n cap)] X fun e w' => ∃ a', e = .returned (cch s y l (.slice a' n n)) ∧ Below X.heap.size X w' ∧ RSeg w' a' n D) := fun X hX => (to_cache s y l ra cap n D X (HRS.out X hX) hn2 ht2).mono fun e w' ⟨a', h1, h2, h3⟩ => ⟨a', h1, h2, ORows.seg h3⟩
  have HTT : Hid (∀ X, Below w.heap.size w X → Calls Tryz.prog 10 #[tbV t a] X fun e w' => ∃ a', e = .returned (tbV t a') ∧ Below X.heap.size X w' ∧ Cpy w' t a a') := fun X hX => copy_tab t a X (HU.out X hX).1 HW.out HS.out
  have HSP : Hid (∀ (X : World) a2 a3, Cpy X t a a2 → RSeg X a3 n D → Calls Tryz.prog 9 #[tbV t a2, cch s y l (.slice a3 n n), .int .i64 m] X fun e w' => (∃ f sc c r, e = .returned (wkv f sc c r) ∧ SwR t s y l n D m f sc c r) ∧ Below X.heap.size X w') := fun X a2 a3 h1 h2 => spec_switch t a2 s y l a3 n n D m X h1.m h1.w h1.s h2 hn2 ht2
  have HIM : Hid (∀ (X : World) a2 a3, Below w.heap.size w X → Cpy X t a a2 → RSeg X a3 n D → Calls Tryz.prog 12 #[tbV t a2, cch s y l (.slice a3 n n), .int .i64 m] X fun e w' => (∃ f sc c r, e = .returned (wkv f sc c r) ∧ SwR t s y l n D m f sc c r) ∧ Below X.heap.size X w') := fun X a2 a3 h0 h1 h2 => impl_switch t a2 s y l a3 n n D m X h1.m h1.w h1.s (HU.out X h0).2 h1.c h2 hn2 ht2
  have HEC : Hid (∀ (X : World) a2 a3, RSeg X a2 n D → RSeg X a3 n D → Calls Tryz.prog 15 #[cch s y l (.slice a2 n n), cch s y l (.slice a3 n n)] X fun e w' => e = .returned (.bool true) ∧ Below X.heap.size X w') := fun X a2 a3 h1 h2 => eq_cache s y l a2 a3 n n n D X h1 h2 hn2 ht2
  clear hn hn2 ht2 HDD HRS h0 hL
  go_wp2
  refine wp_region_inv (by kernel_rfl) (by kernel_rfl) (fun A ℓ a' w' => ∃ (x22 x23 x24 x25 x26 x27 x8 : Value), a' = (((((((A.put (some 22) x22).put (some 23) x23).put (some 24) x24).put (some 25) x25).put (some 26) x26).put (some 27) x27).put (some 8) x8) ∧ SI t a s y l ra cap n D m w2 w' (ℓ 0) (ℓ 1) (ℓ 2) (ℓ 3) (ℓ 4) (ℓ 5) (ℓ 6) (ℓ 7) x22 x23 x24 x25 x26 x27 x8) ?_ ?_ ?_ ?_
  · exact ⟨undef, undef, undef, undef, undef, undef, undef, (by simp only [Act.put, List.setIfInBounds_toArray, List.set_cons_zero, List.set_cons_succ]), ⟨(Below.refl _ _).drew, (fun g => by cases g), (fun g => by cases g), (fun g => by cases g), (fun g => by cases g), (fun g => by cases g), (fun g => by cases g), (fun g => by cases g), (fun g => by cases g)⟩⟩
  · intro ℓ a' w3 hI hall
    obtain ⟨x22, x23, x24, x25, x26, x27, x8, rfl, hr⟩ := hI
    have hall' : ∀ i, i < 8 → ℓ i = true := hall
    obtain rfl := hr.f0 (hall' 0 (by omega))
    obtain rfl := hr.f2 (hall' 2 (by omega))
    obtain rfl := hr.f4 (hall' 4 (by omega))
    obtain ⟨B1, rfl, hB1, f1, s1, c1, r1, hk1, hrel1⟩ := hr.f6 (hall' 6 (by omega))
    have HR1 : Hid (SwR t s y l n D m f1 s1 c1 r1) := hrel1 (hall' 7 (by omega))
    have hb := hr.gb
    clear hr hall hall' hrel1
    have HB3 : Hid (Below w.heap.size w w3) := HB2.out.trans (hb.mono HB2.out.size)
    have HX3 : Hid (w3.heap[w.heap.size]? = some (.cells (tbA t a) 31 (0, 0))) := row_below HX2.out hb
    have KC3 : Hid (Bk w3 (w.heap.size + 1) #[.int .i64 s, .int .i64 y, .int .i64 l, .slice ra n cap]) := KC2.out.below hb
    have KB3 : Hid (Bk w3 B1 (wkr f1 s1 c1 r1)) := hk1
    clear hb hk1 HB2 HX2 KC2 hB1
    simp only [Act.put, List.setIfInBounds_toArray, List.set_cons_zero, List.set_cons_succ]
    go_wp2_with (first | (refine wpList_load_row rfl 31 (.tmp 3) rfl w.heap.size rfl 31 (tbA t a) (0, 0) _ HX3.out Tryz.underlying31 rfl (by kernel_rfl) ?_) | fail)
    refine Calls.mono (HTT.out _ HB3.out) ?_
    rintro e w4 ⟨a4, rfl, hb, hc4⟩
    have HNR : Hid ((w4.alloc (.cells #[.int .i64 0, .int .i64 0, .int .i64 0, .int .i64 0, .int .i64 0, .int .i64 0, .int .i64 0, .int .i64 0, .int .i64 0, .int .i64 0, .int .i64 0, .int .i64 0, .int .i64 0, .int .i64 0, .int .i64 0, .slice none 0 0, .slice none 0 0, .slice none 0 0, .slice none 0 0] 46)).heap[w4.heap.size]? = some (.cells #[.int .i64 0, .int .i64 0, .int .i64 0, .int .i64 0, .int .i64 0, .int .i64 0, .int .i64 0, .int .i64 0, .int .i64 0, .int .i64 0, .int .i64 0, .int .i64 0, .int .i64 0, .int .i64 0, .int .i64 0, .slice none 0 0, .slice none 0 0, .slice none 0 0, .slice none 0 0] 46 (0, 0))) := new_row w4 _ _ _ rfl
    have hbV : Below w4.heap.size w4 ((w4.alloc (.cells #[.int .i64 0, .int .i64 0, .int .i64 0, .int .i64 0, .int .i64 0, .int .i64 0, .int .i64 0, .int .i64 0, .int .i64 0, .int .i64 0, .int .i64 0, .int .i64 0, .int .i64 0, .int .i64 0, .int .i64 0, .slice none 0 0, .slice none 0 0, .slice none 0 0, .slice none 0 0] 46)).setRow w4.heap.size (tbA t a4)) := below_setRow ((Below.refl _ _).alloc (Nat.le_refl _) _) (Nat.le_refl _) _
    have HXB : Hid (((w4.alloc (.cells #[.int .i64 0, .int .i64 0, .int .i64 0, .int .i64 0, .int .i64 0, .int .i64 0, .int .i64 0, .int .i64 0, .int .i64 0, .int .i64 0, .int .i64 0, .int .i64 0, .int .i64 0, .int .i64 0, .int .i64 0, .slice none 0 0, .slice none 0 0, .slice none 0 0, .slice none 0 0] 46)).setRow w4.heap.size (tbA t a4)).heap[w4.heap.size]? = some (.cells (tbA t a4) 46 (0, 0))) := setRow_heap _ _ _ _ _ _ HNR.out
    have hb2 := hb.trans (hbV.mono hb.size)
    have HB4 : Hid (Below w.heap.size w ((w4.alloc (.cells #[.int .i64 0, .int .i64 0, .int .i64 0, .int .i64 0, .int .i64 0, .int .i64 0, .int .i64 0, .int .i64 0, .int .i64 0, .int .i64 0, .int .i64 0, .int .i64 0, .int .i64 0, .int .i64 0, .int .i64 0, .slice none 0 0, .slice none 0 0, .slice none 0 0, .slice none 0 0] 46)).setRow w4.heap.size (tbA t a4))) := HB3.out.trans (hb2.mono HB3.out.size)
    have HX4 : Hid (((w4.alloc (.cells #[.int .i64 0, .int .i64 0, .int .i64 0, .int .i64 0, .int .i64 0, .int .i64 0, .int .i64 0, .int .i64 0, .int .i64 0, .int .i64 0, .int .i64 0, .int .i64 0, .int .i64 0, .int .i64 0, .int .i64 0, .slice none 0 0, .slice none 0 0, .slice none 0 0, .slice none 0 0] 46)).setRow w4.heap.size (tbA t a4)).heap[w.heap.size]? = some (.cells (tbA t a) 31 (0, 0))) := row_below HX3.out hb2
    have KC4 : Hid (Bk ((w4.alloc (.cells #[.int .i64 0, .int .i64 0, .int .i64 0, .int .i64 0, .int .i64 0, .int .i64 0, .int .i64 0, .int .i64 0, .int .i64 0, .int .i64 0, .int .i64 0, .int .i64 0, .int .i64 0, .int .i64 0, .int .i64 0, .slice none 0 0, .slice none 0 0, .slice none 0 0, .slice none 0 0] 46)).setRow w4.heap.size (tbA t a4)) (w.heap.size + 1) #[.int .i64 s, .int .i64 y, .int .i64 l, .slice ra n cap]) := KC3.out.below hb2
    have KB4 : Hid (Bk ((w4.alloc (.cells #[.int .i64 0, .int .i64 0, .int .i64 0, .int .i64 0, .int .i64 0, .int .i64 0, .int .i64 0, .int .i64 0, .int .i64 0, .int .i64 0, .int .i64 0, .int .i64 0, .int .i64 0, .int .i64 0, .int .i64 0, .slice none 0 0, .slice none 0 0, .slice none 0 0, .slice none 0 0] 46)).setRow w4.heap.size (tbA t a4)) B1 (wkr f1 s1 c1 r1)) := KB3.out.below hb2
    have HC4 : Hid (Cpy ((w4.alloc (.cells #[.int .i64 0, .int .i64 0, .int .i64 0, .int .i64 0, .int .i64 0, .int .i64 0, .int .i64 0, .int .i64 0, .int .i64 0, .int .i64 0, .int .i64 0, .int .i64 0, .int .i64 0, .int .i64 0, .int .i64 0, .slice none 0 0, .slice none 0 0, .slice none 0 0, .slice none 0 0] 46)).setRow w4.heap.size (tbA t a4)) t a a4) := hc4.below hbV
    have c0 := KC4.out.cell 0 _ rfl
    have c1' := KC4.out.cell 1 _ rfl
    have c2 := KC4.out.cell 2 _ rfl
    have c3 := KC4.out.cell 3 _ rfl
    clear hb hb2 hbV hc4 HB3 HX3 KC3 KB3
    go_wp2_with (first | (refine wpList_store_row rfl 46 (.tmp 9) (.tmp 29) rfl w4.heap.size (tbA t a4) rfl rfl 46 #[.int .i64 0, .int .i64 0, .int .i64 0, .int .i64 0, .int .i64 0, .int .i64 0, .int .i64 0, .int .i64 0, .int .i64 0, .int .i64 0, .int .i64 0, .int .i64 0, .int .i64 0, .int .i64 0, .int .i64 0, .slice none 0 0, .slice none 0 0, .slice none 0 0, .slice none 0 0] HNR.out (by kernel_rfl) rfl (by simp [Value.oneCell']) ?_) | fail)
    clear HNR
    revert HXB HB4 HX4 KC4 KB4 HC4 c0 c1' c2 c3
    generalize (w4.alloc (.cells #[.int .i64 0, .int .i64 0, .int .i64 0, .int .i64 0, .int .i64 0, .int .i64 0, .int .i64 0, .int .i64 0, .int .i64 0, .int .i64 0, .int .i64 0, .int .i64 0, .int .i64 0, .int .i64 0, .int .i64 0, .slice none 0 0, .slice none 0 0, .slice none 0 0, .slice none 0 0] 46)).setRow w4.heap.size (tbA t a4) = V4
    intro HXB HB4 HX4 KC4 KB4 HC4 c0 c1' c2 c3
    obtain ⟨N, hN⟩ : ∃ N, w4.heap.size = N := ⟨_, rfl⟩
    rw [hN] at HXB
    rw [hN]
    clear hN
    refine Calls.mono (HTC.out _ HB4.out) ?_
    rintro e w5 ⟨r5, rfl, hb, hc5⟩
    have hal : Below w5.heap.size w5 (w5.alloc (.cells #[.int .i64 s, .int .i64 y, .int .i64 l, .slice r5 n n] 50)) := (Below.refl _ _).alloc (Nat.le_refl _) _
    have hb2 := hb.trans (hal.mono hb.size)
    have HB5 : Hid (Below w.heap.size w (w5.alloc (.cells #[.int .i64 s, .int .i64 y, .int .i64 l, .slice r5 n n] 50))) := HB4.out.trans (hb2.mono HB4.out.size)
    have HX5 : Hid ((w5.alloc (.cells #[.int .i64 s, .int .i64 y, .int .i64 l, .slice r5 n n] 50)).heap[w.heap.size]? = some (.cells (tbA t a) 31 (0, 0))) := row_below HX4.out hb2
    have KC5 : Hid (Bk (w5.alloc (.cells #[.int .i64 s, .int .i64 y, .int .i64 l, .slice r5 n n] 50)) (w.heap.size + 1) #[.int .i64 s, .int .i64 y, .int .i64 l, .slice ra n cap]) := KC4.out.below hb2
    have KB5 : Hid (Bk (w5.alloc (.cells #[.int .i64 s, .int .i64 y, .int .i64 l, .slice r5 n n] 50)) B1 (wkr f1 s1 c1 r1)) := KB4.out.below hb2
    have HY5 : Hid ((w5.alloc (.cells #[.int .i64 s, .int .i64 y, .int .i64 l, .slice r5 n n] 50)).heap[N]? = some (.cells (tbA t a4) 46 (0, 0))) := row_below HXB.out hb2
    have HC5 : Hid (Cpy (w5.alloc (.cells #[.int .i64 s, .int .i64 y, .int .i64 l, .slice r5 n n] 50)) t a a4) := HC4.out.below hb2
    have HR5 : Hid (RSeg (w5.alloc (.cells #[.int .i64 s, .int .i64 y, .int .i64 l, .slice r5 n n] 50)) r5 n D) := RSeg.below hc5 hal
    have KD5 : Hid (Bk (w5.alloc (.cells #[.int .i64 s, .int .i64 y, .int .i64 l, .slice r5 n n] 50)) w5.heap.size #[.int .i64 s, .int .i64 y, .int .i64 l, .slice r5 n n]) := Bk.new _ _ _ _ rfl
    clear hb hb2 hal hc5 HB4 HX4 KC4 KB4 HXB HC4 c0 c1' c2 c3
    go_wp2_with (first | (refine wpList_load_row rfl 46 (.tmp 9) rfl N rfl 46 (tbA t a4) (0, 0) _ HY5.out Tryz.underlying46 rfl (by kernel_rfl) ?_) | fail)
    revert HB5 HX5 KC5 KB5 HY5 HC5 HR5 KD5
    generalize (w5.alloc (.cells #[.int .i64 s, .int .i64 y, .int .i64 l, .slice r5 n n] 50)) = W5
    intro HB5 HX5 KC5 KB5 HY5 HC5 HR5 KD5
    obtain ⟨N5, hN5⟩ : ∃ N5, w5.heap.size = N5 := ⟨_, rfl⟩
    rw [hN5] at KD5
    rw [hN5]
    clear hN5
    refine Calls.mono (HIM.out _ a4 r5 HB5.out HC5.out HR5.out) ?_
    rintro e w6 ⟨⟨f2, s2, c2, r2, rfl, hR2⟩, hb⟩
    obtain ⟨rfl, rfl, rfl, rfl⟩ := HR1.out.unique hR2
    have hal : Below w6.heap.size w6 (w6.alloc (.cells (wkr f1 s1 c1 r1) 38)) := (Below.refl _ _).alloc (Nat.le_refl _) _
    have hb2 := hb.trans (hal.mono hb.size)
    have HB6 : Hid (Below w.heap.size w (w6.alloc (.cells (wkr f1 s1 c1 r1) 38))) := HB5.out.trans (hb2.mono HB5.out.size)
    have HX6 : Hid ((w6.alloc (.cells (wkr f1 s1 c1 r1) 38)).heap[w.heap.size]? = some (.cells (tbA t a) 31 (0, 0))) := row_below HX5.out hb2
    have KC6 : Hid (Bk (w6.alloc (.cells (wkr f1 s1 c1 r1) 38)) (w.heap.size + 1) #[.int .i64 s, .int .i64 y, .int .i64 l, .slice ra n cap]) := KC5.out.below hb2
    have KB6 : Hid (Bk (w6.alloc (.cells (wkr f1 s1 c1 r1) 38)) B1 (wkr f1 s1 c1 r1)) := KB5.out.below hb2
    have HY6 : Hid ((w6.alloc (.cells (wkr f1 s1 c1 r1) 38)).heap[N]? = some (.cells (tbA t a4) 46 (0, 0))) := row_below HY5.out hb2
    have HC6 : Hid (Cpy (w6.alloc (.cells (wkr f1 s1 c1 r1) 38)) t a a4) := HC5.out.below hb2
    have HR6 : Hid (RSeg (w6.alloc (.cells (wkr f1 s1 c1 r1) 38)) r5 n D) := RSeg.below HR5.out hb2
    have KD6 : Hid (Bk (w6.alloc (.cells (wkr f1 s1 c1 r1) 38)) N5 #[.int .i64 s, .int .i64 y, .int .i64 l, .slice r5 n n]) := KD5.out.below hb2
    clear hb hb2 hal hR2 HR1 HB5 HX5 KC5 KB5 HY5 HC5 HR5 KD5 HSP HIM
    have b0 := KB6.out.cell 0 _ rfl
    have b1 := KB6.out.cell 1 _ rfl
    have b2 := KB6.out.cell 2 _ rfl
    have b3 := KB6.out.cell 3 _ rfl
    go_wp2_with fail
    refine Calls.mono (eq_work f1 s1 c1 r1 _) ?_
    rintro e w7 ⟨rfl, hb⟩
    have HB7 : Hid (Below w.heap.size w w7) := HB6.out.trans (hb.mono HB6.out.size)
    have HX7 : Hid (∀ X, Below w7.heap.size w7 X → X.heap[w.heap.size]? = some (.cells (tbA t a) 31 (0, 0))) := fun X hX => row_below (row_below HX6.out hb) hX
    have KC7 : Hid (Bk w7 (w.heap.size + 1) #[.int .i64 s, .int .i64 y, .int .i64 l, .slice ra n cap]) := KC6.out.below hb
    have HY7 : Hid (∀ X, Below w7.heap.size w7 X → X.heap[N]? = some (.cells (tbA t a4) 46 (0, 0))) := fun X hX => row_below (row_below HY6.out hb) hX
    have HC7 : Hid (∀ X, Below w7.heap.size w7 X → Cpy X t a a4) := fun X hX => (HC6.out.below hb).below hX
    have HR7 : Hid (RSeg w7 r5 n D) := RSeg.below HR6.out hb
    have KD7 : Hid (Bk w7 N5 #[.int .i64 s, .int .i64 y, .int .i64 l, .slice r5 n n]) := KD6.out.below hb
    clear hb HB6 HX6 KC6 KB6 HY6 HC6 HR6 KD6 b0 b1 b2 b3
    go_wp2
    refine wp_region_inv (by kernel_rfl) (by kernel_rfl) (fun A ℓ a' w' => ∃ (x40 x41 x42 x43 x44 : Value), a' = (((((A.put (some 40) x40).put (some 41) x41).put (some 42) x42).put (some 43) x43).put (some 44) x44) ∧ TI t a a4 w7 w' (ℓ 0) (ℓ 1) (ℓ 2) (ℓ 3) (ℓ 4) x40 x41 x42 x43 x44) ?_ ?_ ?_ ?_
    · exact ⟨undef, undef, undef, undef, undef, (by simp only [Act.put, List.setIfInBounds_toArray, List.set_cons_zero, List.set_cons_succ]), ⟨(Below.refl _ _).drew, (fun g => by cases g), (fun g => by cases g), (fun g => by cases g), (fun g => by cases g), (fun g => by cases g)⟩⟩
    · intro ℓ a' w8 hI hall
      obtain ⟨x40, x41, x42, x43, x44, rfl, hr⟩ := hI
      have hall' : ∀ i, i < 5 → ℓ i = true := hall
      obtain rfl := hr.f4 (hall' 4 (by omega))
      have hb := hr.gb
      clear hr hall hall'
      simp only [Act.put, List.setIfInBounds_toArray, List.set_cons_zero, List.set_cons_succ]
      have HB8 : Hid (Below w.heap.size w w8) := HB7.out.trans (hb.mono HB7.out.size)
      have KC8 : Hid (Bk w8 (w.heap.size + 1) #[.int .i64 s, .int .i64 y, .int .i64 l, .slice ra n cap]) := KC7.out.below hb
      have HR8 : Hid (RSeg w8 r5 n D) := RSeg.below HR7.out hb
      have KD8 : Hid (Bk w8 N5 #[.int .i64 s, .int .i64 y, .int .i64 l, .slice r5 n n]) := KD7.out.below hb
      clear hb HB7 KC7 HR7 KD7 HX7 HY7 HC7
      go_wp2
      refine wp_region_inv (by kernel_rfl) (by kernel_rfl) (fun A ℓ a' w' => ∃ (x45 x46 x47 x48 x49 : Value), a' = (((((A.put (some 45) x45).put (some 46) x46).put (some 47) x47).put (some 48) x48).put (some 49) x49) ∧ KI s y l ra cap n D r5 w8 w' (ℓ 0) (ℓ 1) (ℓ 2) (ℓ 3) (ℓ 4) x45 x46 x47 x48 x49) ?_ ?_ ?_ ?_
      · exact ⟨undef, undef, undef, undef, undef, (by simp only [Act.put, List.setIfInBounds_toArray, List.set_cons_zero, List.set_cons_succ]), ⟨(Below.refl _ _).drew, (fun g => by cases g), (fun g => by cases g), (fun g => by cases g), (fun g => by cases g), (fun g => by cases g)⟩⟩
      · intro ℓ a' w9 hI hall
        obtain ⟨x45, x46, x47, x48, x49, rfl, hr⟩ := hI
        have hall' : ∀ i, i < 5 → ℓ i = true := hall
        obtain rfl := hr.f4 (hall' 4 (by omega))
        have HE : Hid (Below w.heap.size w w9) := HB8.out.trans (hr.gb.mono HB8.out.size)
        clear hr hall hall'
        simp only [Act.put, List.setIfInBounds_toArray, List.set_cons_zero, List.set_cons_succ]
        go_wp2
        go_ret
        exact ⟨rfl, HE.out⟩
      · intro ℓ a' w' i o hI ho hi hL hdep K hK
        obtain ⟨x45, x46, x47, x48, x49, rfl, hr⟩ := hI
        have hi7 : i < 5 := hi
        have hcs : i = 0 ∨ i = 1 ∨ i = 2 ∨ i = 3 ∨ i = 4 := by omega
        have KCw : Hid (Bk w' (w.heap.size + 1) #[.int .i64 s, .int .i64 y, .int .i64 l, .slice ra n cap]) := KC8.out.below hr.gb
        have KDw : Hid (Bk w' N5 #[.int .i64 s, .int .i64 y, .int .i64 l, .slice r5 n n]) := KD8.out.below hr.gb
        clear hi hi7
        rcases hcs with rfl | rfl | rfl | rfl | rfl
        · obtain rfl := Option.some.inj ho
          clear hdep ho
          have d0 := KDw.out.cell 0 _ rfl
          have d1 := KDw.out.cell 1 _ rfl
          have d2 := KDw.out.cell 2 _ rfl
          have d3 := KDw.out.cell 3 _ rfl
          rw [if_pos (by rfl)]
          try simp only [Act.put, List.setIfInBounds_toArray, List.set_cons_zero, List.set_cons_succ]
          go_simp
          exact hK.out _ _ (fun j => if j = 0 then true else ℓ j) ⟨cch s y l (.slice r5 n n), x46, x47, x48, x49, (by simp only [Act.put, List.setIfInBounds_toArray, List.set_cons_zero, List.set_cons_succ]), ⟨hr.gb, (fun _ => rfl), hr.f1, hr.f2, hr.f3, hr.f4⟩⟩ (if_pos rfl) (fun j hj => if_neg hj)
        · obtain rfl := Option.some.inj ho
          clear hdep ho
          have d0 := KCw.out.cell 0 _ rfl
          have d1 := KCw.out.cell 1 _ rfl
          have d2 := KCw.out.cell 2 _ rfl
          have d3 := KCw.out.cell 3 _ rfl
          rw [if_pos (by rfl)]
          try simp only [Act.put, List.setIfInBounds_toArray, List.set_cons_zero, List.set_cons_succ]
          go_simp
          exact hK.out _ _ (fun j => if j = 1 then true else ℓ j) ⟨x45, cch s y l (.slice ra n cap), x47, x48, x49, (by simp only [Act.put, List.setIfInBounds_toArray, List.set_cons_zero, List.set_cons_succ]), ⟨hr.gb, hr.f0, (fun _ => rfl), hr.f2, hr.f3, hr.f4⟩⟩ (if_pos rfl) (fun j hj => if_neg hj)
        · obtain rfl := Option.some.inj ho
          have g : ℓ 1 = true := hdep { on := 1, ground := Ground.data } (by simp) rfl
          clear hdep ho
          obtain rfl := hr.f1 g
          rw [if_pos (by rfl)]
          try simp only [Act.put, List.setIfInBounds_toArray, List.set_cons_zero, List.set_cons_succ]
          go_simp
          refine Calls.mono (HTC.out _ (HB8.out.trans (hr.gb.mono HB8.out.size))) ?_
          rintro e w9 ⟨a9, rfl, hb9, hc9⟩
          have hr9 := hr.below hb9
          exact hK.out _ _ (fun j => if j = 2 then true else ℓ j) ⟨x45, cch s y l (.slice ra n cap), cch s y l (.slice a9 n n), x48, x49, (by simp only [Act.put, List.setIfInBounds_toArray, List.set_cons_zero, List.set_cons_succ]), ⟨hr9.gb, hr9.f0, hr9.f1, (fun _ => ⟨a9, rfl, hc9⟩), hr9.f3, hr9.f4⟩⟩ (if_pos rfl) (fun j hj => if_neg hj)
        · obtain rfl := Option.some.inj ho
          have g0 : ℓ 0 = true := hdep { on := 0, ground := Ground.data } (by simp) rfl
          have g2 : ℓ 2 = true := hdep { on := 2, ground := Ground.data } (by simp) rfl
          clear hdep ho
          obtain rfl := hr.f0 g0
          obtain ⟨a9, rfl, hc9⟩ := hr.f2 g2
          rw [if_pos (by rfl)]
          try simp only [Act.put, List.setIfInBounds_toArray, List.set_cons_zero, List.set_cons_succ]
          go_simp
          refine Calls.mono (HEC.out _ r5 a9 (RSeg.below HR8.out hr.gb) hc9) ?_
          rintro e w9 ⟨rfl, hb9⟩
          have hr9 := hr.below hb9
          exact hK.out _ _ (fun j => if j = 3 then true else ℓ j) ⟨cch s y l (.slice r5 n n), x46, cch s y l (.slice a9 n n), .bool true, x49, (by simp only [Act.put, List.setIfInBounds_toArray, List.set_cons_zero, List.set_cons_succ]), ⟨hr9.gb, hr9.f0, hr9.f1, hr9.f2, (fun _ => rfl), hr9.f4⟩⟩ (if_pos rfl) (fun j hj => if_neg hj)
        · obtain rfl := Option.some.inj ho
          have g : ℓ 3 = true := hdep { on := 3, ground := Ground.data } (by simp) rfl
          clear hdep ho
          obtain rfl := hr.f3 g
          rw [if_pos (by rfl)]
          try simp only [Act.put, List.setIfInBounds_toArray, List.set_cons_zero, List.set_cons_succ]
          go_simp
          exact hK.out _ _ (fun j => if j = 4 then true else ℓ j) ⟨x45, x46, x47, .bool true, .bool false, (by simp only [Act.put, List.setIfInBounds_toArray, List.set_cons_zero, List.set_cons_succ]), ⟨hr.gb, hr.f0, hr.f1, hr.f2, hr.f3, (fun _ => rfl)⟩⟩ (if_pos rfl) (fun j hj => if_neg hj)
      · rintro a' w' ℓ ℓ' hℓ hI
        rw [← show ℓ = ℓ' from funext hℓ]
        exact hI
    · intro ℓ a' w' i o hI ho hi hL hdep K hK
      obtain ⟨x40, x41, x42, x43, x44, rfl, hr⟩ := hI
      have hi7 : i < 5 := hi
      have hcs : i = 0 ∨ i = 1 ∨ i = 2 ∨ i = 3 ∨ i = 4 := by omega
      clear hi hi7
      rcases hcs with rfl | rfl | rfl | rfl | rfl
      · replace ho : some ({ dst := some 40, op := .load 46 (.tmp 9), type := 46, pos := "exact.go:5971", after := #[], guard := none } : Oper) = some o := ho
        obtain rfl := Option.some.inj ho
        clear hdep ho
        rw [if_pos (by rfl)]
        try simp only [Act.put, List.setIfInBounds_toArray, List.set_cons_zero, List.set_cons_succ]
        refine wp_load_row (P := Tryz.prog) 46 (.tmp 9) rfl N rfl 46 (tbA t a4) (0, 0) _ (HY7.out _ hr.gb) Tryz.underlying46 rfl (by kernel_rfl) ?_
        exact hK.out _ _ (fun j => if j = 0 then true else ℓ j) ⟨tbV t a4, x41, x42, x43, x44, (by simp only [Act.put, List.setIfInBounds_toArray, List.set_cons_zero, List.set_cons_succ]), ⟨hr.gb, (fun _ => rfl), hr.f1, hr.f2, hr.f3, hr.f4⟩⟩ (if_pos rfl) (fun j hj => if_neg hj)
      · replace ho : some ({ dst := some 41, op := .load 31 (.tmp 3), type := 31, pos := "exact.go:5971", after := #[], guard := none } : Oper) = some o := ho
        obtain rfl := Option.some.inj ho
        clear hdep ho
        rw [if_pos (by rfl)]
        try simp only [Act.put, List.setIfInBounds_toArray, List.set_cons_zero, List.set_cons_succ]
        refine wp_load_row (P := Tryz.prog) 31 (.tmp 3) rfl w.heap.size rfl 31 (tbA t a) (0, 0) _ (HX7.out _ hr.gb) Tryz.underlying31 rfl (by kernel_rfl) ?_
        exact hK.out _ _ (fun j => if j = 1 then true else ℓ j) ⟨x40, tbV t a, x42, x43, x44, (by simp only [Act.put, List.setIfInBounds_toArray, List.set_cons_zero, List.set_cons_succ]), ⟨hr.gb, hr.f0, (fun _ => rfl), hr.f2, hr.f3, hr.f4⟩⟩ (if_pos rfl) (fun j hj => if_neg hj)
      · obtain rfl := Option.some.inj ho
        have g : ℓ 1 = true := hdep { on := 1, ground := Ground.data } (by simp) rfl
        clear hdep ho
        obtain rfl := hr.f1 g
        rw [if_pos (by rfl)]
        try simp only [Act.put, List.setIfInBounds_toArray, List.set_cons_zero, List.set_cons_succ]
        go_simp
        refine Calls.mono (HTT.out _ (HB7.out.trans (hr.gb.mono HB7.out.size))) ?_
        rintro e w9 ⟨a9, rfl, hb9, hc9⟩
        have hr9 := hr.below hb9
        exact hK.out _ _ (fun j => if j = 2 then true else ℓ j) ⟨x40, tbV t a, tbV t a9, x43, x44, (by simp only [Act.put, List.setIfInBounds_toArray, List.set_cons_zero, List.set_cons_succ]), ⟨hr9.gb, hr9.f0, hr9.f1, (fun _ => ⟨a9, rfl, hc9⟩), hr9.f3, hr9.f4⟩⟩ (if_pos rfl) (fun j hj => if_neg hj)
      · obtain rfl := Option.some.inj ho
        have g0 : ℓ 0 = true := hdep { on := 0, ground := Ground.data } (by simp) rfl
        have g2 : ℓ 2 = true := hdep { on := 2, ground := Ground.data } (by simp) rfl
        clear hdep ho
        obtain rfl := hr.f0 g0
        obtain ⟨a9, rfl, hc9⟩ := hr.f2 g2
        have hc4 := HC7.out _ hr.gb
        rw [if_pos (by rfl)]
        try simp only [Act.put, List.setIfInBounds_toArray, List.set_cons_zero, List.set_cons_succ]
        go_simp
        refine Calls.mono (eq_tab t a4 a9 _ hc4.m hc9.m hc4.s (hc9.p1.trans hc4.p1.symm) (hc9.p2.trans hc4.p2.symm) (hc9.p3.trans hc4.p3.symm) (hc9.p4.trans hc4.p4.symm)) ?_
        rintro e w9 ⟨rfl, hb9⟩
        have hr9 := hr.below hb9
        exact hK.out _ _ (fun j => if j = 3 then true else ℓ j) ⟨tbV t a4, x41, tbV t a9, .bool true, x44, (by simp only [Act.put, List.setIfInBounds_toArray, List.set_cons_zero, List.set_cons_succ]), ⟨hr9.gb, hr9.f0, hr9.f1, hr9.f2, (fun _ => rfl), hr9.f4⟩⟩ (if_pos rfl) (fun j hj => if_neg hj)
      · obtain rfl := Option.some.inj ho
        have g : ℓ 3 = true := hdep { on := 3, ground := Ground.data } (by simp) rfl
        clear hdep ho
        obtain rfl := hr.f3 g
        rw [if_pos (by rfl)]
        try simp only [Act.put, List.setIfInBounds_toArray, List.set_cons_zero, List.set_cons_succ]
        go_simp
        exact hK.out _ _ (fun j => if j = 4 then true else ℓ j) ⟨x40, x41, x42, .bool true, .bool false, (by simp only [Act.put, List.setIfInBounds_toArray, List.set_cons_zero, List.set_cons_succ]), ⟨hr.gb, hr.f0, hr.f1, hr.f2, hr.f3, (fun _ => rfl)⟩⟩ (if_pos rfl) (fun j hj => if_neg hj)
    · rintro a' w' ℓ ℓ' hℓ hI
      rw [← show ℓ = ℓ' from funext hℓ]
      exact hI
  · intro ℓ a' w' i o hI ho hi hL hdep K hK
    obtain ⟨x22, x23, x24, x25, x26, x27, x8, rfl, hr⟩ := hI
    have hi7 : i < 8 := hi
    have hcs : i = 0 ∨ i = 1 ∨ i = 2 ∨ i = 3 ∨ i = 4 ∨ i = 5 ∨ i = 6 ∨ i = 7 := by omega
    have HBw : Hid (Below w.heap.size w w') := HB2.out.trans (hr.gb.mono HB2.out.size)
    have HXw : Hid (w'.heap[w.heap.size]? = some (.cells (tbA t a) 31 (0, 0))) := row_below HX2.out hr.gb
    have KCw : Hid (Bk w' (w.heap.size + 1) #[.int .i64 s, .int .i64 y, .int .i64 l, .slice ra n cap]) := KC2.out.below hr.gb
    clear hi hi7
    rcases hcs with rfl | rfl | rfl | rfl | rfl | rfl | rfl | rfl
    · replace ho : some ({ dst := some 22, op := .load 31 (.tmp 3), type := 31, pos := "exact.go:5964", after := #[], guard := none } : Oper) = some o := ho
      obtain rfl := Option.some.inj ho
      clear hdep ho
      rw [if_pos (by rfl)]
      try simp only [Act.put, List.setIfInBounds_toArray, List.set_cons_zero, List.set_cons_succ]
      refine wp_load_row (P := Tryz.prog) 31 (.tmp 3) rfl w.heap.size rfl 31 (tbA t a) (0, 0) _ HXw.out Tryz.underlying31 rfl (by kernel_rfl) ?_
      exact hK.out _ _ (fun j => if j = 0 then true else ℓ j) ⟨tbV t a, x23, x24, x25, x26, x27, x8, (by simp only [Act.put, List.setIfInBounds_toArray, List.set_cons_zero, List.set_cons_succ]), ⟨hr.gb, (fun _ => rfl), hr.f1, hr.f2, hr.f3, hr.f4, hr.f5, hr.f6, hr.f7⟩⟩ (if_pos rfl) (fun j hj => if_neg hj)
    · obtain rfl := Option.some.inj ho
      have g0 : ℓ 0 = true := hdep { on := 0, ground := Ground.data } (by simp) rfl
      clear hdep ho
      obtain rfl := hr.f0 g0
      rw [if_pos (by rfl)]
      try simp only [Act.put, List.setIfInBounds_toArray, List.set_cons_zero, List.set_cons_succ]
      go_simp
      refine Calls.mono (HTT.out _ HBw.out) ?_
      rintro e w9 ⟨a9, rfl, hb9, hc9⟩
      have hr9 := hr.below hb9
      exact hK.out _ _ (fun j => if j = 1 then true else ℓ j) ⟨tbV t a, tbV t a9, x24, x25, x26, x27, x8, (by simp only [Act.put, List.setIfInBounds_toArray, List.set_cons_zero, List.set_cons_succ]), ⟨hr9.gb, hr9.f0, (fun _ _ => ⟨a9, rfl, hc9⟩), hr9.f2, hr9.f3, hr9.f4, hr9.f5, hr9.f6, hr9.f7⟩⟩ (if_pos rfl) (fun j hj => if_neg hj)
    · obtain rfl := Option.some.inj ho
      clear hdep ho
      have c0 := KCw.out.cell 0 _ rfl
      have c1 := KCw.out.cell 1 _ rfl
      have c2 := KCw.out.cell 2 _ rfl
      have c3 := KCw.out.cell 3 _ rfl
      rw [if_pos (by rfl)]
      try simp only [Act.put, List.setIfInBounds_toArray, List.set_cons_zero, List.set_cons_succ]
      go_simp
      exact hK.out _ _ (fun j => if j = 2 then true else ℓ j) ⟨x22, x23, cch s y l (.slice ra n cap), x25, x26, x27, x8, (by simp only [Act.put, List.setIfInBounds_toArray, List.set_cons_zero, List.set_cons_succ]), ⟨hr.gb, hr.f0, hr.f1, (fun _ => rfl), hr.f3, hr.f4, hr.f5, hr.f6, hr.f7⟩⟩ (if_pos rfl) (fun j hj => if_neg hj)
    · obtain rfl := Option.some.inj ho
      have g2 : ℓ 2 = true := hdep { on := 2, ground := Ground.data } (by simp) rfl
      clear hdep ho
      obtain rfl := hr.f2 g2
      rw [if_pos (by rfl)]
      try simp only [Act.put, List.setIfInBounds_toArray, List.set_cons_zero, List.set_cons_succ]
      go_simp
      refine Calls.mono (HTC.out _ HBw.out) ?_
      rintro e w9 ⟨a9, rfl, hb9, hc9⟩
      have hr9 := hr.below hb9
      exact hK.out _ _ (fun j => if j = 3 then true else ℓ j) ⟨x22, x23, cch s y l (.slice ra n cap), cch s y l (.slice a9 n n), x26, x27, x8, (by simp only [Act.put, List.setIfInBounds_toArray, List.set_cons_zero, List.set_cons_succ]), ⟨hr9.gb, hr9.f0, hr9.f1, hr9.f2, (fun _ _ => ⟨a9, rfl, hc9⟩), hr9.f4, hr9.f5, hr9.f6, hr9.f7⟩⟩ (if_pos rfl) (fun j hj => if_neg hj)
    · obtain rfl := Option.some.inj ho
      clear hdep ho
      rw [if_pos (by rfl)]
      try simp only [Act.put, List.setIfInBounds_toArray, List.set_cons_zero, List.set_cons_succ]
      go_simp
      exact hK.out _ _ (fun j => if j = 4 then true else ℓ j) ⟨x22, x23, x24, x25, .int .i64 m, x27, x8, (by simp only [Act.put, List.setIfInBounds_toArray, List.set_cons_zero, List.set_cons_succ]), ⟨hr.gb, hr.f0, hr.f1, hr.f2, hr.f3, (fun _ => rfl), hr.f5, hr.f6, hr.f7⟩⟩ (if_pos rfl) (fun j hj => if_neg hj)
    · obtain rfl := Option.some.inj ho
      have g1 : ℓ 1 = true := hdep { on := 1, ground := Ground.data } (by simp) rfl
      have g3 : ℓ 3 = true := hdep { on := 3, ground := Ground.data } (by simp) rfl
      have g4 : ℓ 4 = true := hdep { on := 4, ground := Ground.data } (by simp) rfl
      clear hdep ho
      have hl7 : ℓ 7 = false := by
        cases h7 : ℓ 7
        · rfl
        · have := (hr.f7 h7).2; rw [this] at hL; cases hL
      obtain ⟨a2, rfl, hc2⟩ := hr.f1 g1 hl7
      obtain ⟨a3, rfl, hc3⟩ := hr.f3 g3 hl7
      obtain rfl := hr.f4 g4
      rw [if_pos (by rfl)]
      try simp only [Act.put, List.setIfInBounds_toArray, List.set_cons_zero, List.set_cons_succ]
      go_simp
      refine Calls.mono (HSP.out _ a2 a3 hc2 hc3) ?_
      rintro e w9 ⟨⟨f, sc, c, r9, rfl, hrel⟩, hb9⟩
      have hr9 := hr.below hb9
      exact hK.out _ _ (fun j => if j = 5 then true else ℓ j) ⟨x22, tbV t a2, x24, cch s y l (.slice a3 n n), .int .i64 m, wkv f sc c r9, x8, (by simp only [Act.put, List.setIfInBounds_toArray, List.set_cons_zero, List.set_cons_succ]), ⟨hr9.gb, hr9.f0, hr9.f1, hr9.f2, hr9.f3, hr9.f4, (fun _ => ⟨f, sc, c, r9, rfl, hrel⟩), hr9.f6, (fun h => ⟨(hr.f7 h).1, rfl⟩)⟩⟩ (if_pos rfl) (fun j hj => if_neg hj)
    · obtain rfl := Option.some.inj ho
      clear hdep ho
      have hl7 : ℓ 7 = false := by
        cases h7 : ℓ 7
        · rfl
        · have := (hr.f7 h7).1; rw [this] at hL; cases hL
      rw [if_pos (by rfl)]
      try simp only [Act.put, List.setIfInBounds_toArray, List.set_cons_zero, List.set_cons_succ]
      go_simp
      have hal : Below w'.heap.size w' (w'.alloc (.cells (wkr 0 0 0 0) 38)) := (Below.refl _ _).alloc (Nat.le_refl _) _
      have hr9 := hr.below hal
      have hk9 : Bk (w'.alloc (.cells (wkr 0 0 0 0) 38)) w'.heap.size (wkr 0 0 0 0) := Bk.new _ _ _ _ rfl
      exact hK.out _ _ (fun j => if j = 6 then true else ℓ j) ⟨x22, x23, x24, x25, x26, x27, .pointer (some ⟨w'.heap.size, 0, none⟩), (by simp only [Act.put, List.setIfInBounds_toArray, List.set_cons_zero, List.set_cons_succ]), ⟨hr9.gb, hr9.f0, hr9.f1, hr9.f2, hr9.f3, hr9.f4, hr9.f5, (fun _ => ⟨_, rfl, hr.gb.size, 0, 0, 0, 0, hk9, fun h => absurd (hl7.symm.trans h) (by decide)⟩), (fun h => ⟨rfl, (hr.f7 h).2⟩)⟩⟩ (if_pos rfl) (fun j hj => if_neg hj)
    · obtain rfl := Option.some.inj ho
      have g5 : ℓ 5 = true := hdep { on := 5, ground := Ground.data } (by simp) rfl
      have g6 : ℓ 6 = true := hdep { on := 6, ground := Ground.data } (by simp) rfl
      clear hdep ho
      revert hK
      obtain ⟨f, sc, c, r9, hx27, hrel⟩ := hr.f5 g5
      obtain ⟨B, hx8, hBl, f8, s8, c8, r8, hk8, hz8⟩ := hr.f6 g6
      clear hz8
      subst hx27
      subst hx8
      intro hK
      have q0 := hk8.cell 0 _ rfl
      have q1 := hk8.cell 1 _ rfl
      have q2 := hk8.cell 2 _ rfl
      have q3 := hk8.cell 3 _ rfl
      have z0 := hk8.free 0
      have z1 := hk8.free 1
      have z2 := hk8.free 2
      have z3 := hk8.free 3
      rw [if_pos (by rfl)]
      try simp only [Act.put, List.setIfInBounds_toArray, List.set_cons_zero, List.set_cons_succ]
      go_simp
      have hk9 : Bk ((((w'.setCell ⟨B, 0, none⟩ (.int .i64 f)).setCell ⟨B, 1, none⟩ (.int .i64 sc)).setCell ⟨B, 2, none⟩ (.int .i64 c)).setCell ⟨B, 3, none⟩ (.int .i64 r9)) B (wkr f sc c r9) := (((hk8.set 0 _ (by simp) rfl).set 1 _ (by simp) rfl).set 2 _ (by simp) rfl).set 3 _ (by simp) rfl
      have hgb : Below w2.heap.size w2 ((((w'.setCell ⟨B, 0, none⟩ (.int .i64 f)).setCell ⟨B, 1, none⟩ (.int .i64 sc)).setCell ⟨B, 2, none⟩ (.int .i64 c)).setCell ⟨B, 3, none⟩ (.int .i64 r9)) := (((hr.gb.setCell hBl _).setCell hBl _).setCell hBl _).setCell hBl _
      exact hK.out _ _ (fun j => if j = 7 then true else ℓ j) ⟨x22, x23, x24, x25, x26, wkv f sc c r9, .pointer (some ⟨B, 0, none⟩), (by simp only [Act.put, List.setIfInBounds_toArray, List.set_cons_zero, List.set_cons_succ]), ⟨hgb, hr.f0, (fun _ h => by cases h), hr.f2, (fun _ h => by cases h), hr.f4, (fun _ => ⟨f, sc, c, r9, rfl, hrel⟩), (fun _ => ⟨B, rfl, hBl, f, sc, c, r9, hk9, fun _ => hrel⟩), (fun _ => ⟨g6, g5⟩)⟩⟩ (if_pos rfl) (fun j hj => if_neg hj)
  · rintro a' w' ℓ ℓ' hℓ hI
    rw [← show ℓ = ℓ' from funext hℓ]
    exact hI
end Go.Proofs.YtnifidijheeebaaGreatDoor
