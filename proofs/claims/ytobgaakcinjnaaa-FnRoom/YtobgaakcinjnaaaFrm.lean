
/-
  A drawn row of a channel and two ends of it; two lists of words held against each other. Conditions: the bytes are at most 1048576.
-/
import Derived.Test.YtobgaakcinjnaaaProg
import Derived.Test.YtobgaakcinjnaaaCdb
import Derived.Test.YtobgaakcinjnaaaRgi
namespace Go.Proofs.Ytobgaakcinjnaaa
open Go.ChangeShapes Go.WideShapes Go.ChangeAt Go.RowKit Go.Deep
set_option linter.unusedVariables false

/-- What stands while the answer of DrawBorder is laid. -/
structure DBI (w : World) (C P6 P7 : Nat) (a : Option Addr) (zs : List Int) (cap : Nat) (k f t d h : Int) (g1 n1 c1 : Nat) (xs : List Int) (w' : World) (b0 b1 b2 b3 b4 b5 b6 b7 b8 b9 : Bool) (x15 x16 x17 x18 x19 x20 x21 : Value) : Prop where
  bel : Below w.heap.size w w'
  cur : Cur w' C a zs cap
  own : OwnU w' (C + 1) (.slice (some ⟨g1, 0, none⟩) n1 c1) xs
  k6 : Bk w' P6 (crow k f t d)
  k7 : Bk w' P7 (orow h (some ⟨g1, 0, none⟩) n1 c1)
  r2 : Bk w' w.heap.size (if b7 = true then crow k f t d else crow 0 0 0 0)
  r3 : Bk w' (w.heap.size + 1) (if b8 = true then orow h (some ⟨g1, 0, none⟩) n1 c1 else orow 0 none 0 0)
  r4 : b9 = false → Bk w' (w.heap.size + 2) (irow none 0 0)
  r5 : b9 = true → b6 = true
  f0 : b0 = true → x15 = crw k f t d
  f1 : b1 = true → x16 = oen h (some ⟨g1, 0, none⟩) n1 c1
  f2 : b2 = true → x17 = .pointer (some ⟨C, 0, none⟩)
  f3 : b3 = true → x18 = crw k f t d
  f4 : b4 = true → x19 = .pointer (some ⟨P7, 0, none⟩)
  f5 : b5 = true → x20 = .int .i64 h
  f6 : b6 = true → ∃ g2 n2 c2 ys, x21 = ien (some ⟨g2, 0, none⟩) n2 c2 ∧ ys.length = n2 ∧ n2 ≤ 14 ∧ OwnU w' (C + 1) (.slice (some ⟨g2, 0, none⟩) n2 c2) ys ∧ (b9 = true → Bk w' (w.heap.size + 2) (irow (some ⟨g2, 0, none⟩) n2 c2))
theorem DBI.turn {w : World} {C P6 P7 : Nat} {a : Option Addr} {zs : List Int} {cap : Nat} {k f t d h : Int} {g1 n1 c1 : Nat} {xs : List Int} {w' X : World} {b0 b1 b2 b3 b4 b5 b6 b7 b8 b9 : Bool} {x15 x16 x17 x18 x19 x20 x21 : Value} (hD : DBI w C P6 P7 a zs cap k f t d h g1 n1 c1 xs w' b0 b1 b2 b3 b4 b5 b6 b7 b8 b9 x15 x16 x17 x18 x19 x20 x21) (hC : w.heap.size + 3 ≤ C) (h6 : C < P6) (h7 : C < P7) (hc : Cur X C a zs cap) (ht : Turn C w' X) : DBI w C P6 P7 a zs cap k f t d h g1 n1 c1 xs X b0 b1 b2 b3 b4 b5 b6 b7 b8 b9 x15 x16 x17 x18 x19 x20 x21 := by
  have hbl : Below w.heap.size w' X := ht.below (by omega) hD.bel.size
  exact ⟨hD.bel.trans hbl, hc, ownU_turn hD.own ht (by omega), hD.k6.turn ht (by omega), hD.k7.turn ht (by omega), hD.r2.turn ht (by omega), hD.r3.turn ht (by omega), fun e => (hD.r4 e).turn ht (by omega), hD.r5, hD.f0, hD.f1, hD.f2, hD.f3, hD.f4, hD.f5, fun e => by
    obtain ⟨g2, n2, c2, ys, e1, e2, e3, e4, e5⟩ := hD.f6 e
    exact ⟨g2, n2, c2, ys, e1, e2, e3, ownU_turn e4 ht (by omega), fun g => (e5 g).turn ht (by omega)⟩⟩
/-- What stands where cells of the answer's room 'Y' are laid. -/
structure Room (w w' X : World) (C Y : Nat) (a : Option Addr) (zs : List Int) (cap : Nat) : Prop where
  bel : Below w.heap.size w X
  cur : Cur X C a zs cap
  bk : ∀ b cs, b ≠ Y → Bk w' b cs → Bk X b cs
  ow : ∀ v ys, OwnU w' (C + 1) v ys → OwnU X (C + 1) v ys
theorem Room.start {w w' : World} {C Y : Nat} {a : Option Addr} {zs : List Int} {cap : Nat} (h1 : Below w.heap.size w w') (h2 : Cur w' C a zs cap) : Room w w' w' C Y a zs cap := ⟨h1, h2, fun _ _ _ h => h, fun _ _ h => h⟩
theorem Room.set {w w' X : World} {C Y : Nat} {a : Option Addr} {zs : List Int} {cap : Nat} (h : Room w w' X C Y a zs cap) (j : Nat) (u : Value) (hY1 : w.heap.size ≤ Y) (hY2 : Y < C) (ha : ∀ b off, a = some ⟨b, off, none⟩ → 0 < zs.length → b < w.heap.size) : Room w w' (X.setCell ⟨Y, j, none⟩ u) C Y a zs cap :=
  ⟨h.bel.setCell (p := ⟨Y, j, none⟩) hY1 u, cur_far h.cur Y j u (by omega) (fun b off e h0 => by have := ha b off e h0; omega), fun b cs hb hk => (h.bk b cs hb hk).other _ _ _ (by omega), fun v ys ho => (h.ow v ys ho).set (fun g e => by have := ((h.ow v ys ho).lt g e).1; omega)⟩
/-- What DrawBorder answers. -/
def DBP (w : World) (e : Ending) (w' : World) : Prop :=
  ∃ (k f t d h : Int) (g1 n1 c1 g2 n2 c2 : Nat) (xs ys : List Int), e = .returned (.tuple #[crw k f t d, oen h (some ⟨g1, 0, none⟩) n1 c1, ien (some ⟨g2, 0, none⟩) n2 c2]) ∧ Below w.heap.size w w' ∧ xs.length = n1 ∧ ys.length = n2 ∧ n1 ≤ 14 ∧ n2 ≤ 14 ∧ (-1 ≤ h ∧ h ≤ 10) ∧ (-1 ≤ d ∧ d ≤ 9) ∧ Seg .u32 w' (some ⟨g1, 0, none⟩) xs ∧ Seg .u32 w' (some ⟨g2, 0, none⟩) ys
theorem OwnU.segx {w : World} {base g n c : Nat} {xs : List Int} (h : OwnU w base (.slice (some ⟨g, 0, none⟩) n c) xs) : Seg .u32 w (some ⟨g, 0, none⟩) xs := by
  obtain ⟨a, cap, e, hs⟩ := h.seg
  injection e with e1 e2 e3
  rw [e1]
  exact hs
set_option maxRecDepth 20000 in
set_option maxHeartbeats 4000000 in
theorem draw_border (w : World) (a : Option Addr) (zs : List Int) (cap n : Nat) (hs : Seg .u8 w a zs) (hb : ∀ z ∈ zs, (Lit.int .u8 z).wf = true) (hl : zs.length = n) (hn : n ≤ 1048576) :
    Calls Try.prog 5 #[.slice a n cap] w (DBP w) := by
  have HAA : Hid (∀ b off, a = some ⟨b, off, none⟩ → 0 < zs.length → b < w.heap.size) := seg_lt hs
  have HB0 : Hid (Below w.heap.size w (((w.alloc (.cells (crow 0 0 0 0) 25)).alloc (.cells (orow 0 none 0 0) 28)).alloc (.cells (irow none 0 0) 30))) := (((Below.refl _ _).alloc (Nat.le_refl _) _).alloc (by simp) _).alloc (by simp; omega) _
  have K20 : Hid (Bk (((w.alloc (.cells (crow 0 0 0 0) 25)).alloc (.cells (orow 0 none 0 0) 28)).alloc (.cells (irow none 0 0) 30)) w.heap.size (crow 0 0 0 0)) := ((Bk.new _ _ _ _ rfl).alloc _).alloc _
  have K30 : Hid (Bk (((w.alloc (.cells (crow 0 0 0 0) 25)).alloc (.cells (orow 0 none 0 0) 28)).alloc (.cells (irow none 0 0) 30)) (w.heap.size + 1) (orow 0 none 0 0)) := (Bk.new _ _ _ _ (by simp)).alloc _
  have K40 : Hid (Bk (((w.alloc (.cells (crow 0 0 0 0) 25)).alloc (.cells (orow 0 none 0 0) 28)).alloc (.cells (irow none 0 0) 30)) (w.heap.size + 2) (irow none 0 0)) := Bk.new _ _ _ _ (by simp)
  have HN : Hid (Calls Try.prog 15 #[.slice a n cap] (((w.alloc (.cells (crow 0 0 0 0) 25)).alloc (.cells (orow 0 none 0 0) 28)).alloc (.cells (irow none 0 0) 30)) fun e w' => e = .returned (.pointer (some ⟨(((w.alloc (.cells (crow 0 0 0 0) 25)).alloc (.cells (orow 0 none 0 0) 28)).alloc (.cells (irow none 0 0) 30)).heap.size, 0, none⟩)) ∧ Cur w' (((w.alloc (.cells (crow 0 0 0 0) 25)).alloc (.cells (orow 0 none 0 0) 28)).alloc (.cells (irow none 0 0) 30)).heap.size a zs cap ∧ Below (((w.alloc (.cells (crow 0 0 0 0) 25)).alloc (.cells (orow 0 none 0 0) 28)).alloc (.cells (irow none 0 0) 30)).heap.size (((w.alloc (.cells (crow 0 0 0 0) 25)).alloc (.cells (orow 0 none 0 0) 28)).alloc (.cells (irow none 0 0) 30)) w') := by
    rw [← hl]
    exact draw_new (((w.alloc (.cells (crow 0 0 0 0) 25)).alloc (.cells (orow 0 none 0 0) 28)).alloc (.cells (irow none 0 0) 30)) a zs cap (hs.below HB0.out) hb (by omega)
  have HZ0 : Hid ((((w.alloc (.cells (crow 0 0 0 0) 25)).alloc (.cells (orow 0 none 0 0) 28)).alloc (.cells (irow none 0 0) 30)).heap.size = w.heap.size + 3) := by show _ = _; simp
  clear hs hb hl hn
  go_enter Try.func5, Try.ntmps5
  go_wp2_with fail
  refine HN.out.mono ?_
  revert HB0 K20 K30 K40 HZ0
  clear HN
  generalize (((w.alloc (.cells (crow 0 0 0 0) 25)).alloc (.cells (orow 0 none 0 0) 28)).alloc (.cells (irow none 0 0) 30)) = V0
  intro HB0 K20 K30 K40 HZ0
  rintro e w1 ⟨rfl, hc1, hb1⟩
  have hZ0 := HZ0.out
  obtain ⟨C, hC⟩ : ∃ C, C = V0.heap.size := ⟨_, rfl⟩
  rw [← hC] at hc1 ⊢
  replace hC : w.heap.size + 3 ≤ C := by omega
  have HC1 : Hid (CT w1 w1 C a zs cap) := CT.start hc1
  have HB1 : Hid (Below w.heap.size w w1) := HB0.out.trans (hb1.mono HB0.out.size)
  have K21 : Hid (Bk w1 w.heap.size (crow 0 0 0 0)) := K20.out.below hb1
  have K31 : Hid (Bk w1 (w.heap.size + 1) (orow 0 none 0 0)) := K30.out.below hb1
  have K41 : Hid (Bk w1 (w.heap.size + 2) (irow none 0 0)) := K40.out.below hb1
  clear HB0 K20 K30 K40 hc1 hb1 hZ0 HZ0
  go_wp2_with fail
  refine (draw_anyr _ _ _ _ _ HC1.out.cur).mono ?_
  rintro e w2 ⟨k, f, t, d, rfl, hdb, hc2, ht2⟩
  have HC2 : Hid (CT w1 (w2.alloc (.cells (crow k f t d) 25)) C a zs cap) := (HC1.out.step hc2 ht2).alloc _
  have HB2 : Hid (Below w.heap.size w (w2.alloc (.cells (crow k f t d) 25))) := (HB1.out.trans (ht2.below (by omega) HB1.out.size)).alloc (Nat.le_trans HB1.out.size ht2.size) _
  have K22 : Hid (Bk (w2.alloc (.cells (crow k f t d) 25)) w.heap.size (crow 0 0 0 0)) := (K21.out.turn ht2 (by omega)).alloc _
  have K32 : Hid (Bk (w2.alloc (.cells (crow k f t d) 25)) (w.heap.size + 1) (orow 0 none 0 0)) := (K31.out.turn ht2 (by omega)).alloc _
  have K42 : Hid (Bk (w2.alloc (.cells (crow k f t d) 25)) (w.heap.size + 2) (irow none 0 0)) := (K41.out.turn ht2 (by omega)).alloc _
  obtain ⟨P6, hP6⟩ : ∃ P, w2.heap.size = P := ⟨_, rfl⟩
  have h6 : C < P6 := by have := hc2.lt; omega
  have K62 : Hid (Bk (w2.alloc (.cells (crow k f t d) 25)) P6 (crow k f t d)) := Bk.new _ _ _ _ hP6.symm
  have c0 := K62.out.cell 0 _ rfl
  have c1 := K62.out.cell 1 _ rfl
  have c2 := K62.out.cell 2 _ rfl
  have c3 := K62.out.cell 3 _ rfl
  clear HC1 HB1 K21 K31 K41 hc2 ht2
  go_wp2_with fail
  clear c0 c1 c2 c3
  revert HC2 HB2 K22 K32 K42 K62
  generalize (w2.alloc (.cells (crow k f t d) 25)) = V6
  try rw [hP6]
  clear hP6
  intro HC2 HB2 K22 K32 K42 K62
  refine (draw_out _ _ _ _ _ k f t d HC2.out.cur hdb.1 hdb.2).mono ?_
  rintro e w4 ⟨h, v, xs, rfl, hhb, hx1, hx2, hx3, hc4, ht4⟩
  obtain ⟨n1, hn1⟩ : ∃ n, xs.length = n := ⟨_, rfl⟩
  obtain ⟨g1, c1, rfl, hcc⟩ := hx2.shape hx3 hn1
  obtain ⟨P7, hP7⟩ : ∃ P, w4.heap.size = P := ⟨_, rfl⟩
  have ha4 : Below w4.heap.size w4 (w4.alloc (.cells (orow h (some ⟨g1, 0, none⟩) n1 c1) 28)) := (Below.refl _ _).alloc (Nat.le_refl _) _
  have HDB : Hid (DBI w C P6 P7 a zs cap k f t d h g1 n1 c1 xs (w4.alloc (.cells (orow h (some ⟨g1, 0, none⟩) n1 c1) 28)).drew false false false false false false false false false false undef undef undef undef undef undef undef) := by
    have hz6 := K62.out.lt
    have hz4 := ht4.size
    have hB4 : Below w.heap.size w w4 := HB2.out.trans (ht4.below (by omega) HB2.out.size)
    have hcx : Cur (w4.alloc (.cells (orow h (some ⟨g1, 0, none⟩) n1 c1) 28)).drew C a zs cap := (hc4.below ha4).below (Below.refl _ _).drew
    have hd : ∀ {b : Nat} {cs : Array Value}, Bk w4 b cs → Bk (w4.alloc (.cells (orow h (some ⟨g1, 0, none⟩) n1 c1) 28)).drew b cs := fun q => (q.below ha4).below (Below.refl _ _).drew
    refine ⟨(hB4.alloc hB4.size _).drew, hcx, ((hx2.below ha4).below (Below.refl _ _).drew).low (by omega), hd (K62.out.turn ht4 (by omega)), (Bk.new _ _ _ _ hP7.symm).below (Below.refl _ _).drew, hd (K22.out.turn ht4 (by omega)), hd (K32.out.turn ht4 (by omega)), fun _ => hd (K42.out.turn ht4 (by omega)), ?_, ?_, ?_, ?_, ?_, ?_, ?_, ?_⟩
    all_goals intro g; cases g
  have h7 : C < P7 := by have := hc4.lt; omega
  have hh1 := hhb.1
  have hh2 := hhb.2
  have HN1 : Hid (xs.length = n1 ∧ n1 ≤ 14) := ⟨hn1, hn1 ▸ hx1⟩
  clear HC2 HB2 K22 K32 K42 K62 hx1 hx2 hx3 hc4 ht4 ha4 hcc hn1
  go_wp2_with fail
  revert HDB
  generalize (w4.alloc (.cells (orow h (some ⟨g1, 0, none⟩) n1 c1) 28)) = V7
  try rw [hP7]
  clear hP7
  intro HDB
  refine wp_region_inv (by kernel_rfl) (by kernel_rfl) (fun AC ℓ a' w' => ∃ (x15 x16 x17 x18 x19 x20 x21 : Value), a' = (((((((AC.put (some 15) x15).put (some 16) x16).put (some 17) x17).put (some 18) x18).put (some 19) x19).put (some 20) x20).put (some 21) x21) ∧ DBI w C P6 P7 a zs cap k f t d h g1 n1 c1 xs w' (ℓ 0) (ℓ 1) (ℓ 2) (ℓ 3) (ℓ 4) (ℓ 5) (ℓ 6) (ℓ 7) (ℓ 8) (ℓ 9) x15 x16 x17 x18 x19 x20 x21) ?_ ?_ ?_ ?_
  · exact ⟨undef, undef, undef, undef, undef, undef, undef, (by simp only [Act.put, List.setIfInBounds_toArray, List.set_cons_zero, List.set_cons_succ]), HDB.out⟩
  rotate_left
  · intro ℓ a' w' i o hI ho hi hL hdep K hK
    obtain ⟨x15, x16, x17, x18, x19, x20, x21, rfl, hr⟩ := hI
    have hi7 : i < 10 := hi
    have hcs : i = 0 ∨ i = 1 ∨ i = 2 ∨ i = 3 ∨ i = 4 ∨ i = 5 ∨ i = 6 ∨ i = 7 ∨ i = 8 ∨ i = 9 := by omega
    clear hi hi7
    rcases hcs with rfl | rfl | rfl | rfl | rfl | rfl | rfl | rfl | rfl | rfl
    · obtain rfl := Option.some.inj ho
      clear hdep ho
      have q0 := hr.k6.cell 0 _ rfl
      have q1 := hr.k6.cell 1 _ rfl
      have q2 := hr.k6.cell 2 _ rfl
      have q3 := hr.k6.cell 3 _ rfl
      rw [if_pos (by rfl)]
      try simp only [Act.put, List.setIfInBounds_toArray, List.set_cons_zero, List.set_cons_succ]
      go_simp
      exact hK.out _ _ (fun j => if j = 0 then true else ℓ j) ⟨crw k f t d, x16, x17, x18, x19, x20, x21, (by simp only [Act.put, List.setIfInBounds_toArray, List.set_cons_zero, List.set_cons_succ]), ⟨hr.bel, hr.cur, hr.own, hr.k6, hr.k7, hr.r2, hr.r3, hr.r4, hr.r5, (fun _ => rfl), hr.f1, hr.f2, hr.f3, hr.f4, hr.f5, hr.f6⟩⟩ (if_pos rfl) (fun j hj => if_neg hj)
    · obtain rfl := Option.some.inj ho
      clear hdep ho
      have q0 := hr.k7.cell 0 _ rfl
      have q1 := hr.k7.cell 1 _ rfl
      rw [if_pos (by rfl)]
      try simp only [Act.put, List.setIfInBounds_toArray, List.set_cons_zero, List.set_cons_succ]
      go_simp
      exact hK.out _ _ (fun j => if j = 1 then true else ℓ j) ⟨x15, oen h (some ⟨g1, 0, none⟩) n1 c1, x17, x18, x19, x20, x21, (by simp only [Act.put, List.setIfInBounds_toArray, List.set_cons_zero, List.set_cons_succ]), ⟨hr.bel, hr.cur, hr.own, hr.k6, hr.k7, hr.r2, hr.r3, hr.r4, hr.r5, hr.f0, (fun _ => rfl), hr.f2, hr.f3, hr.f4, hr.f5, hr.f6⟩⟩ (if_pos rfl) (fun j hj => if_neg hj)
    · obtain rfl := Option.some.inj ho
      clear hdep ho
      rw [if_pos (by rfl)]
      try simp only [Act.put, List.setIfInBounds_toArray, List.set_cons_zero, List.set_cons_succ]
      go_simp
      exact hK.out _ _ (fun j => if j = 2 then true else ℓ j) ⟨x15, x16, .pointer (some ⟨C, 0, none⟩), x18, x19, x20, x21, (by simp only [Act.put, List.setIfInBounds_toArray, List.set_cons_zero, List.set_cons_succ]), ⟨hr.bel, hr.cur, hr.own, hr.k6, hr.k7, hr.r2, hr.r3, hr.r4, hr.r5, hr.f0, hr.f1, (fun _ => rfl), hr.f3, hr.f4, hr.f5, hr.f6⟩⟩ (if_pos rfl) (fun j hj => if_neg hj)
    · obtain rfl := Option.some.inj ho
      clear hdep ho
      have q0 := hr.k6.cell 0 _ rfl
      have q1 := hr.k6.cell 1 _ rfl
      have q2 := hr.k6.cell 2 _ rfl
      have q3 := hr.k6.cell 3 _ rfl
      rw [if_pos (by rfl)]
      try simp only [Act.put, List.setIfInBounds_toArray, List.set_cons_zero, List.set_cons_succ]
      go_simp
      exact hK.out _ _ (fun j => if j = 3 then true else ℓ j) ⟨x15, x16, x17, crw k f t d, x19, x20, x21, (by simp only [Act.put, List.setIfInBounds_toArray, List.set_cons_zero, List.set_cons_succ]), ⟨hr.bel, hr.cur, hr.own, hr.k6, hr.k7, hr.r2, hr.r3, hr.r4, hr.r5, hr.f0, hr.f1, hr.f2, (fun _ => rfl), hr.f4, hr.f5, hr.f6⟩⟩ (if_pos rfl) (fun j hj => if_neg hj)
    · obtain rfl := Option.some.inj ho
      clear hdep ho
      rw [if_pos (by rfl)]
      try simp only [Act.put, List.setIfInBounds_toArray, List.set_cons_zero, List.set_cons_succ]
      go_simp
      exact hK.out _ _ (fun j => if j = 4 then true else ℓ j) ⟨x15, x16, x17, x18, .pointer (some ⟨P7, 0, none⟩), x20, x21, (by simp only [Act.put, List.setIfInBounds_toArray, List.set_cons_zero, List.set_cons_succ]), ⟨hr.bel, hr.cur, hr.own, hr.k6, hr.k7, hr.r2, hr.r3, hr.r4, hr.r5, hr.f0, hr.f1, hr.f2, hr.f3, (fun _ => rfl), hr.f5, hr.f6⟩⟩ (if_pos rfl) (fun j hj => if_neg hj)
    · obtain rfl := Option.some.inj ho
      have g4 : ℓ 4 = true := hdep { on := 4, ground := Ground.data } (by simp) rfl
      clear hdep ho
      obtain rfl := hr.f4 g4
      have q0 := hr.k7.cell 0 _ rfl
      rw [if_pos (by rfl)]
      try simp only [Act.put, List.setIfInBounds_toArray, List.set_cons_zero, List.set_cons_succ]
      go_simp
      exact hK.out _ _ (fun j => if j = 5 then true else ℓ j) ⟨x15, x16, x17, x18, .pointer (some ⟨P7, 0, none⟩), .int .i64 h, x21, (by simp only [Act.put, List.setIfInBounds_toArray, List.set_cons_zero, List.set_cons_succ]), ⟨hr.bel, hr.cur, hr.own, hr.k6, hr.k7, hr.r2, hr.r3, hr.r4, hr.r5, hr.f0, hr.f1, hr.f2, hr.f3, hr.f4, (fun _ => rfl), hr.f6⟩⟩ (if_pos rfl) (fun j hj => if_neg hj)
    · obtain rfl := Option.some.inj ho
      have g2 : ℓ 2 = true := hdep { on := 2, ground := Ground.data } (by simp) rfl
      have g3 : ℓ 3 = true := hdep { on := 3, ground := Ground.data } (by simp) rfl
      have g5 : ℓ 5 = true := hdep { on := 5, ground := Ground.data } (by simp) rfl
      clear hdep ho
      obtain rfl := hr.f2 g2
      obtain rfl := hr.f3 g3
      obtain rfl := hr.f5 g5
      have hl9 : ℓ 9 = false := by
        cases h7 : ℓ 9
        · rfl
        · have := hr.r5 h7; rw [this] at hL; cases hL
      rw [if_pos (by rfl)]
      try simp only [Act.put, List.setIfInBounds_toArray, List.set_cons_zero, List.set_cons_succ]
      go_simp
      refine Calls.mono (draw_in w' C a zs cap k f t d h hr.cur hh1 hh2) ?_
      rintro e w9 ⟨v2, ys, rfl, he1, he2, he3, hc9, ht9⟩
      have hr9 := hr.turn hC h6 h7 hc9 ht9
      obtain ⟨g2, c2, rfl, hcc⟩ := he2.shape he3 rfl
      exact hK.out _ _ (fun j => if j = 6 then true else ℓ j) ⟨x15, x16, .pointer (some ⟨C, 0, none⟩), crw k f t d, x19, .int .i64 h, ien (some ⟨g2, 0, none⟩) ys.length c2, (by simp only [Act.put, List.setIfInBounds_toArray, List.set_cons_zero, List.set_cons_succ]), ⟨hr9.bel, hr9.cur, hr9.own, hr9.k6, hr9.k7, hr9.r2, hr9.r3, hr9.r4, (fun g => by rw [hl9] at g; cases g), hr9.f0, hr9.f1, hr9.f2, hr9.f3, hr9.f4, hr9.f5, (fun _ => ⟨g2, ys.length, c2, ys, rfl, rfl, he1, he2.low hr.cur.lt, fun g => by rw [hl9] at g; cases g⟩)⟩⟩ (if_pos rfl) (fun j hj => if_neg hj)
    · obtain rfl := Option.some.inj ho
      have g0 : ℓ 0 = true := hdep { on := 0, ground := Ground.data } (by simp) rfl
      clear hdep ho
      obtain rfl := hr.f0 g0
      have kk : Bk w' (w.heap.size) (crow 0 0 0 0) := by have := hr.r2; rw [hL] at this; exact this
      have q0 := kk.cell 0 _ rfl
      have q1 := kk.cell 1 _ rfl
      have q2 := kk.cell 2 _ rfl
      have q3 := kk.cell 3 _ rfl
      have qf := kk.free
      have hrm : Room w w' ((((w'.setCell ⟨w.heap.size, 0, none⟩ (.int .i64 k)).setCell ⟨w.heap.size, 1, none⟩ (.int .i64 f)).setCell ⟨w.heap.size, 2, none⟩ (.int .i64 t)).setCell ⟨w.heap.size, 3, none⟩ (.int .i64 d)) C (w.heap.size) a zs cap := (Room.set (Room.set (Room.set (Room.set (Room.start hr.bel hr.cur) 0 (.int .i64 k) (by omega) (by omega) HAA.out) 1 (.int .i64 f) (by omega) (by omega) HAA.out) 2 (.int .i64 t) (by omega) (by omega) HAA.out) 3 (.int .i64 d) (by omega) (by omega) HAA.out)
      have hkn : Bk ((((w'.setCell ⟨w.heap.size, 0, none⟩ (.int .i64 k)).setCell ⟨w.heap.size, 1, none⟩ (.int .i64 f)).setCell ⟨w.heap.size, 2, none⟩ (.int .i64 t)).setCell ⟨w.heap.size, 3, none⟩ (.int .i64 d)) (w.heap.size) (crow k f t d) := ((((kk.set 0 (.int .i64 k) (by simp) (cs' := #[.int .i64 k, .int .i64 0, .int .i64 0, .int .i64 0]) rfl).set 1 (.int .i64 f) (by simp) (cs' := #[.int .i64 k, .int .i64 f, .int .i64 0, .int .i64 0]) rfl).set 2 (.int .i64 t) (by simp) (cs' := #[.int .i64 k, .int .i64 f, .int .i64 t, .int .i64 0]) rfl).set 3 (.int .i64 d) (by simp) (cs' := #[.int .i64 k, .int .i64 f, .int .i64 t, .int .i64 d]) rfl)
      rw [if_pos (by rfl)]
      try simp only [Act.put, List.setIfInBounds_toArray, List.set_cons_zero, List.set_cons_succ]
      go_simp
      exact hK.out _ _ (fun j => if j = 7 then true else ℓ j) ⟨crw k f t d, x16, x17, x18, x19, x20, x21, (by simp only [Act.put, List.setIfInBounds_toArray, List.set_cons_zero, List.set_cons_succ]), ⟨hrm.bel, hrm.cur, (hrm.ow _ _ hr.own), (hrm.bk _ _ (by omega) hr.k6), (hrm.bk _ _ (by omega) hr.k7), hkn, (hrm.bk _ _ (by omega) hr.r3), (fun e => hrm.bk _ _ (by omega) (hr.r4 e)), hr.r5, hr.f0, hr.f1, hr.f2, hr.f3, hr.f4, hr.f5, (fun e => by obtain ⟨g2, n2, c2, ys, e1, e2, e3, e4, e5⟩ := hr.f6 e; exact ⟨g2, n2, c2, ys, e1, e2, e3, hrm.ow _ _ e4, fun g => hrm.bk _ _ (by omega) (e5 g)⟩)⟩⟩ (if_pos rfl) (fun j hj => if_neg hj)
    · obtain rfl := Option.some.inj ho
      have gg1 : ℓ 1 = true := hdep { on := 1, ground := Ground.data } (by simp) rfl
      clear hdep ho
      obtain rfl := hr.f1 gg1
      have kk : Bk w' (w.heap.size + 1) (orow 0 none 0 0) := by have := hr.r3; rw [hL] at this; exact this
      have q0 := kk.cell 0 _ rfl
      have q1 := kk.cell 1 _ rfl
      have qf := kk.free
      have hrm : Room w w' ((w'.setCell ⟨w.heap.size + 1, 0, none⟩ (.int .i64 h)).setCell ⟨w.heap.size + 1, 1, none⟩ (.slice (some ⟨g1, 0, none⟩) n1 c1)) C (w.heap.size + 1) a zs cap := (Room.set (Room.set (Room.start hr.bel hr.cur) 0 (.int .i64 h) (by omega) (by omega) HAA.out) 1 (.slice (some ⟨g1, 0, none⟩) n1 c1) (by omega) (by omega) HAA.out)
      have hkn : Bk ((w'.setCell ⟨w.heap.size + 1, 0, none⟩ (.int .i64 h)).setCell ⟨w.heap.size + 1, 1, none⟩ (.slice (some ⟨g1, 0, none⟩) n1 c1)) (w.heap.size + 1) (orow h (some ⟨g1, 0, none⟩) n1 c1) := ((kk.set 0 (.int .i64 h) (by simp) (cs' := #[.int .i64 h, .slice none 0 0]) rfl).set 1 (.slice (some ⟨g1, 0, none⟩) n1 c1) (by simp) (cs' := #[.int .i64 h, .slice (some ⟨g1, 0, none⟩) n1 c1]) rfl)
      rw [if_pos (by rfl)]
      try simp only [Act.put, List.setIfInBounds_toArray, List.set_cons_zero, List.set_cons_succ]
      go_simp
      exact hK.out _ _ (fun j => if j = 8 then true else ℓ j) ⟨x15, oen h (some ⟨g1, 0, none⟩) n1 c1, x17, x18, x19, x20, x21, (by simp only [Act.put, List.setIfInBounds_toArray, List.set_cons_zero, List.set_cons_succ]), ⟨hrm.bel, hrm.cur, (hrm.ow _ _ hr.own), (hrm.bk _ _ (by omega) hr.k6), (hrm.bk _ _ (by omega) hr.k7), (hrm.bk _ _ (by omega) hr.r2), hkn, (fun e => hrm.bk _ _ (by omega) (hr.r4 e)), hr.r5, hr.f0, hr.f1, hr.f2, hr.f3, hr.f4, hr.f5, (fun e => by obtain ⟨g2, n2, c2, ys, e1, e2, e3, e4, e5⟩ := hr.f6 e; exact ⟨g2, n2, c2, ys, e1, e2, e3, hrm.ow _ _ e4, fun g => hrm.bk _ _ (by omega) (e5 g)⟩)⟩⟩ (if_pos rfl) (fun j hj => if_neg hj)
    · obtain rfl := Option.some.inj ho
      have g6 : ℓ 6 = true := hdep { on := 6, ground := Ground.data } (by simp) rfl
      clear hdep ho
      revert hK
      obtain ⟨g2, n2, c2, ys, rfl, e2, e3, e4, e5⟩ := hr.f6 g6
      intro hK
      have kk : Bk w' (w.heap.size + 2) (irow none 0 0) := hr.r4 hL
      have q0 := kk.cell 0 _ rfl
      have qf := kk.free
      have hrm : Room w w' (w'.setCell ⟨w.heap.size + 2, 0, none⟩ (.slice (some ⟨g2, 0, none⟩) n2 c2)) C (w.heap.size + 2) a zs cap := (Room.set (Room.start hr.bel hr.cur) 0 (.slice (some ⟨g2, 0, none⟩) n2 c2) (by omega) (by omega) HAA.out)
      have hkn : Bk (w'.setCell ⟨w.heap.size + 2, 0, none⟩ (.slice (some ⟨g2, 0, none⟩) n2 c2)) (w.heap.size + 2) (irow (some ⟨g2, 0, none⟩) n2 c2) := (kk.set 0 (.slice (some ⟨g2, 0, none⟩) n2 c2) (by simp) (cs' := #[.slice (some ⟨g2, 0, none⟩) n2 c2]) rfl)
      rw [if_pos (by rfl)]
      try simp only [Act.put, List.setIfInBounds_toArray, List.set_cons_zero, List.set_cons_succ]
      go_simp
      exact hK.out _ _ (fun j => if j = 9 then true else ℓ j) ⟨x15, x16, x17, x18, x19, x20, ien (some ⟨g2, 0, none⟩) n2 c2, (by simp only [Act.put, List.setIfInBounds_toArray, List.set_cons_zero, List.set_cons_succ]), ⟨hrm.bel, hrm.cur, (hrm.ow _ _ hr.own), (hrm.bk _ _ (by omega) hr.k6), (hrm.bk _ _ (by omega) hr.k7), (hrm.bk _ _ (by omega) hr.r2), (hrm.bk _ _ (by omega) hr.r3), (fun e => by cases e), (fun _ => g6), hr.f0, hr.f1, hr.f2, hr.f3, hr.f4, hr.f5, (fun _ => ⟨g2, n2, c2, ys, rfl, e2, e3, hrm.ow _ _ e4, fun _ => hkn⟩)⟩⟩ (if_pos rfl) (fun j hj => if_neg hj)
  · rintro a' w' ℓ ℓ' hℓ hI
    rw [← show ℓ = ℓ' from funext hℓ]
    exact hI
  · intro ℓ a' w' hI hall
    obtain ⟨x15, x16, x17, x18, x19, x20, x21, rfl, hr⟩ := hI
    have hall' : ∀ i, i < 10 → ℓ i = true := hall
    obtain ⟨g2, n2, c2, ys, rfl, e2, e3, e4, e5⟩ := hr.f6 (hall' 6 (by omega))
    have k4 := e5 (hall' 9 (by omega))
    have k2 := hr.r2
    have k3 := hr.r3
    rw [hall' 7 (by omega)] at k2
    rw [hall' 8 (by omega)] at k3
    have q20 := k2.cell 0 _ rfl
    have q21 := k2.cell 1 _ rfl
    have q22 := k2.cell 2 _ rfl
    have q23 := k2.cell 3 _ rfl
    have q30 := k3.cell 0 _ rfl
    have q31 := k3.cell 1 _ rfl
    have q40 := k4.cell 0 _ rfl
    have HR : Hid (DBP w (.returned (.tuple #[crw k f t d, oen h (some ⟨g1, 0, none⟩) n1 c1, ien (some ⟨g2, 0, none⟩) n2 c2])) w') := ⟨k, f, t, d, h, g1, n1, c1, g2, n2, c2, xs, ys, rfl, hr.bel, HN1.out.1, e2, HN1.out.2, e3, hhb, hdb, hr.own.segx, e4.segx⟩
    clear hr hall hall' k2 k3 k4 e2 e3 e4 e5
    simp only [Act.put, List.setIfInBounds_toArray, List.set_cons_zero, List.set_cons_succ]
    go_wp2
    exact bodyPost_ret (v := .tuple #[crw k f t d, oen h (some ⟨g1, 0, none⟩) n1 c1, ien (some ⟨g2, 0, none⟩) n2 c2]) (by simp [results, Try.results5, go_sem, q20, q21, q22, q23, q30, q31, q40]) rfl HR.out
set_option maxHeartbeats 2000000 in
theorem same_words (a b : Option Addr) (ca cb n : Nat) (xs : List Int) (w : World) (ha : Seg .u32 w a xs) (hb : Seg .u32 w b xs) (hl : xs.length = n) (hn : n ≤ 1048576) :
    Calls Try.prog 11 #[.slice a n ca, .slice b n cb] w fun e w' => e = .returned (.bool true) ∧ Below w.heap.size w w' := by
  have HA : Hid (Seg .u32 w a xs ∧ Seg .u32 w b xs) := And.intro ha hb
  clear ha hb
  have hnn : ((n : Int) != (n : Int)) = false := by simp
  go_enter Try.func11, Try.ntmps11
  go_wp2
  go_loopw [5] (fun i wr => ∃ j k : Nat, k ≤ n ∧ i = .int .i64 k ∧ wr = w.drewN j) (fun i _ => n - (intOf i).toNat)
  case atStart => exact ⟨0, 0, by omega, rfl, rfl⟩
  case round =>
    obtain ⟨j, k, hk, rfl, rfl⟩ := hrel
    by_cases hlt : k < n
    · have hlt' : (k : Int) < (n : Int) := by omega
      obtain ⟨b1, o1, rfl, hb1, h1⟩ := HA.out.1 (by omega)
      obtain ⟨b2, o2, rfl, hb2, h2⟩ := HA.out.2 (by omega)
      have c1 := h1 k (by omega)
      have c2 := h2 k (by omega)
      generalize xs.getD k 0 = x at c1 c2
      have hxx : (x != x) = false := by simp
      clear h1 h2
      go_wp2
      go_quiet (fail)
      go_wp2
      go_roundw
      case rel => exact ⟨_, k + 1, by omega, by go_num, rfl⟩
      case measure => simp [intOf]; omega
    · go_wp2
      go_ret
      exact ⟨rfl, ⟨rfl, rfl, rfl, Nat.le_refl _, fun _ _ => rfl⟩⟩
end Go.Proofs.Ytobgaakcinjnaaa
