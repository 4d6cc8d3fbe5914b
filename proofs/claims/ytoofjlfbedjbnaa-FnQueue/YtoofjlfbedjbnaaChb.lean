
/-
  The specification's Border: what the plain functions say, in memory of its own. Conditions: the words read as words, at most 1048576 of either and no more than the capacity.
-/
import Derived.Test.YtoofjlfbedjbnaaRows
import Derived.Test.YtoofjlfbedjbnaaChr
namespace Go.Proofs.Ytoofjlfbedjbnaa
open Go.ChangeShapes Go.WideShapes Go.ChangeAt Go.RowKit Go.Deep
set_option linter.unusedVariables false

/-- Border is right: both ends are, and no more is ready than held. -/
def borOk (k f t d h n m : Int) : Bool := outOk k f t d h n && inOk k f t d m && !(k == 1 && decide (h < m))
/-- What Border answers: Held, the words ready, the words that crossed. -/
def borF (k f t d h n m : Int) (zs rs : List Int) : Int × List Int × List Int :=
  if borOk k f t d h n m = true then (if k = 0 then (if n = 0 then (0, rs, []) else (0, zs, zs)) else (m + n, rs ++ zs, zs)) else (0, [], [])
/-- Two lists of one answer, each its own. -/
def OE2 (w : World) (base : Nat) (a1 : Option Addr) (ys : List Int) (a2 : Option Addr) (xs : List Int) : Prop :=
  ∃ l1 u1 l2 u2, OE w l1 u1 a1 ys ∧ OE w l2 u2 a2 xs ∧ base ≤ l1 ∧ l1 ≤ u1 ∧ u1 ≤ w.heap.size ∧ base ≤ l2 ∧ l2 ≤ u2 ∧ u2 ≤ w.heap.size ∧ (u1 ≤ l2 ∨ u2 ≤ l1)
theorem OE2.empty (w : World) (base : Nat) (a1 a2 : Option Addr) (h : base ≤ w.heap.size) : OE2 w base a1 [] a2 [] :=
  ⟨base, base, base, w.heap.size, OE.nil _ _ _ _, OE.nil _ _ _ _, Nat.le_refl _, Nat.le_refl _, h, Nat.le_refl _, h, Nat.le_refl _, .inl (Nat.le_refl _)⟩
theorem OE2.one {w : World} {base mid : Nat} {a1 a2 : Option Addr} {ys : List Int} (h : OE w base mid a1 ys) (h1 : base ≤ mid) (h2 : mid ≤ w.heap.size) : OE2 w base a1 ys a2 [] :=
  ⟨base, mid, mid, w.heap.size, h, OE.nil _ _ _ _, Nat.le_refl _, h1, h2, h1, h2, Nat.le_refl _, .inl (Nat.le_refl _)⟩
set_option maxRecDepth 20000 in
set_option maxHeartbeats 2000000 in
theorem spec_border (k f t d h : Int) (a : Option Addr) (n c : Nat) (ar : Option Addr) (m cr : Nat) (zs rs : List Int) (h' : Int) (ys xs : List Int) (w : World) (hs : Seg .u32 w a zs) (hl : zs.length = n) (hn : n ≤ 1048576) (hsr : Seg .u32 w ar rs) (hlr : rs.length = m) (hm : m ≤ 1048576) (HR : Hid (borF k f t d h (n : Int) (m : Int) zs rs = (h', ys, xs))) :
    Calls Try.prog 39 #[crw k f t d, oen h a n c, ien ar m cr] w fun e w' => ∃ a1 c1 a2 c2, e = .returned (.tuple #[oen h' none 0 0, ien a1 ys.length c1, .slice a2 xs.length c2]) ∧ Below w.heap.size w w' ∧ OE2 w' w.heap.size a1 ys a2 xs := by
  obtain ⟨q1, HQ1⟩ : ∃ q, Hid (outOk k f t d h (n : Int) = q) := ⟨_, rfl⟩
  obtain ⟨q2, HQ2⟩ : ∃ q, Hid (inOk k f t d (m : Int) = q) := ⟨_, rfl⟩
  have HS : Hid (Seg .u32 w a zs) := hs
  have HSr : Hid (Seg .u32 w ar rs) := hsr
  clear hs hsr
  have HB : Hid (Below w.heap.size w (((((w.alloc (.cells (crow k f t d) 25)).alloc (.cells (orow h a n c) 33)).alloc (.cells (irow ar m cr) 41)).alloc (.cells (orow 0 none 0 0) 33)).alloc (.cells (irow none 0 0) 41))) := (((((Below.refl _ w).alloc (Nat.le_refl _) _).alloc (by simp) _).alloc (by simp; omega) _).alloc (by simp; omega) _).alloc (by simp; omega) _
  have HK : Hid (Bk (((((w.alloc (.cells (crow k f t d) 25)).alloc (.cells (orow h a n c) 33)).alloc (.cells (irow ar m cr) 41)).alloc (.cells (orow 0 none 0 0) 33)).alloc (.cells (irow none 0 0) 41)) w.heap.size (crow k f t d) ∧ Bk (((((w.alloc (.cells (crow k f t d) 25)).alloc (.cells (orow h a n c) 33)).alloc (.cells (irow ar m cr) 41)).alloc (.cells (orow 0 none 0 0) 33)).alloc (.cells (irow none 0 0) 41)) (w.heap.size + 1) (orow h a n c) ∧ Bk (((((w.alloc (.cells (crow k f t d) 25)).alloc (.cells (orow h a n c) 33)).alloc (.cells (irow ar m cr) 41)).alloc (.cells (orow 0 none 0 0) 33)).alloc (.cells (irow none 0 0) 41)) (w.heap.size + 2) (irow ar m cr) ∧ Bk (((((w.alloc (.cells (crow k f t d) 25)).alloc (.cells (orow h a n c) 33)).alloc (.cells (irow ar m cr) 41)).alloc (.cells (orow 0 none 0 0) 33)).alloc (.cells (irow none 0 0) 41)) (w.heap.size + 3) (orow 0 none 0 0) ∧ Bk (((((w.alloc (.cells (crow k f t d) 25)).alloc (.cells (orow h a n c) 33)).alloc (.cells (irow ar m cr) 41)).alloc (.cells (orow 0 none 0 0) 33)).alloc (.cells (irow none 0 0) 41)) (w.heap.size + 4) (irow none 0 0)) := ⟨((((Bk.new w _ _ _ rfl).alloc _).alloc _).alloc _).alloc _, (((Bk.new _ _ _ _ (by simp)).alloc _).alloc _).alloc _, ((Bk.new _ _ _ _ (by simp)).alloc _).alloc _, (Bk.new _ _ _ _ (by simp)).alloc _, Bk.new _ _ _ _ (by simp)⟩
  have HE0 : Hid (q1 = false → h' = 0 ∧ ys = [] ∧ xs = []) := fun e => by
    have g := HR.out
    unfold borF borOk at g
    rw [HQ1.out, e, if_neg (by simp)] at g
    injection g with g1 g2; injection g2 with g2 g3
    exact ⟨g1.symm, g2.symm, g3.symm⟩
  have HE1 : Hid (q2 = false → h' = 0 ∧ ys = [] ∧ xs = []) := fun e => by
    have g := HR.out
    unfold borF borOk at g
    rw [HQ2.out, e, if_neg (by simp)] at g
    injection g with g1 g2; injection g2 with g2 g3
    exact ⟨g1.symm, g2.symm, g3.symm⟩
  have HE2 : Hid (q1 = true → q2 = true → k = 1 → h < (m : Int) → h' = 0 ∧ ys = [] ∧ xs = []) := fun e e2 e3 e4 => by
    have g := HR.out
    unfold borF borOk at g
    rw [if_neg (by simp [e3, e4])] at g
    injection g with g1 g2; injection g2 with g2 g3
    exact ⟨g1.symm, g2.symm, g3.symm⟩
  have HE3 : Hid (q1 = true → q2 = true → k = 0 → (n : Int) = 0 → h' = 0 ∧ ys = rs ∧ xs = []) := fun e e2 e3 e4 => by
    have g := HR.out
    unfold borF borOk at g
    rw [if_pos (by rw [HQ1.out, HQ2.out, e, e2, e3]; rfl), if_pos e3, if_pos e4] at g
    injection g with g1 g2; injection g2 with g2 g3
    exact ⟨g1.symm, g2.symm, g3.symm⟩
  have HE4 : Hid (q1 = true → q2 = true → k = 0 → ¬ (n : Int) = 0 → h' = 0 ∧ ys = zs ∧ xs = zs) := fun e e2 e3 e4 => by
    have g := HR.out
    unfold borF borOk at g
    rw [if_pos (by rw [HQ1.out, HQ2.out, e, e2, e3]; rfl), if_pos e3, if_neg e4] at g
    injection g with g1 g2; injection g2 with g2 g3
    exact ⟨g1.symm, g2.symm, g3.symm⟩
  have HE5 : Hid (q1 = true → q2 = true → k = 1 → ¬ h < (m : Int) → h' = (m : Int) + (n : Int) ∧ ys = rs ++ zs ∧ xs = zs) := fun e e2 e3 e4 => by
    have g := HR.out
    unfold borF borOk at g
    rw [if_pos (by rw [HQ1.out, HQ2.out, e, e2, e3, decide_eq_false e4]; rfl), if_neg (by rw [e3]; decide)] at g
    injection g with g1 g2; injection g2 with g2 g3
    exact ⟨g1.symm, g2.symm, g3.symm⟩
  have HN8 : Hid (q1 = true → q2 = true → (n : Int) ≤ 8 ∧ (m : Int) ≤ 8) := fun g g2 => by
    have h1 := HQ1.out.trans g
    have h2 := HQ2.out.trans g2
    rcases outOk_k h1 with ⟨rfl, rfl⟩ | ⟨rfl, a1, a2, a3, a4⟩
    · unfold outOk at h1; unfold inOk at h2
      rw [if_pos rfl] at h1 h2
      simp at h1 h2
      omega
    · unfold outOk at h1; unfold inOk at h2
      rw [if_neg (by decide)] at h1 h2
      simp at h1 h2
      omega
  have HKD : Hid (q1 = true → k = 0 ∨ k = 1) := fun g => (outOk_k (HQ1.out.trans g)).elim (fun h => .inl h.1) (fun h => .inr h.1)
  go_enter Try.func39, Try.ntmps39
  go_wp2_with fail
  refine (spec_outok k f t d h a n c q1 _ HQ1 hn).mono ?_
  rintro y w1 ⟨rfl, hb1⟩
  have HB1 : Hid (Below w.heap.size w w1) := HB.out.trans (hb1.mono HB.out.size)
  have K1 : Hid (Bk w1 w.heap.size (crow k f t d) ∧ Bk w1 (w.heap.size + 1) (orow h a n c) ∧ Bk w1 (w.heap.size + 2) (irow ar m cr) ∧ Bk w1 (w.heap.size + 3) (orow 0 none 0 0) ∧ Bk w1 (w.heap.size + 4) (irow none 0 0)) := ⟨HK.out.1.below hb1, HK.out.2.1.below hb1, HK.out.2.2.1.below hb1, HK.out.2.2.2.1.below hb1, HK.out.2.2.2.2.below hb1⟩
  clear HB HK hb1 HQ1
  have c0 := K1.out.1.cell 0 _ rfl
  have d0 := K1.out.2.1.cell 0 _ rfl
  have d1 := K1.out.2.1.cell 1 _ rfl
  have i0 := (show Bk w1 (w.heap.size + 1 + 1) _ from K1.out.2.2.1).cell 0 _ rfl
  have r0 := (show Bk w1 (w.heap.size + 1 + 1 + 1) _ from K1.out.2.2.2.1).cell 0 _ rfl
  have r1 := (show Bk w1 (w.heap.size + 1 + 1 + 1) _ from K1.out.2.2.2.1).cell 1 _ rfl
  have rf := (show Bk w1 (w.heap.size + 1 + 1 + 1) _ from K1.out.2.2.2.1).free
  have s0 := (show Bk w1 (w.heap.size + 1 + 1 + 1 + 1) _ from K1.out.2.2.2.2).cell 0 _ rfl
  have sf := (show Bk w1 (w.heap.size + 1 + 1 + 1 + 1) _ from K1.out.2.2.2.2).free
  have hz := K1.out.2.2.2.2.lt
  have hne3 : ¬ (w.heap.size + 1 + 1 + 1 = w1.heap.size) := by omega
  have hne4 : ¬ (w.heap.size + 1 + 1 + 1 + 1 = w1.heap.size) := by omega
  cases q1
  · obtain ⟨rfl, rfl, rfl⟩ : h' = 0 ∧ ys = [] ∧ xs = [] := HE0.out (by first | rfl | trivial)
    have k3 : Bk (w1.alloc (.cells #[] 48)) (w.heap.size + 1 + 1 + 1) (orow 0 none 0 0) := K1.out.2.2.2.1.alloc _
    have k4 : Bk (w1.alloc (.cells #[] 48)) (w.heap.size + 1 + 1 + 1 + 1) (irow none 0 0) := K1.out.2.2.2.2.alloc _
    have y0 : (w1.alloc (.cells #[] 48)).cell? ⟨w.heap.size + 1 + 1 + 1, 0, none⟩ = some (.int .i64 0) := k3.cell 0 _ rfl
    have y1 : (w1.alloc (.cells #[] 48)).cell? ⟨w.heap.size + 1 + 1 + 1, 1, none⟩ = some (.slice none 0 0) := k3.cell 1 _ rfl
    have yf := k3.free
    have z0 : (w1.alloc (.cells #[] 48)).cell? ⟨w.heap.size + 1 + 1 + 1 + 1, 0, none⟩ = some (.slice none 0 0) := k4.cell 0 _ rfl
    have zf := k4.free
    have t3 : Betw (w.heap.size + 1 + 1 + 1) (w.heap.size + 1 + 1 + 1 + 1) (w1.alloc (.cells #[] 48)) (((w1.alloc (.cells #[] 48)).setCell ⟨w.heap.size + 1 + 1 + 1, 0, none⟩ (.int .i64 0)).setCell ⟨w.heap.size + 1 + 1 + 1, 1, none⟩ (.slice none 0 0)) := ((Betw.refl (w.heap.size + 1 + 1 + 1) (w.heap.size + 1 + 1 + 1 + 1) _).setCell (p := ⟨w.heap.size + 1 + 1 + 1, 0, none⟩) (by simp) (by simp) _).setCell (p := ⟨w.heap.size + 1 + 1 + 1, 1, none⟩) (by simp) (by simp) _
    have t4 : Betw (w.heap.size + 1 + 1 + 1 + 1) (w.heap.size + 1 + 1 + 1 + 1 + 1) (((w1.alloc (.cells #[] 48)).setCell ⟨w.heap.size + 1 + 1 + 1, 0, none⟩ (.int .i64 0)).setCell ⟨w.heap.size + 1 + 1 + 1, 1, none⟩ (.slice none 0 0)) ((((w1.alloc (.cells #[] 48)).setCell ⟨w.heap.size + 1 + 1 + 1, 0, none⟩ (.int .i64 0)).setCell ⟨w.heap.size + 1 + 1 + 1, 1, none⟩ (.slice none 0 0)).setCell ⟨w.heap.size + 1 + 1 + 1 + 1, 0, none⟩ (.slice none 0 0)) := (Betw.refl (w.heap.size + 1 + 1 + 1 + 1) (w.heap.size + 1 + 1 + 1 + 1 + 1) _).setCell (p := ⟨w.heap.size + 1 + 1 + 1 + 1, 0, none⟩) (by simp) (by simp) _
    have k5 : Hid (Bk ((((w1.alloc (.cells #[] 48)).setCell ⟨w.heap.size + 1 + 1 + 1, 0, none⟩ (.int .i64 0)).setCell ⟨w.heap.size + 1 + 1 + 1, 1, none⟩ (.slice none 0 0)).setCell ⟨w.heap.size + 1 + 1 + 1 + 1, 0, none⟩ (.slice none 0 0)) (w.heap.size + 1 + 1 + 1) (orow 0 none 0 0)) := Bk.betw ((k3.set 0 (.int .i64 0) (by simp) (cs' := orow 0 none 0 0) rfl).set 1 _ (by simp) rfl) t4 (.inl (by omega))
    have k6 : Hid (Bk ((((w1.alloc (.cells #[] 48)).setCell ⟨w.heap.size + 1 + 1 + 1, 0, none⟩ (.int .i64 0)).setCell ⟨w.heap.size + 1 + 1 + 1, 1, none⟩ (.slice none 0 0)).setCell ⟨w.heap.size + 1 + 1 + 1 + 1, 0, none⟩ (.slice none 0 0)) (w.heap.size + 1 + 1 + 1 + 1) (irow none 0 0)) := (Bk.betw k4 t3 (.inr (by omega))).set 0 _ (by simp) rfl
    have xa : Below w.heap.size w (w1.alloc (.cells #[] 48)) := HB1.out.alloc HB1.out.size _
    have xb : Below w.heap.size w (((w1.alloc (.cells #[] 48)).setCell ⟨w.heap.size + 1 + 1 + 1, 0, none⟩ (.int .i64 0)).setCell ⟨w.heap.size + 1 + 1 + 1, 1, none⟩ (.slice none 0 0)) := xa.trans (t3.below (by omega) xa.size)
    have x2 : Hid (Below w.heap.size w ((((w1.alloc (.cells #[] 48)).setCell ⟨w.heap.size + 1 + 1 + 1, 0, none⟩ (.int .i64 0)).setCell ⟨w.heap.size + 1 + 1 + 1, 1, none⟩ (.slice none 0 0)).setCell ⟨w.heap.size + 1 + 1 + 1 + 1, 0, none⟩ (.slice none 0 0))) := xb.trans (t4.below (by omega) xb.size)
    clear k3 k4 t3 t4 xa xb r0 r1 rf s0 sf hne3 hne4
    go_wp2
    clear y0 y1 yf z0 zf
    revert k5 k6 x2
    generalize ((((w1.alloc (.cells #[] 48)).setCell ⟨w.heap.size + 1 + 1 + 1, 0, none⟩ (.int .i64 0)).setCell ⟨w.heap.size + 1 + 1 + 1, 1, none⟩ (.slice none 0 0)).setCell ⟨w.heap.size + 1 + 1 + 1 + 1, 0, none⟩ (.slice none 0 0)) = Wf
    intro k5 k6 x2
    have p0 := k5.out.cell 0 _ rfl
    have p1 := k5.out.cell 1 _ rfl
    have p2 := k6.out.cell 0 _ rfl
    exact bodyPost_ret (v := .tuple #[oen 0 none 0 0, ien none 0 0, .slice (some ⟨w1.heap.size, 0, none⟩) 0 0]) (by simp [results, Try.results39, go_sem, p0, p1, p2]) rfl ⟨none, 0, _, 0, rfl, x2.out, OE2.empty _ _ _ _ x2.out.size⟩
  have c1 := K1.out.1.cell 1 _ rfl
  have c2 := K1.out.1.cell 2 _ rfl
  have c3 := K1.out.1.cell 3 _ rfl
  have r2 := (show Bk w1 (w.heap.size + 1 + 1) _ from K1.out.2.2.1).cell 0 _ rfl
  go_wp2_with fail
  refine (spec_inok k f t d ar m cr q2 _ HQ2).mono ?_
  rintro y w2 ⟨rfl, hb2⟩
  have HB2 : Hid (Below w.heap.size w w2) := HB1.out.trans (hb2.mono HB1.out.size)
  have K2 : Hid (Bk w2 w.heap.size (crow k f t d) ∧ Bk w2 (w.heap.size + 1) (orow h a n c) ∧ Bk w2 (w.heap.size + 2) (irow ar m cr) ∧ Bk w2 (w.heap.size + 3) (orow 0 none 0 0) ∧ Bk w2 (w.heap.size + 4) (irow none 0 0)) := ⟨K1.out.1.below hb2, K1.out.2.1.below hb2, K1.out.2.2.1.below hb2, K1.out.2.2.2.1.below hb2, K1.out.2.2.2.2.below hb2⟩
  clear HB1 K1 hb2 HQ2 c0 c1 c2 c3 d0 d1 i0 r0 r1 rf s0 sf hne3 hne4 r2 hz
  have c0 := K2.out.1.cell 0 _ rfl
  have d0 := K2.out.2.1.cell 0 _ rfl
  have d1 := K2.out.2.1.cell 1 _ rfl
  have i0 := (show Bk w2 (w.heap.size + 1 + 1) _ from K2.out.2.2.1).cell 0 _ rfl
  cases q2
  · obtain ⟨rfl, rfl, rfl⟩ : h' = 0 ∧ ys = [] ∧ xs = [] := HE1.out (by first | rfl | trivial)
    have k3 : Bk (w2.alloc (.cells #[] 48)) (w.heap.size + 1 + 1 + 1) (orow 0 none 0 0) := K2.out.2.2.2.1.alloc _
    have k4 : Bk (w2.alloc (.cells #[] 48)) (w.heap.size + 1 + 1 + 1 + 1) (irow none 0 0) := K2.out.2.2.2.2.alloc _
    have y0 : (w2.alloc (.cells #[] 48)).cell? ⟨w.heap.size + 1 + 1 + 1, 0, none⟩ = some (.int .i64 0) := k3.cell 0 _ rfl
    have y1 : (w2.alloc (.cells #[] 48)).cell? ⟨w.heap.size + 1 + 1 + 1, 1, none⟩ = some (.slice none 0 0) := k3.cell 1 _ rfl
    have yf := k3.free
    have z0 : (w2.alloc (.cells #[] 48)).cell? ⟨w.heap.size + 1 + 1 + 1 + 1, 0, none⟩ = some (.slice none 0 0) := k4.cell 0 _ rfl
    have zf := k4.free
    have t3 : Betw (w.heap.size + 1 + 1 + 1) (w.heap.size + 1 + 1 + 1 + 1) (w2.alloc (.cells #[] 48)) (((w2.alloc (.cells #[] 48)).setCell ⟨w.heap.size + 1 + 1 + 1, 0, none⟩ (.int .i64 0)).setCell ⟨w.heap.size + 1 + 1 + 1, 1, none⟩ (.slice none 0 0)) := ((Betw.refl (w.heap.size + 1 + 1 + 1) (w.heap.size + 1 + 1 + 1 + 1) _).setCell (p := ⟨w.heap.size + 1 + 1 + 1, 0, none⟩) (by simp) (by simp) _).setCell (p := ⟨w.heap.size + 1 + 1 + 1, 1, none⟩) (by simp) (by simp) _
    have t4 : Betw (w.heap.size + 1 + 1 + 1 + 1) (w.heap.size + 1 + 1 + 1 + 1 + 1) (((w2.alloc (.cells #[] 48)).setCell ⟨w.heap.size + 1 + 1 + 1, 0, none⟩ (.int .i64 0)).setCell ⟨w.heap.size + 1 + 1 + 1, 1, none⟩ (.slice none 0 0)) ((((w2.alloc (.cells #[] 48)).setCell ⟨w.heap.size + 1 + 1 + 1, 0, none⟩ (.int .i64 0)).setCell ⟨w.heap.size + 1 + 1 + 1, 1, none⟩ (.slice none 0 0)).setCell ⟨w.heap.size + 1 + 1 + 1 + 1, 0, none⟩ (.slice none 0 0)) := (Betw.refl (w.heap.size + 1 + 1 + 1 + 1) (w.heap.size + 1 + 1 + 1 + 1 + 1) _).setCell (p := ⟨w.heap.size + 1 + 1 + 1 + 1, 0, none⟩) (by simp) (by simp) _
    have k5 : Hid (Bk ((((w2.alloc (.cells #[] 48)).setCell ⟨w.heap.size + 1 + 1 + 1, 0, none⟩ (.int .i64 0)).setCell ⟨w.heap.size + 1 + 1 + 1, 1, none⟩ (.slice none 0 0)).setCell ⟨w.heap.size + 1 + 1 + 1 + 1, 0, none⟩ (.slice none 0 0)) (w.heap.size + 1 + 1 + 1) (orow 0 none 0 0)) := Bk.betw ((k3.set 0 (.int .i64 0) (by simp) (cs' := orow 0 none 0 0) rfl).set 1 _ (by simp) rfl) t4 (.inl (by omega))
    have k6 : Hid (Bk ((((w2.alloc (.cells #[] 48)).setCell ⟨w.heap.size + 1 + 1 + 1, 0, none⟩ (.int .i64 0)).setCell ⟨w.heap.size + 1 + 1 + 1, 1, none⟩ (.slice none 0 0)).setCell ⟨w.heap.size + 1 + 1 + 1 + 1, 0, none⟩ (.slice none 0 0)) (w.heap.size + 1 + 1 + 1 + 1) (irow none 0 0)) := (Bk.betw k4 t3 (.inr (by omega))).set 0 _ (by simp) rfl
    have xa : Below w.heap.size w (w2.alloc (.cells #[] 48)) := HB2.out.alloc HB2.out.size _
    have xb : Below w.heap.size w (((w2.alloc (.cells #[] 48)).setCell ⟨w.heap.size + 1 + 1 + 1, 0, none⟩ (.int .i64 0)).setCell ⟨w.heap.size + 1 + 1 + 1, 1, none⟩ (.slice none 0 0)) := xa.trans (t3.below (by omega) xa.size)
    have x2 : Hid (Below w.heap.size w ((((w2.alloc (.cells #[] 48)).setCell ⟨w.heap.size + 1 + 1 + 1, 0, none⟩ (.int .i64 0)).setCell ⟨w.heap.size + 1 + 1 + 1, 1, none⟩ (.slice none 0 0)).setCell ⟨w.heap.size + 1 + 1 + 1 + 1, 0, none⟩ (.slice none 0 0))) := xb.trans (t4.below (by omega) xb.size)
    clear k3 k4 t3 t4 xa xb 
    go_wp2
    clear y0 y1 yf z0 zf
    revert k5 k6 x2
    generalize ((((w2.alloc (.cells #[] 48)).setCell ⟨w.heap.size + 1 + 1 + 1, 0, none⟩ (.int .i64 0)).setCell ⟨w.heap.size + 1 + 1 + 1, 1, none⟩ (.slice none 0 0)).setCell ⟨w.heap.size + 1 + 1 + 1 + 1, 0, none⟩ (.slice none 0 0)) = Wf
    intro k5 k6 x2
    have p0 := k5.out.cell 0 _ rfl
    have p1 := k5.out.cell 1 _ rfl
    have p2 := k6.out.cell 0 _ rfl
    exact bodyPost_ret (v := .tuple #[oen 0 none 0 0, ien none 0 0, .slice (some ⟨w2.heap.size, 0, none⟩) 0 0]) (by simp [results, Try.results39, go_sem, p0, p1, p2]) rfl ⟨none, 0, _, 0, rfl, x2.out, OE2.empty _ _ _ _ x2.out.size⟩
  rcases HKD.out (by first | rfl | trivial) with rfl | rfl
  · by_cases hn0 : (n : Int) = 0
    · obtain ⟨g1, g2, g3⟩ : h' = 0 ∧ ys = rs ∧ xs = [] := HE3.out (by first | rfl | trivial) (by first | rfl | trivial) rfl hn0
      subst g1 g2 g3
      have hnb : ((n : Int) == 0) = true := by simp [hn0]
      go_wp2_with fail
      refine Calls.mono (spec_list ar m cr ys w2 (HSr.out.below HB2.out) hlr hm) ?_
      rintro y w3 ⟨v, rfl, hb3, ho3, hv3⟩
      have hz2 := K2.out.2.2.2.2.lt
      have hz3 := hb3.size
      obtain ⟨a1, c1, e1, o1⟩ := OwnU.oe ho3
      subst e1
      have HB3 : Hid (Below w.heap.size w w3) := HB2.out.trans (hb3.mono HB2.out.size)
      have k3 : Bk (w3.alloc (.cells #[] 48)) (w.heap.size + 1 + 1 + 1) (orow 0 none 0 0) := (K2.out.2.2.2.1.below hb3).alloc _
      have k4 : Bk (w3.alloc (.cells #[] 48)) (w.heap.size + 1 + 1 + 1 + 1) (irow none 0 0) := (K2.out.2.2.2.2.below hb3).alloc _
      have y0 : (w3.alloc (.cells #[] 48)).cell? ⟨w.heap.size + 1 + 1 + 1, 0, none⟩ = some (.int .i64 0) := k3.cell 0 _ rfl
      have y1 : (w3.alloc (.cells #[] 48)).cell? ⟨w.heap.size + 1 + 1 + 1, 1, none⟩ = some (.slice none 0 0) := k3.cell 1 _ rfl
      have yf := k3.free
      have z0 : (w3.alloc (.cells #[] 48)).cell? ⟨w.heap.size + 1 + 1 + 1 + 1, 0, none⟩ = some (.slice none 0 0) := k4.cell 0 _ rfl
      have zf := k4.free
      have t3 : Betw (w.heap.size + 1 + 1 + 1) (w.heap.size + 1 + 1 + 1 + 1) (w3.alloc (.cells #[] 48)) (((w3.alloc (.cells #[] 48)).setCell ⟨w.heap.size + 1 + 1 + 1, 0, none⟩ (.int .i64 0)).setCell ⟨w.heap.size + 1 + 1 + 1, 1, none⟩ (.slice none 0 0)) := ((Betw.refl (w.heap.size + 1 + 1 + 1) (w.heap.size + 1 + 1 + 1 + 1) _).setCell (p := ⟨w.heap.size + 1 + 1 + 1, 0, none⟩) (by simp) (by simp) _).setCell (p := ⟨w.heap.size + 1 + 1 + 1, 1, none⟩) (by simp) (by simp) _
      have t4 : Betw (w.heap.size + 1 + 1 + 1 + 1) (w.heap.size + 1 + 1 + 1 + 1 + 1) (((w3.alloc (.cells #[] 48)).setCell ⟨w.heap.size + 1 + 1 + 1, 0, none⟩ (.int .i64 0)).setCell ⟨w.heap.size + 1 + 1 + 1, 1, none⟩ (.slice none 0 0)) ((((w3.alloc (.cells #[] 48)).setCell ⟨w.heap.size + 1 + 1 + 1, 0, none⟩ (.int .i64 0)).setCell ⟨w.heap.size + 1 + 1 + 1, 1, none⟩ (.slice none 0 0)).setCell ⟨w.heap.size + 1 + 1 + 1 + 1, 0, none⟩ (.slice a1 ys.length c1)) := (Betw.refl (w.heap.size + 1 + 1 + 1 + 1) (w.heap.size + 1 + 1 + 1 + 1 + 1) _).setCell (p := ⟨w.heap.size + 1 + 1 + 1 + 1, 0, none⟩) (by simp) (by simp) _
      have k5 : Hid (Bk ((((w3.alloc (.cells #[] 48)).setCell ⟨w.heap.size + 1 + 1 + 1, 0, none⟩ (.int .i64 0)).setCell ⟨w.heap.size + 1 + 1 + 1, 1, none⟩ (.slice none 0 0)).setCell ⟨w.heap.size + 1 + 1 + 1 + 1, 0, none⟩ (.slice a1 ys.length c1)) (w.heap.size + 1 + 1 + 1) (orow 0 none 0 0)) := Bk.betw ((k3.set 0 (.int .i64 0) (by simp) (cs' := orow 0 none 0 0) rfl).set 1 _ (by simp) rfl) t4 (.inl (by omega))
      have k6 : Hid (Bk ((((w3.alloc (.cells #[] 48)).setCell ⟨w.heap.size + 1 + 1 + 1, 0, none⟩ (.int .i64 0)).setCell ⟨w.heap.size + 1 + 1 + 1, 1, none⟩ (.slice none 0 0)).setCell ⟨w.heap.size + 1 + 1 + 1 + 1, 0, none⟩ (.slice a1 ys.length c1)) (w.heap.size + 1 + 1 + 1 + 1) (irow a1 ys.length c1)) := (Bk.betw k4 t3 (.inr (by omega))).set 0 _ (by simp) rfl
      have xa : Below w.heap.size w (w3.alloc (.cells #[] 48)) := HB3.out.alloc HB3.out.size _
      have xb : Below w.heap.size w (((w3.alloc (.cells #[] 48)).setCell ⟨w.heap.size + 1 + 1 + 1, 0, none⟩ (.int .i64 0)).setCell ⟨w.heap.size + 1 + 1 + 1, 1, none⟩ (.slice none 0 0)) := xa.trans (t3.below (by omega) xa.size)
      have x2 : Hid (Below w.heap.size w ((((w3.alloc (.cells #[] 48)).setCell ⟨w.heap.size + 1 + 1 + 1, 0, none⟩ (.int .i64 0)).setCell ⟨w.heap.size + 1 + 1 + 1, 1, none⟩ (.slice none 0 0)).setCell ⟨w.heap.size + 1 + 1 + 1 + 1, 0, none⟩ (.slice a1 ys.length c1))) := xb.trans (t4.below (by omega) xb.size)
      have o2 : Hid (OE ((((w3.alloc (.cells #[] 48)).setCell ⟨w.heap.size + 1 + 1 + 1, 0, none⟩ (.int .i64 0)).setCell ⟨w.heap.size + 1 + 1 + 1, 1, none⟩ (.slice none 0 0)).setCell ⟨w.heap.size + 1 + 1 + 1 + 1, 0, none⟩ (.slice a1 ys.length c1)) w.heap.size w3.heap.size a1 ys) := OE.wide (((o1.below ((Below.refl _ _).alloc (Nat.le_refl _) _)).betw t3 (.inr (by omega))).betw t4 (.inr (by omega))) (by omega) (Nat.le_refl _)
      have hwa : w3.heap.size ≤ (w3.alloc (.cells #[] 48)).heap.size := by simp
      have hzx := Nat.le_trans hwa (Nat.le_trans t3.size t4.size)
      have hzw := HB3.out.size
      clear k3 k4 t3 t4 xa xb o1 ho3 hv3 hb3 c0 d0 d1 i0 K2 hlr
      go_wp2
      clear y0 y1 yf z0 zf
      revert k5 k6 x2 o2 hzx
      generalize ((((w3.alloc (.cells #[] 48)).setCell ⟨w.heap.size + 1 + 1 + 1, 0, none⟩ (.int .i64 0)).setCell ⟨w.heap.size + 1 + 1 + 1, 1, none⟩ (.slice none 0 0)).setCell ⟨w.heap.size + 1 + 1 + 1 + 1, 0, none⟩ (.slice a1 ys.length c1)) = Wf
      intro k5 k6 x2 o2 hzx
      have p0 := k5.out.cell 0 _ rfl
      have p1 := k5.out.cell 1 _ rfl
      have p2 := k6.out.cell 0 _ rfl
      exact bodyPost_ret (v := .tuple #[oen 0 none 0 0, ien a1 ys.length c1, .slice (some ⟨w3.heap.size, 0, none⟩) 0 0]) (by simp [results, Try.results39, go_sem, p0, p1, p2]) rfl ⟨a1, c1, _, 0, rfl, x2.out, OE2.one o2.out hzw hzx⟩
    · obtain ⟨g1, g2, g3⟩ : h' = 0 ∧ ys = zs ∧ xs = zs := HE4.out (by first | rfl | trivial) (by first | rfl | trivial) rfl hn0
      subst g1
      have G : Hid (ys = zs ∧ xs = zs) := ⟨g2, g3⟩
      clear g2 g3 HE0 HE1 HE2 HE3 HE4 HE5 HKD HR
      have hnb : ((n : Int) == 0) = false := beq_eq_false_iff_ne.2 hn0
      have HL : Hid (zs.length = n) := hl
      clear hl hlr
      have LS : Hid (∀ X, Below w2.heap.size w2 X → Calls Try.prog 66 #[.slice a n c] X fun e w' => ∃ g cp, e = .returned (.slice (some ⟨g, 0, none⟩) zs.length cp) ∧ Below X.heap.size X w' ∧ OE w' X.heap.size w'.heap.size (some ⟨g, 0, none⟩) zs) := fun X hX => by
        refine (spec_list a n c zs X (HS.out.below (HB2.out.trans (hX.mono HB2.out.size))) HL.out hn).mono ?_
        rintro e w' ⟨v, h1, h2, h3, h4⟩
        obtain ⟨a', c', e', g⟩ := OwnU.oe h3
        rcases h3.2 with ⟨g, _⟩ | ⟨g, cp, cur, e2, _⟩
        · exact absurd g h4
        · have e3 := e'.symm.trans e2
          injection e3 with e3 e4 e5
          subst e3 e5
          exact ⟨_, _, by rw [h1, e'], h2, g⟩
      have D1 : Hid (w2.cell? ⟨w.heap.size + 1, 1, none⟩ = some (.slice a n c)) := d1
      have R0 : Hid (w2.cell? ⟨w.heap.size + 1 + 1 + 1, 0, none⟩ = some (.int .i64 0)) := K2.out.2.2.2.1.cell 0 _ rfl
      have R1 : Hid (w2.cell? ⟨w.heap.size + 1 + 1 + 1, 1, none⟩ = some (.slice none 0 0)) := K2.out.2.2.2.1.cell 1 _ rfl
      have S0 : Hid (w2.cell? ⟨w.heap.size + 1 + 1 + 1 + 1, 0, none⟩ = some (.slice none 0 0)) := K2.out.2.2.2.2.cell 0 _ rfl
      clear d1
      have d1 := D1.out
      have r0 := R0.out
      have r1 := R1.out
      have s0 := S0.out
      have rf := Bk.free (show Bk w2 (w.heap.size + 1 + 1 + 1) _ from K2.out.2.2.2.1)
      have sf := Bk.free (show Bk w2 (w.heap.size + 1 + 1 + 1 + 1) _ from K2.out.2.2.2.2)
      have hb : Below w2.heap.size w2 w2 := Below.refl _ _
      have hz2 := K2.out.2.2.2.2.lt
      have hzw := HB2.out.size
      go_wp2
      go_region_held_law (fun w' => w'.cell? ⟨w.heap.size + 1, 1, none⟩ = some (.slice a n c)) (first | with_reducible exact d1 | with_reducible exact dr_c d1 | with_reducible exact st1 (by omega) d1 | with_reducible exact st2 (by omega) d1 | with_reducible exact st1 (by omega) (st2 (by omega) d1))
        (first | (go_at_call 66; first
          | (have hh := HO3; clear hh; refine Calls.mono (LS.out _ (by first | exact hb | exact hb.drew)) ?_; rintro u w4 ⟨g4, cp4, rfl, hbb, ho4⟩; (first | replace hb := hb.trans (hbb.mono hb.size) | replace hb := hb.drew.trans (hbb.mono hb.drew.size)); replace d1 := kept_c hb D1.out; replace r0 := kept_c hb R0.out; replace r1 := kept_c hb R1.out; replace s0 := kept_c hb S0.out; replace rf := Bk.free (show Bk w4 (w.heap.size + 1 + 1 + 1) _ from K2.out.2.2.2.1.below hb); replace sf := Bk.free (show Bk w4 (w.heap.size + 1 + 1 + 1 + 1) _ from K2.out.2.2.2.2.below hb); have HO4 : Hid (OE w4 w3.heap.size w4.heap.size (some ⟨g4, 0, none⟩) zs) := OE.wide ho4 (by first | exact Nat.le_refl _ | simp) (Nat.le_refl _); replace HO3 : Hid (OE w4 w2.heap.size w3.heap.size (some ⟨g3, 0, none⟩) zs) := OE.below HO3.out hbb; have hz4 := hbb.size; clear hbb ho4)
          | (refine Calls.mono (LS.out _ (by first | exact hb | exact hb.drew)) ?_; rintro u w3 ⟨g3, cp3, rfl, hbb, ho3⟩; (first | replace hb := hb.trans (hbb.mono hb.size) | replace hb := hb.drew.trans (hbb.mono hb.drew.size)); replace d1 := kept_c hb D1.out; replace r0 := kept_c hb R0.out; replace r1 := kept_c hb R1.out; replace s0 := kept_c hb S0.out; replace rf := Bk.free (show Bk w3 (w.heap.size + 1 + 1 + 1) _ from K2.out.2.2.2.1.below hb); replace sf := Bk.free (show Bk w3 (w.heap.size + 1 + 1 + 1 + 1) _ from K2.out.2.2.2.2.below hb); have HO3 : Hid (OE w3 w2.heap.size w3.heap.size (some ⟨g3, 0, none⟩) zs) := OE.wide ho3 (by first | exact Nat.le_refl _ | simp) (Nat.le_refl _); have hz3 := hb.size; clear hbb ho3)))
      all_goals
        have k3 : Bk w4 (w.heap.size + 1 + 1 + 1) (orow 0 none 0 0) := K2.out.2.2.2.1.below hb
        have k4 : Bk w4 (w.heap.size + 1 + 1 + 1 + 1) (irow none 0 0) := K2.out.2.2.2.2.below hb
        have xa : Below w.heap.size w w4 := HB2.out.trans (hb.mono HB2.out.size)
        have t3 : Betw (w.heap.size + 1 + 1 + 1) (w.heap.size + 1 + 1 + 1 + 1) w4 ((w4.setCell ⟨w.heap.size + 1 + 1 + 1, 0, none⟩ (.int .i64 0)).setCell ⟨w.heap.size + 1 + 1 + 1, 1, none⟩ (.slice none 0 0)) := ((Betw.refl (w.heap.size + 1 + 1 + 1) (w.heap.size + 1 + 1 + 1 + 1) _).setCell (p := ⟨w.heap.size + 1 + 1 + 1, 0, none⟩) (by simp) (by simp) _).setCell (p := ⟨w.heap.size + 1 + 1 + 1, 1, none⟩) (by simp) (by simp) _
        rename_i hhh
        try clear hhh
        clear LS R0 R1 S0
        first
        | (have t4 : Betw (w.heap.size + 1 + 1 + 1 + 1) (w.heap.size + 1 + 1 + 1 + 1 + 1) ((w4.setCell ⟨w.heap.size + 1 + 1 + 1, 0, none⟩ (.int .i64 0)).setCell ⟨w.heap.size + 1 + 1 + 1, 1, none⟩ (.slice none 0 0)) (((w4.setCell ⟨w.heap.size + 1 + 1 + 1, 0, none⟩ (.int .i64 0)).setCell ⟨w.heap.size + 1 + 1 + 1, 1, none⟩ (.slice none 0 0)).setCell ⟨w.heap.size + 1 + 1 + 1 + 1, 0, none⟩ (.slice (some ⟨g3, 0, none⟩) zs.length cp3)) := (Betw.refl (w.heap.size + 1 + 1 + 1 + 1) (w.heap.size + 1 + 1 + 1 + 1 + 1) _).setCell (p := ⟨w.heap.size + 1 + 1 + 1 + 1, 0, none⟩) (by simp) (by simp) _
           have k5 : Hid (Bk (((w4.setCell ⟨w.heap.size + 1 + 1 + 1, 0, none⟩ (.int .i64 0)).setCell ⟨w.heap.size + 1 + 1 + 1, 1, none⟩ (.slice none 0 0)).setCell ⟨w.heap.size + 1 + 1 + 1 + 1, 0, none⟩ (.slice (some ⟨g3, 0, none⟩) zs.length cp3)) (w.heap.size + 1 + 1 + 1) (orow 0 none 0 0)) := Bk.betw ((k3.set 0 (.int .i64 0) (by simp) (cs' := orow 0 none 0 0) rfl).set 1 _ (by simp) rfl) t4 (.inl (by omega))
           have k6 : Hid (Bk (((w4.setCell ⟨w.heap.size + 1 + 1 + 1, 0, none⟩ (.int .i64 0)).setCell ⟨w.heap.size + 1 + 1 + 1, 1, none⟩ (.slice none 0 0)).setCell ⟨w.heap.size + 1 + 1 + 1 + 1, 0, none⟩ (.slice (some ⟨g3, 0, none⟩) zs.length cp3)) (w.heap.size + 1 + 1 + 1 + 1) (irow (some ⟨g3, 0, none⟩) zs.length cp3)) := (Bk.betw k4 t3 (.inr (by omega))).set 0 _ (by simp) rfl
           have xb : Below w.heap.size w ((w4.setCell ⟨w.heap.size + 1 + 1 + 1, 0, none⟩ (.int .i64 0)).setCell ⟨w.heap.size + 1 + 1 + 1, 1, none⟩ (.slice none 0 0)) := xa.trans (t3.below (by omega) xa.size)
           have x2 : Hid (Below w.heap.size w (((w4.setCell ⟨w.heap.size + 1 + 1 + 1, 0, none⟩ (.int .i64 0)).setCell ⟨w.heap.size + 1 + 1 + 1, 1, none⟩ (.slice none 0 0)).setCell ⟨w.heap.size + 1 + 1 + 1 + 1, 0, none⟩ (.slice (some ⟨g3, 0, none⟩) zs.length cp3))) := xb.trans (t4.below (by omega) xb.size)
           have oa : OE (((w4.setCell ⟨w.heap.size + 1 + 1 + 1, 0, none⟩ (.int .i64 0)).setCell ⟨w.heap.size + 1 + 1 + 1, 1, none⟩ (.slice none 0 0)).setCell ⟨w.heap.size + 1 + 1 + 1 + 1, 0, none⟩ (.slice (some ⟨g3, 0, none⟩) zs.length cp3)) w2.heap.size w3.heap.size (some ⟨g3, 0, none⟩) zs := (HO3.out.betw t3 (.inr (by omega))).betw t4 (.inr (by omega))
           have ob : OE (((w4.setCell ⟨w.heap.size + 1 + 1 + 1, 0, none⟩ (.int .i64 0)).setCell ⟨w.heap.size + 1 + 1 + 1, 1, none⟩ (.slice none 0 0)).setCell ⟨w.heap.size + 1 + 1 + 1 + 1, 0, none⟩ (.slice (some ⟨g3, 0, none⟩) zs.length cp3)) w3.heap.size w4.heap.size (some ⟨g4, 0, none⟩) zs := (HO4.out.betw t3 (.inr (by omega))).betw t4 (.inr (by omega))
           have hzx := Nat.le_trans t3.size t4.size
           have o2 : Hid (OE2 (((w4.setCell ⟨w.heap.size + 1 + 1 + 1, 0, none⟩ (.int .i64 0)).setCell ⟨w.heap.size + 1 + 1 + 1, 1, none⟩ (.slice none 0 0)).setCell ⟨w.heap.size + 1 + 1 + 1 + 1, 0, none⟩ (.slice (some ⟨g3, 0, none⟩) zs.length cp3)) w.heap.size (some ⟨g3, 0, none⟩) zs (some ⟨g4, 0, none⟩) zs) := ⟨w2.heap.size, w3.heap.size, w3.heap.size, w4.heap.size, oa, ob, by omega, by omega, by omega, by omega, by omega, hzx, .inl (Nat.le_refl _)⟩
           clear t3 t4 k3 k4 xa xb oa ob hzx HO3 HO4 r0 r1 rf s0 sf d1 hb D1 K2 HB2
           generalize (((w4.setCell ⟨w.heap.size + 1 + 1 + 1, 0, none⟩ (.int .i64 0)).setCell ⟨w.heap.size + 1 + 1 + 1, 1, none⟩ (.slice none 0 0)).setCell ⟨w.heap.size + 1 + 1 + 1 + 1, 0, none⟩ (.slice (some ⟨g3, 0, none⟩) zs.length cp3)) = Wf at k5 k6 x2 o2 ⊢
           go_wp2
           have p0 := k5.out.cell 0 _ rfl
           have p1 := k5.out.cell 1 _ rfl
           have p2 := k6.out.cell 0 _ rfl
           exact bodyPost_ret (v := .tuple #[oen 0 none 0 0, ien (some ⟨g3, 0, none⟩) zs.length cp3, .slice (some ⟨g4, 0, none⟩) zs.length cp4]) (by simp [results, Try.results39, go_sem, p0, p1, p2]) rfl (by rw [G.out.1, G.out.2]; exact ⟨_, _, _, _, rfl, x2.out, o2.out⟩))
        | (have t4 : Betw (w.heap.size + 1 + 1 + 1 + 1) (w.heap.size + 1 + 1 + 1 + 1 + 1) ((w4.setCell ⟨w.heap.size + 1 + 1 + 1, 0, none⟩ (.int .i64 0)).setCell ⟨w.heap.size + 1 + 1 + 1, 1, none⟩ (.slice none 0 0)) (((w4.setCell ⟨w.heap.size + 1 + 1 + 1, 0, none⟩ (.int .i64 0)).setCell ⟨w.heap.size + 1 + 1 + 1, 1, none⟩ (.slice none 0 0)).setCell ⟨w.heap.size + 1 + 1 + 1 + 1, 0, none⟩ (.slice (some ⟨g4, 0, none⟩) zs.length cp4)) := (Betw.refl (w.heap.size + 1 + 1 + 1 + 1) (w.heap.size + 1 + 1 + 1 + 1 + 1) _).setCell (p := ⟨w.heap.size + 1 + 1 + 1 + 1, 0, none⟩) (by simp) (by simp) _
           have k5 : Hid (Bk (((w4.setCell ⟨w.heap.size + 1 + 1 + 1, 0, none⟩ (.int .i64 0)).setCell ⟨w.heap.size + 1 + 1 + 1, 1, none⟩ (.slice none 0 0)).setCell ⟨w.heap.size + 1 + 1 + 1 + 1, 0, none⟩ (.slice (some ⟨g4, 0, none⟩) zs.length cp4)) (w.heap.size + 1 + 1 + 1) (orow 0 none 0 0)) := Bk.betw ((k3.set 0 (.int .i64 0) (by simp) (cs' := orow 0 none 0 0) rfl).set 1 _ (by simp) rfl) t4 (.inl (by omega))
           have k6 : Hid (Bk (((w4.setCell ⟨w.heap.size + 1 + 1 + 1, 0, none⟩ (.int .i64 0)).setCell ⟨w.heap.size + 1 + 1 + 1, 1, none⟩ (.slice none 0 0)).setCell ⟨w.heap.size + 1 + 1 + 1 + 1, 0, none⟩ (.slice (some ⟨g4, 0, none⟩) zs.length cp4)) (w.heap.size + 1 + 1 + 1 + 1) (irow (some ⟨g4, 0, none⟩) zs.length cp4)) := (Bk.betw k4 t3 (.inr (by omega))).set 0 _ (by simp) rfl
           have xb : Below w.heap.size w ((w4.setCell ⟨w.heap.size + 1 + 1 + 1, 0, none⟩ (.int .i64 0)).setCell ⟨w.heap.size + 1 + 1 + 1, 1, none⟩ (.slice none 0 0)) := xa.trans (t3.below (by omega) xa.size)
           have x2 : Hid (Below w.heap.size w (((w4.setCell ⟨w.heap.size + 1 + 1 + 1, 0, none⟩ (.int .i64 0)).setCell ⟨w.heap.size + 1 + 1 + 1, 1, none⟩ (.slice none 0 0)).setCell ⟨w.heap.size + 1 + 1 + 1 + 1, 0, none⟩ (.slice (some ⟨g4, 0, none⟩) zs.length cp4))) := xb.trans (t4.below (by omega) xb.size)
           have oa : OE (((w4.setCell ⟨w.heap.size + 1 + 1 + 1, 0, none⟩ (.int .i64 0)).setCell ⟨w.heap.size + 1 + 1 + 1, 1, none⟩ (.slice none 0 0)).setCell ⟨w.heap.size + 1 + 1 + 1 + 1, 0, none⟩ (.slice (some ⟨g4, 0, none⟩) zs.length cp4)) w2.heap.size w3.heap.size (some ⟨g3, 0, none⟩) zs := (HO3.out.betw t3 (.inr (by omega))).betw t4 (.inr (by omega))
           have ob : OE (((w4.setCell ⟨w.heap.size + 1 + 1 + 1, 0, none⟩ (.int .i64 0)).setCell ⟨w.heap.size + 1 + 1 + 1, 1, none⟩ (.slice none 0 0)).setCell ⟨w.heap.size + 1 + 1 + 1 + 1, 0, none⟩ (.slice (some ⟨g4, 0, none⟩) zs.length cp4)) w3.heap.size w4.heap.size (some ⟨g4, 0, none⟩) zs := (HO4.out.betw t3 (.inr (by omega))).betw t4 (.inr (by omega))
           have hzx := Nat.le_trans t3.size t4.size
           have o2 : Hid (OE2 (((w4.setCell ⟨w.heap.size + 1 + 1 + 1, 0, none⟩ (.int .i64 0)).setCell ⟨w.heap.size + 1 + 1 + 1, 1, none⟩ (.slice none 0 0)).setCell ⟨w.heap.size + 1 + 1 + 1 + 1, 0, none⟩ (.slice (some ⟨g4, 0, none⟩) zs.length cp4)) w.heap.size (some ⟨g4, 0, none⟩) zs (some ⟨g3, 0, none⟩) zs) := ⟨w3.heap.size, w4.heap.size, w2.heap.size, w3.heap.size, ob, oa, by omega, by omega, hzx, by omega, by omega, by omega, .inr (Nat.le_refl _)⟩
           clear t3 t4 k3 k4 xa xb oa ob hzx HO3 HO4 r0 r1 rf s0 sf d1 hb D1 K2 HB2
           generalize (((w4.setCell ⟨w.heap.size + 1 + 1 + 1, 0, none⟩ (.int .i64 0)).setCell ⟨w.heap.size + 1 + 1 + 1, 1, none⟩ (.slice none 0 0)).setCell ⟨w.heap.size + 1 + 1 + 1 + 1, 0, none⟩ (.slice (some ⟨g4, 0, none⟩) zs.length cp4)) = Wf at k5 k6 x2 o2 ⊢
           go_wp2
           have p0 := k5.out.cell 0 _ rfl
           have p1 := k5.out.cell 1 _ rfl
           have p2 := k6.out.cell 0 _ rfl
           exact bodyPost_ret (v := .tuple #[oen 0 none 0 0, ien (some ⟨g4, 0, none⟩) zs.length cp4, .slice (some ⟨g3, 0, none⟩) zs.length cp3]) (by simp [results, Try.results39, go_sem, p0, p1, p2]) rfl (by rw [G.out.1, G.out.2]; exact ⟨_, _, _, _, rfl, x2.out, o2.out⟩))
  by_cases hhm : h < (m : Int)
  · obtain ⟨rfl, rfl, rfl⟩ : h' = 0 ∧ ys = [] ∧ xs = [] := HE2.out (by first | rfl | trivial) (by first | rfl | trivial) rfl hhm
    have k3 : Bk (w2.alloc (.cells #[] 48)) (w.heap.size + 1 + 1 + 1) (orow 0 none 0 0) := K2.out.2.2.2.1.alloc _
    have k4 : Bk (w2.alloc (.cells #[] 48)) (w.heap.size + 1 + 1 + 1 + 1) (irow none 0 0) := K2.out.2.2.2.2.alloc _
    have y0 : (w2.alloc (.cells #[] 48)).cell? ⟨w.heap.size + 1 + 1 + 1, 0, none⟩ = some (.int .i64 0) := k3.cell 0 _ rfl
    have y1 : (w2.alloc (.cells #[] 48)).cell? ⟨w.heap.size + 1 + 1 + 1, 1, none⟩ = some (.slice none 0 0) := k3.cell 1 _ rfl
    have yf := k3.free
    have z0 : (w2.alloc (.cells #[] 48)).cell? ⟨w.heap.size + 1 + 1 + 1 + 1, 0, none⟩ = some (.slice none 0 0) := k4.cell 0 _ rfl
    have zf := k4.free
    have t3 : Betw (w.heap.size + 1 + 1 + 1) (w.heap.size + 1 + 1 + 1 + 1) (w2.alloc (.cells #[] 48)) (((w2.alloc (.cells #[] 48)).setCell ⟨w.heap.size + 1 + 1 + 1, 0, none⟩ (.int .i64 0)).setCell ⟨w.heap.size + 1 + 1 + 1, 1, none⟩ (.slice none 0 0)) := ((Betw.refl (w.heap.size + 1 + 1 + 1) (w.heap.size + 1 + 1 + 1 + 1) _).setCell (p := ⟨w.heap.size + 1 + 1 + 1, 0, none⟩) (by simp) (by simp) _).setCell (p := ⟨w.heap.size + 1 + 1 + 1, 1, none⟩) (by simp) (by simp) _
    have t4 : Betw (w.heap.size + 1 + 1 + 1 + 1) (w.heap.size + 1 + 1 + 1 + 1 + 1) (((w2.alloc (.cells #[] 48)).setCell ⟨w.heap.size + 1 + 1 + 1, 0, none⟩ (.int .i64 0)).setCell ⟨w.heap.size + 1 + 1 + 1, 1, none⟩ (.slice none 0 0)) ((((w2.alloc (.cells #[] 48)).setCell ⟨w.heap.size + 1 + 1 + 1, 0, none⟩ (.int .i64 0)).setCell ⟨w.heap.size + 1 + 1 + 1, 1, none⟩ (.slice none 0 0)).setCell ⟨w.heap.size + 1 + 1 + 1 + 1, 0, none⟩ (.slice none 0 0)) := (Betw.refl (w.heap.size + 1 + 1 + 1 + 1) (w.heap.size + 1 + 1 + 1 + 1 + 1) _).setCell (p := ⟨w.heap.size + 1 + 1 + 1 + 1, 0, none⟩) (by simp) (by simp) _
    have k5 : Hid (Bk ((((w2.alloc (.cells #[] 48)).setCell ⟨w.heap.size + 1 + 1 + 1, 0, none⟩ (.int .i64 0)).setCell ⟨w.heap.size + 1 + 1 + 1, 1, none⟩ (.slice none 0 0)).setCell ⟨w.heap.size + 1 + 1 + 1 + 1, 0, none⟩ (.slice none 0 0)) (w.heap.size + 1 + 1 + 1) (orow 0 none 0 0)) := Bk.betw ((k3.set 0 (.int .i64 0) (by simp) (cs' := orow 0 none 0 0) rfl).set 1 _ (by simp) rfl) t4 (.inl (by omega))
    have k6 : Hid (Bk ((((w2.alloc (.cells #[] 48)).setCell ⟨w.heap.size + 1 + 1 + 1, 0, none⟩ (.int .i64 0)).setCell ⟨w.heap.size + 1 + 1 + 1, 1, none⟩ (.slice none 0 0)).setCell ⟨w.heap.size + 1 + 1 + 1 + 1, 0, none⟩ (.slice none 0 0)) (w.heap.size + 1 + 1 + 1 + 1) (irow none 0 0)) := (Bk.betw k4 t3 (.inr (by omega))).set 0 _ (by simp) rfl
    have xa : Below w.heap.size w (w2.alloc (.cells #[] 48)) := HB2.out.alloc HB2.out.size _
    have xb : Below w.heap.size w (((w2.alloc (.cells #[] 48)).setCell ⟨w.heap.size + 1 + 1 + 1, 0, none⟩ (.int .i64 0)).setCell ⟨w.heap.size + 1 + 1 + 1, 1, none⟩ (.slice none 0 0)) := xa.trans (t3.below (by omega) xa.size)
    have x2 : Hid (Below w.heap.size w ((((w2.alloc (.cells #[] 48)).setCell ⟨w.heap.size + 1 + 1 + 1, 0, none⟩ (.int .i64 0)).setCell ⟨w.heap.size + 1 + 1 + 1, 1, none⟩ (.slice none 0 0)).setCell ⟨w.heap.size + 1 + 1 + 1 + 1, 0, none⟩ (.slice none 0 0))) := xb.trans (t4.below (by omega) xb.size)
    clear k3 k4 t3 t4 xa xb 
    go_wp2
    clear y0 y1 yf z0 zf
    revert k5 k6 x2
    generalize ((((w2.alloc (.cells #[] 48)).setCell ⟨w.heap.size + 1 + 1 + 1, 0, none⟩ (.int .i64 0)).setCell ⟨w.heap.size + 1 + 1 + 1, 1, none⟩ (.slice none 0 0)).setCell ⟨w.heap.size + 1 + 1 + 1 + 1, 0, none⟩ (.slice none 0 0)) = Wf
    intro k5 k6 x2
    have p0 := k5.out.cell 0 _ rfl
    have p1 := k5.out.cell 1 _ rfl
    have p2 := k6.out.cell 0 _ rfl
    exact bodyPost_ret (v := .tuple #[oen 0 none 0 0, ien none 0 0, .slice (some ⟨w2.heap.size, 0, none⟩) 0 0]) (by simp [results, Try.results39, go_sem, p0, p1, p2]) rfl ⟨none, 0, _, 0, rfl, x2.out, OE2.empty _ _ _ _ x2.out.size⟩
  obtain ⟨g1, g2, g3⟩ : h' = (m : Int) + (n : Int) ∧ ys = rs ++ zs ∧ xs = zs := HE5.out (by first | rfl | trivial) (by first | rfl | trivial) rfl (by omega)
  obtain ⟨N, HNN⟩ : ∃ N, Hid (m + n = N) := ⟨_, rfl⟩
  have G : Hid (h' = ((N : Nat) : Int) ∧ ys = rs ++ zs ∧ xs = zs) := ⟨by rw [g1]; have := HNN.out; omega, g2, g3⟩
  clear g1 g2 g3 HE0 HE1 HE2 HE3 HE4 HE5 HKD HR
  have HL : Hid (zs.length = n) := hl
  have HLR : Hid (rs.length = m) := hlr
  have hNN : m + n ≤ 2097152 := by omega
  clear hl hlr
  have LS : Hid (∀ X, Below w2.heap.size w2 X → Calls Try.prog 66 #[.slice ar m cr] X fun e w' => ∃ g cp, e = .returned (.slice (some ⟨g, 0, none⟩) m cp) ∧ Below X.heap.size X w' ∧ OwnU w' X.heap.size (.slice (some ⟨g, 0, none⟩) m cp) rs) := fun X hX => by
    refine (spec_list ar m cr rs X (HSr.out.below (HB2.out.trans (hX.mono HB2.out.size))) HLR.out hm).mono ?_
    rintro e w' ⟨v, h1, h2, h3, h4⟩
    obtain ⟨g, cp, e2, _⟩ := h3.shape h4 HLR.out
    subst e2
    exact ⟨g, cp, h1, h2, h3⟩
  have HSX : Hid (∀ X, Below w2.heap.size w2 X → Seg .u32 X a zs) := fun X hX => HS.out.below (HB2.out.trans (hX.mono HB2.out.size))
  have D1 : Hid (w2.cell? ⟨w.heap.size + 1, 1, none⟩ = some (.slice a n c)) := d1
  have I0 : Hid (w2.cell? ⟨w.heap.size + 1 + 1, 0, none⟩ = some (.slice ar m cr)) := i0
  clear d1 i0
  have d1 := D1.out
  have i0 := I0.out
  have hb : Below w2.heap.size w2 w2 := Below.refl _ _
  have hz2 := K2.out.2.2.2.2.lt
  have hzw := HB2.out.size
  have HNL : Hid (rs.length + zs.length ≤ 1048576) := by have := HL.out; have := HLR.out; show _ ≤ _; have := HN8.out (by first | rfl | trivial) (by first | rfl | trivial); omega
  go_wp2
  go_region_held_law (fun w' => w'.cell? ⟨w.heap.size + 1, 1, none⟩ = some (.slice a n c) ∧ w'.cell? ⟨w.heap.size + 1 + 1, 0, none⟩ = some (.slice ar m cr)) (first | with_reducible exact ⟨d1, i0⟩ | with_reducible exact ⟨dr_c d1, dr_c i0⟩)
    (first | (go_at_call 66; refine Calls.mono (LS.out _ (by first | exact hb | exact hb.drew)) ?_; rintro u w3 ⟨g3, cp3, rfl, hbb, ho3⟩; (first | replace hb := hb.trans (hbb.mono hb.size) | replace hb := hb.drew.trans (hbb.mono hb.drew.size)); replace d1 := kept_c hb D1.out; replace i0 := kept_c hb I0.out; have HO3 : Hid (OwnU w3 w2.heap.size (.slice (some ⟨g3, 0, none⟩) m cp3) rs) := OwnU.low ho3 (by first | exact Nat.le_refl _ | simp); have hz3 := hb.size; clear hbb ho3) | (refine step_append_shapedU _ rfl (.tmp 59) (.tmp 61) 28 rfl Try.underlying28 w2.heap.size (.slice (some ⟨g3, 0, none⟩) m cp3) rs zs a n c rfl rfl HL.out HO3.out (HSX.out _ (by first | exact hb | exact hb.drew)) HNL.out (by first | exact hz3 | (simp; omega)) (by simp) (some 62) rfl N (by rw [HLR.out]; exact HNN.out) ?_; intro g9 c9 w9 ho9 hg9 hcp9 hw9; have HZ9 : Hid (OwnU w9 w2.heap.size (.slice (some ⟨g9, 0, none⟩) N c9) (rs ++ zs) ∧ Below w2.heap.size w2 w9) := ⟨ho9, by first | exact Below.grown hb hg9 hb.size (fun g e => by have := own_low HO3.out g e; omega) | exact Below.grown hb.drew hg9 hb.drew.size (fun g e => by have := own_low HO3.out g e; omega)⟩; replace hb := HZ9.out.2; replace d1 := kept_c hb D1.out; replace i0 := kept_c hb I0.out; clear ho9 hg9 hcp9 hw9))
  all_goals
    rename_i hhh
    try clear hhh
    have HB9 : Hid (Below w.heap.size w w9) := HB2.out.trans (hb.mono HB2.out.size)
    have K9 : Hid (Bk w9 (w.heap.size + 1 + 1 + 1) (orow 0 none 0 0) ∧ Bk w9 (w.heap.size + 1 + 1 + 1 + 1) (irow none 0 0)) := ⟨K2.out.2.2.2.1.below hb, K2.out.2.2.2.2.below hb⟩
    have hz9 := hb.size
    go_wp2_with fail
    refine Calls.mono (spec_list a n c zs _ (HSX.out _ (by first | exact hb | exact hb.drew)) HL.out hn) ?_
    rintro y w4 ⟨v4, rfl, hb4, ho4, hv4⟩
    have hb4' : Below w9.heap.size w9 w4 := (by first | exact hb4 | exact (Below.refl _ _).drew.trans hb4)
    obtain ⟨g4, cp4, e4, _⟩ := ho4.shape hv4 HL.out
    subst e4
    have HBF : Hid (Below w.heap.size w w4) := HB9.out.trans (hb4'.mono HB9.out.size)
    have KO : Hid (Bk w4 (w.heap.size + 1 + 1 + 1) (orow 0 none 0 0)) := K9.out.1.below hb4'
    have KI : Hid (Bk w4 (w.heap.size + 1 + 1 + 1 + 1) (irow none 0 0)) := K9.out.2.below hb4'
    have hz4 := hb4'.size
    have OA : Hid (OE w4 w2.heap.size w9.heap.size (some ⟨g9, 0, none⟩) (rs ++ zs)) := by
      obtain ⟨a', c', e', g⟩ := OwnU.oe HZ9.out.1
      injection e' with e1 e2 e3
      subst e1
      exact g.below hb4'
    have OB : Hid (OE w4 w9.heap.size w4.heap.size (some ⟨g4, 0, none⟩) zs) := by
      obtain ⟨a', c', e', g⟩ := OwnU.oe ho4
      injection e' with e1 e2 e3
      subst e1
      exact OE.wide g (by simp) (Nat.le_refl _)
    have r0 := KO.out.cell 0 _ rfl
    have r1 := KO.out.cell 1 _ rfl
    have rf := KO.out.free
    have s0 := KI.out.cell 0 _ rfl
    have sf := KI.out.free
    clear d1 i0 D1 I0 hb hb4 ho4 hv4 LS HSX HNL
    have k3 : Bk w4 (w.heap.size + 1 + 1 + 1) (orow 0 none 0 0) := KO.out
    have k4 : Bk w4 (w.heap.size + 1 + 1 + 1 + 1) (irow none 0 0) := KI.out
    have t3 : Betw (w.heap.size + 1 + 1 + 1) (w.heap.size + 1 + 1 + 1 + 1) w4 ((w4.setCell ⟨w.heap.size + 1 + 1 + 1, 0, none⟩ (.int .i64 (N : Int))).setCell ⟨w.heap.size + 1 + 1 + 1, 1, none⟩ (.slice none 0 0)) := ((Betw.refl (w.heap.size + 1 + 1 + 1) (w.heap.size + 1 + 1 + 1 + 1) _).setCell (p := ⟨w.heap.size + 1 + 1 + 1, 0, none⟩) (by simp) (by simp) _).setCell (p := ⟨w.heap.size + 1 + 1 + 1, 1, none⟩) (by simp) (by simp) _
    have t4 : Betw (w.heap.size + 1 + 1 + 1 + 1) (w.heap.size + 1 + 1 + 1 + 1 + 1) ((w4.setCell ⟨w.heap.size + 1 + 1 + 1, 0, none⟩ (.int .i64 (N : Int))).setCell ⟨w.heap.size + 1 + 1 + 1, 1, none⟩ (.slice none 0 0)) (((w4.setCell ⟨w.heap.size + 1 + 1 + 1, 0, none⟩ (.int .i64 (N : Int))).setCell ⟨w.heap.size + 1 + 1 + 1, 1, none⟩ (.slice none 0 0)).setCell ⟨w.heap.size + 1 + 1 + 1 + 1, 0, none⟩ (.slice (some ⟨g9, 0, none⟩) N c9)) := (Betw.refl (w.heap.size + 1 + 1 + 1 + 1) (w.heap.size + 1 + 1 + 1 + 1 + 1) _).setCell (p := ⟨w.heap.size + 1 + 1 + 1 + 1, 0, none⟩) (by simp) (by simp) _
    have k5 : Hid (Bk (((w4.setCell ⟨w.heap.size + 1 + 1 + 1, 0, none⟩ (.int .i64 (N : Int))).setCell ⟨w.heap.size + 1 + 1 + 1, 1, none⟩ (.slice none 0 0)).setCell ⟨w.heap.size + 1 + 1 + 1 + 1, 0, none⟩ (.slice (some ⟨g9, 0, none⟩) N c9)) (w.heap.size + 1 + 1 + 1) (orow (N : Int) none 0 0)) := Bk.betw ((k3.set 0 (.int .i64 (N : Int)) (by simp) (cs' := orow (N : Int) none 0 0) rfl).set 1 _ (by simp) rfl) t4 (.inl (by omega))
    have k6 : Hid (Bk (((w4.setCell ⟨w.heap.size + 1 + 1 + 1, 0, none⟩ (.int .i64 (N : Int))).setCell ⟨w.heap.size + 1 + 1 + 1, 1, none⟩ (.slice none 0 0)).setCell ⟨w.heap.size + 1 + 1 + 1 + 1, 0, none⟩ (.slice (some ⟨g9, 0, none⟩) N c9)) (w.heap.size + 1 + 1 + 1 + 1) #[(.slice (some ⟨g9, 0, none⟩) N c9)]) := (Bk.betw k4 t3 (.inr (by omega))).set 0 _ (by simp) rfl
    have xb : Below w.heap.size w ((w4.setCell ⟨w.heap.size + 1 + 1 + 1, 0, none⟩ (.int .i64 (N : Int))).setCell ⟨w.heap.size + 1 + 1 + 1, 1, none⟩ (.slice none 0 0)) := HBF.out.trans (t3.below (by omega) HBF.out.size)
    have x2 : Hid (Below w.heap.size w (((w4.setCell ⟨w.heap.size + 1 + 1 + 1, 0, none⟩ (.int .i64 (N : Int))).setCell ⟨w.heap.size + 1 + 1 + 1, 1, none⟩ (.slice none 0 0)).setCell ⟨w.heap.size + 1 + 1 + 1 + 1, 0, none⟩ (.slice (some ⟨g9, 0, none⟩) N c9))) := xb.trans (t4.below (by omega) xb.size)
    have oa : OE (((w4.setCell ⟨w.heap.size + 1 + 1 + 1, 0, none⟩ (.int .i64 (N : Int))).setCell ⟨w.heap.size + 1 + 1 + 1, 1, none⟩ (.slice none 0 0)).setCell ⟨w.heap.size + 1 + 1 + 1 + 1, 0, none⟩ (.slice (some ⟨g9, 0, none⟩) N c9)) w2.heap.size w9.heap.size (some ⟨g9, 0, none⟩) (rs ++ zs) := (OA.out.betw t3 (.inr (by omega))).betw t4 (.inr (by omega))
    have ob : OE (((w4.setCell ⟨w.heap.size + 1 + 1 + 1, 0, none⟩ (.int .i64 (N : Int))).setCell ⟨w.heap.size + 1 + 1 + 1, 1, none⟩ (.slice none 0 0)).setCell ⟨w.heap.size + 1 + 1 + 1 + 1, 0, none⟩ (.slice (some ⟨g9, 0, none⟩) N c9)) w9.heap.size w4.heap.size (some ⟨g4, 0, none⟩) zs := (OB.out.betw t3 (.inr (by omega))).betw t4 (.inr (by omega))
    have hzx := Nat.le_trans t3.size t4.size
    have o2 : Hid (OE2 (((w4.setCell ⟨w.heap.size + 1 + 1 + 1, 0, none⟩ (.int .i64 (N : Int))).setCell ⟨w.heap.size + 1 + 1 + 1, 1, none⟩ (.slice none 0 0)).setCell ⟨w.heap.size + 1 + 1 + 1 + 1, 0, none⟩ (.slice (some ⟨g9, 0, none⟩) N c9)) w.heap.size (some ⟨g9, 0, none⟩) (rs ++ zs) (some ⟨g4, 0, none⟩) zs) := ⟨w2.heap.size, w9.heap.size, w9.heap.size, w4.heap.size, oa, ob, by omega, by omega, by omega, by omega, by omega, by omega, .inl (Nat.le_refl _)⟩
    clear t3 t4 k3 k4 xb oa ob hzx
    go_wp2
    clear OA OB KO KI HBF HZ9 HO3 K9 HB9 hb4' K2 HB2 r0 r1 rf s0 sf
    generalize (((w4.setCell ⟨w.heap.size + 1 + 1 + 1, 0, none⟩ (.int .i64 (N : Int))).setCell ⟨w.heap.size + 1 + 1 + 1, 1, none⟩ (.slice none 0 0)).setCell ⟨w.heap.size + 1 + 1 + 1 + 1, 0, none⟩ (.slice (some ⟨g9, 0, none⟩) N c9)) = Wf at k5 k6 x2 o2 ⊢
    go_wp2
    have p0 := k5.out.cell 0 _ rfl
    have p1 := k5.out.cell 1 _ rfl
    have p2 := k6.out.cell 0 _ rfl
    refine bodyPost_ret (v := .tuple #[oen (N : Int) none 0 0, .agg #[.slice (some ⟨g9, 0, none⟩) N c9], .slice (some ⟨g4, 0, none⟩) n cp4]) (by simp [results, Try.results39, go_sem, p0, p1, p2]) rfl ?_
    rw [G.out.1, G.out.2.1, G.out.2.2]
    have e1 : (rs ++ zs).length = N := by have := HL.out; have := HLR.out; have := HNN.out; simp; omega
    rw [e1, HL.out]
    exact ⟨_, _, _, _, rfl, x2.out, o2.out⟩
end Go.Proofs.Ytoofjlfbedjbnaa
