
/-
  The walk of FnQueue: whatever row and script were drawn, the law returns true and nothing that was there is written. Conditions: the bytes read as bytes, at most 1048576 of them.
-/
import Derived.Test.YtoofjlfbedjbnaaRows
import Derived.Test.YtoofjlfbedjbnaaSmp
namespace Go.Proofs.Ytoofjlfbedjbnaa
open Go.ChangeShapes Go.WideShapes Go.ChangeAt Go.RowKit Go.Deep
set_option linter.unusedVariables false

theorem own_eq {g g' n c : Nat} (e : (Value.slice (some ⟨g, 0, none⟩) n c).ownBlock = some g') : g = g' := by
  have : some g = some g' := e
  injection this
theorem own_or {g g' k n c n' c' : Nat} (e : (Value.slice (some ⟨g, 0, none⟩) n c).ownBlock = (Value.slice (some ⟨g', 0, none⟩) n' c').ownBlock ∨ (Value.slice (some ⟨g, 0, none⟩) n c).ownBlock = some k) : g = g' ∨ g = k := by
  rcases e with e | e
  · have : some g = some g' := e
    injection this with this
    exact .inl this
  · have : some g = some k := e
    injection this with this
    exact .inr this
theorem OwnU.blk_lt {w : World} {base g n c : Nat} {zs : List Int} (h : OwnU w base (.slice (some ⟨g, 0, none⟩) n c) zs) : base ≤ g ∧ g < w.heap.size ∧ zs.length = n ∧ n ≤ c := by
  rcases h.2 with ⟨h0, _⟩ | ⟨g', cap, cur, e, hb, hg, h1, r⟩
  · cases h0
  · injection e with e1 e2 e3
    injection e1 with e1
    injection e1 with e1
    subst e1 e2 e3
    refine ⟨hb, ?_, rfl, h1⟩
    rcases Nat.lt_or_ge g w.heap.size with hlt | hge
    · exact hlt
    · rw [Array.getElem?_eq_none hge] at hg; cases hg
theorem OwnU.sg {w : World} {base g n c : Nat} {zs : List Int} (h : OwnU w base (.slice (some ⟨g, 0, none⟩) n c) zs) : Seg .u32 w (some ⟨g, 0, none⟩) zs := by
  obtain ⟨a, cap, e, hs⟩ := h.seg
  injection e with e1 e2 e3
  subst e1
  exact hs
/-- The ends of a queuing channel. -/
def QueI (d : Int) (s : Chs) : Prop := 0 ≤ s.1 ∧ s.1 + (s.2.1.length : Int) ≤ d ∧ (s.2.2.length : Int) ≤ s.1
theorem que_d {f t d : Int} (hch : chOk 1 f t d = true) : 1 ≤ d ∧ d ≤ 8 := by
  have := chOk_k hch
  omega
theorem que_out {f t d h : Int} (hch : chOk 1 f t d = true) {n : Nat} (h0 : 0 ≤ h) (h1 : h + (n : Int) ≤ d) : outOk 1 f t d h (n : Int) = true := by
  unfold outOk; rw [hch]; simp [inr]; omega
theorem que_in {f t d : Int} (hch : chOk 1 f t d = true) {n : Nat} (h1 : (n : Int) ≤ d) : inOk 1 f t d (n : Int) = true := by
  unfold inOk; rw [hch]; simp; omega
theorem que0f {f t d h : Int} (hch : chOk 1 f t d = true) {sn rd : List Int} (hi : QueI d (h, sn, rd)) (hf : h + (sn.length : Int) = d) (x : Int) : stpF 1 f t d (h, sn, rd) (0, x) = ((h, sn, rd), (2, 0)) := by
  have ho := que_out hch (n := sn.length) hi.1 hi.2.1
  have hz : d - h - (sn.length : Int) = 0 := by omega
  unfold stpF sndF
  rw [if_pos (show ((0, x) : Cp).1 = 0 from rfl)]
  simp only
  rw [if_pos ho, if_neg (by decide), if_pos hz]
theorem que0 {f t d h : Int} (hch : chOk 1 f t d = true) {sn rd : List Int} (hi : QueI d (h, sn, rd)) (hf : ¬ h + (sn.length : Int) = d) (x : Int) : stpF 1 f t d (h, sn, rd) (0, x) = ((h, sn ++ [x], rd), (0, 0)) := by
  have ho := que_out hch (n := sn.length) hi.1 hi.2.1
  have hz : ¬ d - h - (sn.length : Int) = 0 := by omega
  unfold stpF sndF
  rw [if_pos (show ((0, x) : Cp).1 = 0 from rfl)]
  simp only
  rw [if_pos ho, if_neg (by decide), if_neg hz]
theorem que1e {f t d h : Int} (hch : chOk 1 f t d = true) {sn : List Int} (x : Int) : stpF 1 f t d (h, sn, []) (1, x) = ((h, sn, []), (1, 0)) := by
  have hd := que_d hch
  have hi := que_in hch (n := 0) (by omega)
  unfold stpF rcvF
  simp at hi ⊢
  simp [hi]
theorem que1 {f t d h : Int} (hch : chOk 1 f t d = true) {sn rd : List Int} (hi : QueI d (h, sn, rd)) (h0 : 0 < rd.length) (x : Int) : stpF 1 f t d (h, sn, rd) (1, x) = ((h, sn, rd.drop 1), (0, rd.getD 0 0)) := by
  have hi' := que_in hch (n := rd.length) (by have := hi.1; have := hi.2.1; have := hi.2.2; simp only at *; omega)
  have hz : ¬ ((rd.length : Int) = 0) := by omega
  unfold stpF rcvF
  rw [if_neg (by simp), if_pos (by simp)]
  simp only
  rw [if_pos hi', if_neg hz]
  simp
theorem que2 {f t d h : Int} (hch : chOk 1 f t d = true) {sn rd : List Int} (hi : QueI d (h, sn, rd)) (x : Int) : stpF 1 f t d (h, sn, rd) (2, x) = (((rd.length : Int) + (sn.length : Int), [], rd ++ sn), (0, 0)) := by
  have ho := que_out hch (n := sn.length) hi.1 hi.2.1
  have h2 := hi.2.2
  simp only at h2
  have hi' := que_in hch (n := rd.length) (by have := hi.1; have := hi.2.1; simp only at *; omega)
  have hb : borOk 1 f t d h (sn.length : Int) (rd.length : Int) = true := by
    unfold borOk
    rw [ho, hi']
    simp; omega
  unfold stpF borF
  rw [if_neg (by simp), if_neg (by simp), if_pos (by simp)]
  simp only
  rw [if_pos hb, if_neg (by decide)]
theorem que3 {f t d h : Int} (hch : chOk 1 f t d = true) {sn rd : List Int} (hi : QueI d (h, sn, rd)) (x : Int) : stpF 1 f t d (h, sn, rd) (3, x) = ((h, [], rd), (0, 0)) := by
  have ho := que_out hch (n := sn.length) hi.1 hi.2.1
  unfold stpF
  rw [if_neg (by simp), if_neg (by simp), if_neg (by simp)]
  simp only
  rw [if_pos ho]
/-- The law's own account of a queuing channel, in memory. -/
structure QS (w4 wr : World) (d : Int) (s : Chs) (m g6 n6 c6 g7 n7 c7 r : Nat) (hh : Int) (cr : List Int) : Prop where
  gb : Below w4.heap.size w4 wr
  qi : QueI d s
  hd : s.1 = hh
  o6 : OwnU wr w4.heap.size (.slice (some ⟨g6, 0, none⟩) n6 c6) cr
  o7 : OwnU wr w4.heap.size (.slice (some ⟨g7, 0, none⟩) n7 c7) s.2.1
  ne : g6 ≠ g7
  rl : r ≤ n6
  dr : cr.drop r = s.2.2
  sz : n6 ≤ 8 * m
variable {w4 wr w9 : World} {d hh : Int} {s : Chs} {m g6 n6 c6 g7 n7 c7 r : Nat} {cr : List Int}
theorem QS.len7 (h : QS w4 wr d s m g6 n6 c6 g7 n7 c7 r hh cr) : s.2.1.length = n7 := h.o7.blk_lt.2.2.1
theorem QS.len6 (h : QS w4 wr d s m g6 n6 c6 g7 n7 c7 r hh cr) : cr.length = n6 := h.o6.blk_lt.2.2.1
theorem QS.lenr (h : QS w4 wr d s m g6 n6 c6 g7 n7 c7 r hh cr) : s.2.2.length = n6 - r := by rw [← h.dr, List.length_drop, h.len6]
theorem QS.cellr (h : QS w4 wr d s m g6 n6 c6 g7 n7 c7 r hh cr) (hr : r < n6) : wr.cell? ⟨g6, r, none⟩ = some (.int .u32 (s.2.2.getD 0 0)) := by
  have hl := h.len6
  obtain ⟨b, off, e, hlt, hc⟩ := h.o6.sg (by omega)
  injection e with e
  injection e with e1 e2 e3
  subst e1 e2
  have g := hc r (by omega)
  rw [Nat.zero_add] at g
  rw [g, ← h.dr]
  simp [List.getD, List.getElem?_drop]
theorem QS.below (h : QS w4 wr d s m g6 n6 c6 g7 n7 c7 r hh cr) (hb : Below wr.heap.size wr w9) : QS w4 w9 d s m g6 n6 c6 g7 n7 c7 r hh cr :=
  ⟨h.gb.trans (hb.mono h.gb.size), h.qi, h.hd, h.o6.below hb, h.o7.below hb, h.ne, h.rl, h.dr, h.sz⟩
theorem QS.next (h : QS w4 wr d s m g6 n6 c6 g7 n7 c7 r hh cr) : QS w4 wr d s (m + 1) g6 n6 c6 g7 n7 c7 r hh cr :=
  ⟨h.gb, h.qi, h.hd, h.o6, h.o7, h.ne, h.rl, h.dr, by have := h.sz; omega⟩
theorem QS.read (h : QS w4 wr d s m g6 n6 c6 g7 n7 c7 r hh cr) (hr : r < n6) : QS w4 wr d (s.1, s.2.1, s.2.2.drop 1) (m + 1) g6 n6 c6 g7 n7 c7 (r + 1) hh cr :=
  ⟨h.gb, ⟨h.qi.1, h.qi.2.1, by have := h.qi.2.2; simp; omega⟩, h.hd, h.o6, h.o7, h.ne, by omega, by rw [← h.dr, List.drop_drop], by have := h.sz; omega⟩
theorem QS.fresh (h : QS w4 wr d s m g6 n6 c6 g7 n7 c7 r hh cr) : QS w4 (wr.alloc (.cells #[] 48)) d (s.1, [], s.2.2) (m + 1) g6 n6 c6 wr.heap.size 0 0 r hh cr := by
  have hal : Below wr.heap.size wr (wr.alloc (.cells #[] 48)) := (Below.refl _ _).alloc (Nat.le_refl _) _
  have h2 := h.below hal
  have hlt := h.o6.blk_lt.2.1
  exact ⟨h2.gb, ⟨h.qi.1, by have := h.qi.2.1; simp; omega, h.qi.2.2⟩, h.hd, h2.o6, OwnU.low (OwnU.new _ _ rfl) h.gb.size, by omega, h.rl, h.dr, by have := h.sz; omega⟩
theorem QS.push {x : Int} {gg cap : Nat} (h : QS w4 wr d s m g6 n6 c6 g7 n7 c7 r hh cr) (hf : s.1 + (n7 : Int) < d) (ho : OwnU w9 w4.heap.size (.slice (some ⟨gg, 0, none⟩) (n7 + 1) cap) (s.2.1 ++ [x])) (hg : wr.grownBy w9 (Value.slice (some ⟨g7, 0, none⟩) n7 c7).ownBlock)
    (hw : (Value.slice (some ⟨gg, 0, none⟩) (n7 + 1) cap).ownBlock = (Value.slice (some ⟨g7, 0, none⟩) n7 c7).ownBlock ∨ (Value.slice (some ⟨gg, 0, none⟩) (n7 + 1) cap).ownBlock = some wr.heap.size) :
    QS w4 w9 d (s.1, s.2.1 ++ [x], s.2.2) (m + 1) g6 n6 c6 gg (n7 + 1) cap r hh cr := by
  have hl := h.len7
  have hlt := h.o6.blk_lt.2.1
  have hne := h.ne
  have hor := own_or hw
  exact ⟨Below.grown h.gb hg h.gb.size (own_low h.o7), ⟨h.qi.1, by simp; omega, h.qi.2.2⟩, h.hd, h.o6.kept hg (fun g e e2 => by have := own_eq e; have := own_eq e2; omega), ho, by omega, h.rl, h.dr, by have := h.sz; omega⟩
theorem QS.cross {gg cap : Nat} (h : QS w4 wr d s m g6 n6 c6 g7 n7 c7 r hh cr) (hd8 : d ≤ 8) (ho : OwnU w9 w4.heap.size (.slice (some ⟨gg, 0, none⟩) (n6 + n7) cap) (cr ++ s.2.1)) (hg : wr.grownBy w9 (Value.slice (some ⟨g6, 0, none⟩) n6 c6).ownBlock)
    (hw : (Value.slice (some ⟨gg, 0, none⟩) (n6 + n7) cap).ownBlock = (Value.slice (some ⟨g6, 0, none⟩) n6 c6).ownBlock ∨ (Value.slice (some ⟨gg, 0, none⟩) (n6 + n7) cap).ownBlock = some wr.heap.size) :
    QS w4 (w9.alloc (.cells #[] 48)) d ((s.2.2.length : Int) + (s.2.1.length : Int), [], s.2.2 ++ s.2.1) (m + 1) gg (n6 + n7) cap w9.heap.size 0 0 r (((n6 + n7 : Nat) : Int) - (r : Int)) (cr ++ s.2.1) := by
  have hl := h.len7
  have hl6 := h.len6
  have hlr := h.lenr
  have hrl := h.rl
  have hsz := h.sz
  obtain ⟨q1, q2, q3⟩ := h.qi
  have hgb : Below w4.heap.size w4 w9 := Below.grown h.gb hg h.gb.size (own_low h.o6)
  have hal : Below w9.heap.size w9 (w9.alloc (.cells #[] 48)) := (Below.refl _ _).alloc (Nat.le_refl _) _
  have hlt := ho.blk_lt.2.1
  exact ⟨hgb.trans (hal.mono hgb.size), ⟨by simp only; omega, by simp; omega, by simp⟩, by simp only; omega, ho.below hal, OwnU.low (OwnU.new _ _ rfl) hgb.size, by omega, by omega, by rw [List.drop_append_of_le_length (by omega), h.dr], by omega⟩
set_option maxRecDepth 20000 in
set_option maxHeartbeats 1500000 in
theorem queue_law (a : Option Addr) (n cap : Nat) (zs : List Int) (w : World) (hl : zs.length = n) (hs : Seg .u8 w a zs) (hb8 : ∀ z ∈ zs, (Lit.int .u8 z).wf = true) (hn : n ≤ 1048576) :
    Calls Try.prog 13 #[.slice a n cap] w fun e w' => e = .returned (.bool true) ∧ Below w.heap.size w w' := by
  have HD : Hid (Calls Try.prog 54 #[.slice a n cap] w fun e w' => ∃ (k f t d : Int) (a' : Option Addr) (xs : List Cp) (n' c' : Nat), e = .returned (.tuple #[crw k f t d, .slice a' n' c']) ∧ Below w.heap.size w w' ∧ PI w' w.heap.size w'.heap.size a' xs ∧ xs.length = n' ∧ n' ≤ 1001) := draw_play w a zs cap n hs hb8 hn hl
  clear hs hb8 hl
  go_enter Try.func13, Try.ntmps13
  go_wp2_with fail
  refine (big_no a n cap _ hn).mono ?_
  rintro e w0 ⟨rfl, h0⟩
  rw [h0]
  clear h0 w0
  go_wp2_with fail
  refine Calls.mono HD.out ?_
  rintro e w1 ⟨k, f, t, d, a1, ops, n1, c1, rfl, hb1, ho1, hx1, hn1⟩
  obtain ⟨ps, HPS⟩ : ∃ p, Hid (plyF k f t d ops = p) := ⟨_, rfl⟩
  obtain ⟨y, HYL⟩ : ∃ y, Hid (ps.length = y) := ⟨_, rfl⟩
  have HXL : Hid (ops.length = n1) := hx1
  have hal : Below w1.heap.size w1 (w1.alloc (.cells (crow k f t d) 25)) := (Below.refl _ _).alloc (Nat.le_refl _) _
  have HB1 : Hid (Below w.heap.size w (w1.alloc (.cells (crow k f t d) 25))) := hb1.trans (hal.mono hb1.size)
  have P1 : Hid (Bk (w1.alloc (.cells (crow k f t d) 25)) w1.heap.size (crow k f t d)) := Bk.new _ _ _ _ rfl
  have X1 : Hid (PSeg (w1.alloc (.cells (crow k f t d) 25)) a1 ops) := PI.seg (PI.below ho1 hal)
  have HIM : Hid (∀ (X : World), PSeg X a1 ops → Calls Try.prog 47 #[crw k f t d, .slice a1 n1 c1] X fun e w' => ∃ a' c', e = .returned (.slice a' y c') ∧ Below X.heap.size X w' ∧ PI w' X.heap.size w'.heap.size a' ps) := fun X h1 => by have g := impl_play k f t d a1 n1 c1 ops X h1 HXL.out (by omega); rw [HPS.out, HYL.out] at g; exact g
  have HSP : Hid (∀ (X : World), PSeg X a1 ops → Calls Try.prog 45 #[crw k f t d, .slice a1 n1 c1] X fun e w' => ∃ a' c', e = .returned (.slice a' y c') ∧ Below X.heap.size X w' ∧ PI w' X.heap.size w'.heap.size a' ps) := fun X h1 => by have g := spec_play k f t d a1 n1 c1 ops X h1 HXL.out (by omega); rw [HPS.out, HYL.out] at g; exact g
  have HIN : Hid (∀ m, m < y → chOk k f t d = true ∧ m < n1 ∧ kdsOk ops ∧ ps.getD m cp0 = sdN k f t d ops m) := fun m hm => by rw [← HXL.out]; exact ply_in HPS.out (by rw [HYL.out]; exact hm)
  have hy : y ≤ 1000 := by
    have g := HYL.out
    rw [← HPS.out] at g
    unfold plyF at g
    split at g
    · rename_i g2
      rw [sdL_len] at g
      omega
    · simp at g; omega
  clear HD hb1 ho1 hx1 hal HPS
  go_wp2_with fail
  refine Calls.mono (HIM.out _ X1.out) ?_
  rintro e w2 ⟨a2, c2, rfl, hb2, ho2⟩
  have HB2 : Hid (Below w.heap.size w w2) := HB1.out.trans (hb2.mono HB1.out.size)
  have P2 : Hid (Bk w2 w1.heap.size (crow k f t d)) := P1.out.below hb2
  have X2 : Hid (PSeg w2 a1 ops) := X1.out.below hb2
  have S2 : Hid (PSeg w2 a2 ps) := PI.seg ho2
  clear HB1 P1 X1 hb2 ho2 HIM
  have p0 := P2.out.cell 0 _ rfl
  have p1 := P2.out.cell 1 _ rfl
  have p2 := P2.out.cell 2 _ rfl
  have p3 := P2.out.cell 3 _ rfl
  go_wp2_with fail
  refine Calls.mono (HSP.out _ X2.out) ?_
  rintro e w3 ⟨a3, c3, rfl, hb3, ho3⟩
  clear p0 p1 p2 p3
  have HB3 : Hid (Below w.heap.size w w3) := HB2.out.trans (hb3.mono HB2.out.size)
  have P3 : Hid (Bk w3 w1.heap.size (crow k f t d)) := P2.out.below hb3
  have X3 : Hid (PSeg w3 a1 ops) := X2.out.below hb3
  have S3 : Hid (PSeg w3 a2 ps) := S2.out.below hb3
  clear HB2 P2 X2 S2 hb3 ho3 HSP
  obtain ⟨q1, HQ1⟩ : ∃ q, Hid (chOk k f t d = q) := ⟨_, rfl⟩
  have p0 := P3.out.cell 0 _ rfl
  have p1 := P3.out.cell 1 _ rfl
  have p2 := P3.out.cell 2 _ rfl
  have p3 := P3.out.cell 3 _ rfl
  go_wp2_with fail
  refine (spec_chok k f t d q1 _ HQ1).mono ?_
  rintro x w4 ⟨rfl, hb4⟩
  clear p0 p1 p2 p3
  have HB4 : Hid (Below w.heap.size w w4) := HB3.out.trans (hb4.mono HB3.out.size)
  have P4 : Hid (Bk w4 w1.heap.size (crow k f t d)) := P3.out.below hb4
  have X4 : Hid (PSeg w4 a1 ops) := X3.out.below hb4
  have S4 : Hid (PSeg w4 a2 ps) := S3.out.below hb4
  clear HB3 P3 X3 S3 hb4
  cases q1
  · go_wp2
    go_ret
    exact ⟨rfl, HB4.out⟩
  have p0 := P4.out.cell 0 _ rfl
  cases hk0 : (k == 1)
  · have hkn : (k != 1) = true := by simp only [bne, hk0]; rfl
    go_wp2
    go_ret
    exact ⟨rfl, HB4.out⟩
  have hk : k = 1 := by simpa using hk0
  subst hk
  have HCH : Hid (chOk 1 f t d = true) := HQ1.out
  obtain ⟨hd1, hd8⟩ := que_d HCH.out
  have hal1 : Below w4.heap.size w4 (w4.alloc (.cells #[] 48)) := (Below.refl _ _).alloc (Nat.le_refl _) _
  have hal2 : Below (w4.alloc (.cells #[] 48)).heap.size (w4.alloc (.cells #[] 48)) ((w4.alloc (.cells #[] 48)).alloc (.cells #[] 48)) := (Below.refl _ _).alloc (Nat.le_refl _) _
  have HI0 : Hid (QS w4 ((w4.alloc (.cells #[] 48)).alloc (.cells #[] 48)) d (stN 1 f t d ops 0) 0 w4.heap.size 0 0 (w4.heap.size + 1) 0 0 0 0 []) := ⟨hal1.trans (hal2.mono hal1.size), ⟨by simp [stN], by simp [stN]; omega, by simp [stN]⟩, rfl, (OwnU.new _ _ rfl).below hal2, OwnU.low (OwnU.new _ (w4.heap.size + 1) (by simp)) (by omega), by omega, Nat.le_refl _, rfl, Nat.le_refl _⟩
  clear hal1 hal2 HQ1
  go_wp2
  clear p0
  go_loopw [6, 7, 8, 9, 10] (fun v6 v7 v8 v9 i wr => ∃ (m g6 n6 c6 g7 n7 c7 r : Nat) (hh : Int) (cr : List Int), m ≤ y ∧ i = .int .i64 m ∧ v6 = .slice (some ⟨g6, 0, none⟩) n6 c6 ∧ v7 = .slice (some ⟨g7, 0, none⟩) n7 c7 ∧ v8 = .int .i64 r ∧ v9 = .int .i64 hh ∧ Hid (QS w4 wr d (stN 1 f t d ops m) m g6 n6 c6 g7 n7 c7 r hh cr)) (fun _ _ _ _ i _ => y - (intOf i).toNat)
  case atStart => exact ⟨0, _, _, _, _, _, _, 0, 0, [], by omega, rfl, rfl, rfl, rfl, rfl, HI0⟩
  case round =>
    obtain ⟨m, g6, n6, c6, g7, n7, c7, r, hh, cr, hm, rfl, rfl, rfl, rfl, rfl, HR⟩ := hrel
    clear HI0
    by_cases hmy : m < y
    rotate_left
    · have HE : Hid (Below w.heap.size w wr) := HB4.out.trans (HR.out.gb.mono HB4.out.size)
      go_wp2
      go_ret
      exact ⟨rfl, HE.out⟩
    have hmy' : (m : Int) < (y : Int) := by omega
    obtain ⟨_, hmn, hkd, hsd⟩ := HIN.out m hmy
    have hmn' : (m : Int) < (n1 : Int) := by omega
    obtain ⟨b1, o1, rfl, hbl1, p1⟩ := PSeg.at (X4.out.below HR.out.gb) m (by have := HXL.out; omega)
    obtain ⟨b2, o2, rfl, hbl2, r1⟩ := PSeg.at (S4.out.below HR.out.gb) m (by have := HYL.out; omega)
    have p3 := (P4.out.below HR.out.gb).cell 3 _ rfl
    have hkm := hkd m (by have := HXL.out; omega)
    rw [hsd] at r1
    have HST : Hid (stN 1 f t d ops (m + 1) = (stpF 1 f t d (stN 1 f t d ops m) (ops.getD m cp0)).1) := (rfl : stN 1 f t d ops (m + 1) = _)
    have hsd2 : sdN 1 f t d ops m = (stpF 1 f t d (stN 1 f t d ops m) (ops.getD m cp0)).2 := rfl
    rw [hsd2] at r1
    have hR := HR.out
    generalize stN 1 f t d ops m = s at r1 HST hR
    generalize ops.getD m cp0 = op at p1 r1 hkm HST
    obtain ⟨s1, sn, rd⟩ := s
    obtain ⟨x1, x2⟩ := op
    have hs1 : s1 = hh := hR.hd
    subst hs1
    simp only at hkm
    have HQ : Hid (QS w4 wr d (s1, sn, rd) m g6 n6 c6 g7 n7 c7 r s1 cr) := hR
    have hl7 : sn.length = n7 := hR.len7
    have hlr : rd.length = n6 - r := hR.lenr
    have hrl := hR.rl
    have hsz := hR.sz
    have hq1 : 0 ≤ s1 := hR.qi.1
    have hq2 : s1 + (n7 : Int) ≤ d := by have g := hR.qi.2.1; simp only at g; rw [hl7] at g; exact g
    obtain ⟨q0, q1⟩ := p1
    simp only at q0 q1
    clear hR HR hsd hsd2 hkd hbl1 hbl2
    have hcs : x1 = 0 ∨ x1 = 1 ∨ x1 = 2 ∨ x1 = 3 := by omega
    clear hkm
    rcases hcs with rfl | rfl | rfl | rfl
    · by_cases hf : s1 + (n7 : Int) = d
      · have hst := que0f HCH.out HQ.out.qi (by rw [hl7]; exact hf) x2
        rw [hst] at HST r1
        obtain ⟨r0, _⟩ := r1
        simp only at r0
        have HN : Hid (QS w4 wr d (stN 1 f t d ops (m + 1)) (m + 1) g6 n6 c6 g7 n7 c7 r s1 cr) := by
          rw [HST.out]
          exact HQ.out.next
        clear hst HST HQ hl7 hlr
        go_wp2
        go_roundw
        case rel => exact ⟨m + 1, g6, n6, c6, g7, n7, c7, r, s1, cr, by omega, by go_num, rfl, rfl, by go_num, by go_num, HN⟩
        case measure => simp [intOf]; omega
      · have hst := que0 HCH.out HQ.out.qi (by rw [hl7]; exact hf) x2
        rw [hst] at HST r1
        obtain ⟨r0, _⟩ := r1
        simp only at r0
        have hal : Below wr.heap.size wr (wr.alloc (.cells #[.int .u32 x2] 48)) := (Below.refl _ _).alloc (Nat.le_refl _) _
        have r0' := kept_c hal r0
        have q0' := kept_c hal q0
        have HQA : Hid (QS w4 (wr.alloc (.cells #[.int .u32 x2] 48)) d (s1, sn, rd) m g6 n6 c6 g7 n7 c7 r s1 cr) := HQ.out.below hal
        have HYS : Hid (Seg .u32 (wr.alloc (.cells #[.int .u32 x2] 48)) (some ⟨wr.heap.size, 0, none⟩) [x2]) := fun _ => ⟨wr.heap.size, 0, rfl, by simp, fun i hi => by simp at hi; subst hi; simp⟩
        have HYN : Hid (sn.length + [x2].length ≤ 1048576) := (show sn.length + [x2].length ≤ 1048576 by simp; omega)
        have HYZ : Hid (w4.heap.size ≤ (wr.alloc (.cells #[.int .u32 x2] 48)).heap.size) := HQA.out.gb.size
        have HNN : Hid (sn.length + 1 = n7 + 1) := (show sn.length + 1 = n7 + 1 by rw [hl7])
        have HPU : Hid (∀ gg cap9 w9, OwnU w9 w4.heap.size (.slice (some ⟨gg, 0, none⟩) (n7 + 1) cap9) (sn ++ [x2]) → (wr.alloc (.cells #[.int .u32 x2] 48)).grownBy w9 (Value.slice (some ⟨g7, 0, none⟩) n7 c7).ownBlock → ((Value.slice (some ⟨gg, 0, none⟩) (n7 + 1) cap9).ownBlock = (Value.slice (some ⟨g7, 0, none⟩) n7 c7).ownBlock ∨ (Value.slice (some ⟨gg, 0, none⟩) (n7 + 1) cap9).ownBlock = some (wr.alloc (.cells #[.int .u32 x2] 48)).heap.size) → Hid (QS w4 w9 d (stN 1 f t d ops (m + 1)) (m + 1) g6 n6 c6 gg (n7 + 1) cap9 r s1 cr)) := fun gg cap9 w9 k1 k2 k3 => by
          rw [HST.out]
          exact HQA.out.push (by simp only; omega) k1 k2 k3
        clear hst HST HQ hal hlr hl7
        go_wp2_with (at_builtin; (refine wpList_append_shapedU _ rfl (.tmp 82) (.tmp 88) 28 rfl Try.underlying28 w4.heap.size (.slice (some ⟨g7, 0, none⟩) n7 c7) sn [x2] _ _ _ rfl rfl rfl HQA.out.o7 HYS.out HYN.out HYZ.out (by simp) (n7 + 1) HNN.out ?_; intro gg cap9 w9 ho9 hg9 hcap9 hown9; have HZ := HPU.out gg cap9 w9 ho9 hg9 hown9; clear ho9 hg9 hown9 hcap9 q0 q1 r0 r0' q0' p3))
        go_roundw
        case rel => exact ⟨m + 1, g6, n6, c6, gg, n7 + 1, cap9, r, s1, cr, by omega, by go_num, rfl, rfl, by go_num, by go_num, HZ⟩
        case measure => simp [intOf]; omega
    · by_cases h0 : r < n6
      rotate_left
      · have e : rd = [] := List.eq_nil_of_length_eq_zero (by omega)
        subst e
        obtain rfl : r = n6 := by omega
        have hst := que1e (h := s1) (sn := sn) HCH.out x2
        rw [hst] at HST r1
        obtain ⟨r0, rr⟩ := r1
        simp only at r0 rr
        have HN : Hid (QS w4 wr d (stN 1 f t d ops (m + 1)) (m + 1) g6 r c6 g7 n7 c7 r s1 cr) := by
          rw [HST.out]
          exact HQ.out.next
        clear hst HST HQ hl7 hlr h0
        go_wp2
        go_roundw
        case rel => exact ⟨m + 1, g6, r, c6, g7, n7, c7, r, s1, cr, by omega, by go_num, rfl, rfl, by go_num, by go_num, HN⟩
        case measure => simp [intOf]; omega
      · have hst := que1 HCH.out HQ.out.qi (by rw [hlr]; omega) x2
        rw [hst] at HST r1
        obtain ⟨r0, rr⟩ := r1
        simp only at r0 rr
        have e6 := HQ.out.cellr h0
        simp only at e6
        have h0' : ¬ ((r : Int) = (n6 : Int)) := by omega
        have h0'' : (r : Int) < (n6 : Int) := by omega
        have HNX : Hid (∀ X, Below wr.heap.size wr X → Hid (QS w4 X d (stN 1 f t d ops (m + 1)) (m + 1) g6 n6 c6 g7 n7 c7 (r + 1) s1 cr)) := fun X hX => by
          rw [HST.out]
          exact (HQ.out.read h0).below hX
        generalize rd.getD 0 0 = z at rr e6
        clear hst HST HQ hl7 hlr
        go_wp2
        go_quiet (fail)
        go_wp2
        go_roundw
        case rel => exact ⟨m + 1, g6, n6, c6, g7, n7, c7, r + 1, s1, cr, by omega, by go_num, rfl, rfl, by go_num, by go_num, (HNX.out _ (below_drewN (Below.refl _ _) _))⟩
        case measure => simp [intOf]; omega
    · have hst := que2 HCH.out HQ.out.qi x2
      rw [hst] at HST
      have HLN : Hid (sn.length = n7) := hl7
      have HYN : Hid (cr.length + sn.length ≤ 1048576) := (show cr.length + sn.length ≤ 1048576 by rw [HQ.out.len6, hl7]; omega)
      have HYZ : Hid (w4.heap.size ≤ wr.heap.size) := HQ.out.gb.size
      have HNN : Hid (cr.length + n7 = n6 + n7) := (show cr.length + n7 = n6 + n7 by rw [HQ.out.len6])
      have HPU : Hid (∀ gg cap9 w9, OwnU w9 w4.heap.size (.slice (some ⟨gg, 0, none⟩) (n6 + n7) cap9) (cr ++ sn) → wr.grownBy w9 (Value.slice (some ⟨g6, 0, none⟩) n6 c6).ownBlock → ((Value.slice (some ⟨gg, 0, none⟩) (n6 + n7) cap9).ownBlock = (Value.slice (some ⟨g6, 0, none⟩) n6 c6).ownBlock ∨ (Value.slice (some ⟨gg, 0, none⟩) (n6 + n7) cap9).ownBlock = some wr.heap.size) → Hid (QS w4 (w9.alloc (.cells #[] 48)) d (stN 1 f t d ops (m + 1)) (m + 1) gg (n6 + n7) cap9 w9.heap.size 0 0 r (((n6 + n7 : Nat) : Int) - (r : Int)) (cr ++ sn))) := fun gg cap9 w9 k1 k2 k3 => by
        rw [HST.out]
        exact HQ.out.cross hd8 k1 k2 k3
      clear hst HST hlr hl7 r1
      go_wp2_with (at_builtin; (refine wpList_append_shapedU _ rfl (.tmp 132) (.tmp 133) 28 rfl Try.underlying28 w4.heap.size (.slice (some ⟨g6, 0, none⟩) n6 c6) cr sn _ _ _ rfl rfl HLN.out HQ.out.o6 HQ.out.o7.sg HYN.out HYZ.out (by simp) (n6 + n7) HNN.out ?_; intro gg cap9 w9 ho9 hg9 hcap9 hown9; have HZ := HPU.out gg cap9 w9 ho9 hg9 hown9; clear ho9 hg9 hown9 hcap9 q0 q1 p3))
      go_roundw
      case rel => exact ⟨m + 1, gg, n6 + n7, cap9, w9.heap.size, 0, 0, r, (((n6 + n7 : Nat) : Int) - (r : Int)), cr ++ sn, by omega, by go_num, rfl, rfl, by go_num, by go_num, HZ⟩
      case measure => simp [intOf]; omega
    · have hst := que3 HCH.out HQ.out.qi x2
      rw [hst] at HST
      have HN : Hid (QS w4 (wr.alloc (.cells #[] 48)) d (stN 1 f t d ops (m + 1)) (m + 1) g6 n6 c6 wr.heap.size 0 0 r s1 cr) := by
        rw [HST.out]
        exact HQ.out.fresh
      clear hst HST HQ hlr hl7 r1
      go_wp2
      go_roundw
      case rel => exact ⟨m + 1, g6, n6, c6, wr.heap.size, 0, 0, r, s1, cr, by omega, by go_num, rfl, rfl, by go_num, by go_num, HN⟩
      case measure => simp [intOf]; omega
end Go.Proofs.Ytoofjlfbedjbnaa
