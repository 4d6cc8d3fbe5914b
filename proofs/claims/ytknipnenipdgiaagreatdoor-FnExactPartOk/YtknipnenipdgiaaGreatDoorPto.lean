
/-
  A state of a partition, laid anew by the laws' copy: its lists are new, its numbers the same. Conditions: the lengths are at most 1048576.
-/
import Derived.Test.YtknipnenipdgiaaGreatDoorBas
import Derived.Test.YtknipnenipdgiaaGreatDoorPst
import Derived.Test.YtknipnenipdgiaaGreatDoorTbe
import Derived.Test.YtknipnenipdgiaaGreatDoorRul
namespace Go.Proofs.YtknipnenipdgiaaGreatDoor
open Go.ChangeShapes Go.WideShapes Go.ChangeAt Go.RowKit Go.Deep Go.Joins
set_option linter.unusedVariables false

/-- A block of n cells, the first of which have been laid. -/
structure LayP (w : World) (B n : Nat) (done : List Value) : Prop where
  lt : B < w.heap.size
  row : ∃ cur : List Value, w.heap[B]? = some (.cells cur.toArray 73 (0, 0)) ∧ cur.length = n
  free : ∀ j, w.frozen? ⟨B, j, none⟩ = false
  room : ∀ j, j < n → ∃ u, w.cell? ⟨B, j, none⟩ = some u
  cells : CellsAt w B 0 done
theorem LayP.below {w w' : World} {B n : Nat} {done : List Value} (h : LayP w B n done) (hb : Below w.heap.size w w') : LayP w' B n done :=
  ⟨Nat.lt_of_lt_of_le h.lt hb.size, by
    obtain ⟨cur, h1, h2⟩ := h.row
    exact ⟨cur, by rw [hb.block B h.lt]; exact h1, h2⟩, fun j => (hb.frozen (p := ⟨B, j, none⟩) h.lt).trans (h.free j), fun j hj => by
    obtain ⟨u, hu⟩ := h.room j hj
    exact ⟨u, (hb.cell (p := ⟨B, j, none⟩) h.lt).trans hu⟩, h.cells.below hb⟩
theorem LayP.new (w : World) (cs : Array Value) (B n : Nat) (done : List Value) (hB : B = w.heap.size) (hn : cs.size = n) (hd : ∀ (j : Nat) (v : Value), done[j]? = some v → cs[j]? = some v) : LayP (w.alloc (.cells cs 73)) B n done := by
  subst hB
  refine ⟨by simp, ⟨cs.toList, by show (w.heap.push _)[w.heap.size]? = _; simp, by simpa using hn⟩, fun j => by simp, fun j hj => ⟨_, new_cell w cs _ j _ (Array.getElem?_eq_getElem (by omega))⟩, fun j v hj => ?_⟩
  rw [Nat.zero_add]
  exact new_cell w cs _ j v (hd j v hj)
theorem LayP.alloc {w : World} {B n : Nat} {done : List Value} (h : LayP w B n done) (ob : Obj) : LayP (w.alloc ob) B n done := h.below ((Below.refl _ _).alloc (Nat.le_refl _) _)
theorem LayP.other {w : World} {B B' o n : Nat} {done : List Value} (vs : List Value) (h : LayP w B n done) (hn : B' ≠ B) : LayP (setAll w B' o vs) B n done :=
  ⟨by rw [setAll_size]; exact h.lt, by rw [block_other vs hn]; exact h.row, fun j => by rw [setAll_free]; exact h.free j, fun j hj => by rw [setAll_other _ _ _ _ _ _ (.inl (fun e => hn e.symm))]; exact h.room j hj, fun j v hj => by rw [setAll_other _ _ _ _ _ _ (.inl (fun e => hn e.symm))]; exact h.cells j v hj⟩
theorem LayP.put {w : World} {B n o : Nat} {done : List Value} (h : LayP w B n done) (vs : List Value) (ho : done.length = o) (hl : o + vs.length ≤ n) : LayP (setAll w B o vs) B n (done ++ vs) := by
  subst ho
  have hr : ∀ j, j < vs.length → ∃ u, w.cell? ⟨B, done.length + j, none⟩ = some u := fun j hj => h.room _ (by omega)
  have hc := setAll_cells B vs w done.length hr
  refine ⟨by rw [setAll_size]; exact h.lt, by
    obtain ⟨cur, h1, h2⟩ := h.row
    obtain ⟨cur', h3, h4⟩ := row_set vs done.length h1
    exact ⟨cur', h3, by rw [h4]; exact h2⟩, fun j => by rw [setAll_free]; exact h.free j, fun j hj => ?_, fun j v hj => ?_⟩
  · by_cases e : done.length ≤ j ∧ j < done.length + vs.length
    · obtain ⟨q, rfl⟩ : ∃ q, j = done.length + q := ⟨j - done.length, by omega⟩
      exact ⟨_, hc q _ (List.getElem?_eq_getElem (by omega))⟩
    · rw [setAll_other _ _ _ _ _ _ (.inr (by omega))]
      exact h.room j hj
  · rw [Nat.zero_add]
    by_cases e : j < done.length
    · rw [List.getElem?_append_left e] at hj
      rw [setAll_other _ _ _ _ _ _ (.inr (.inl e))]
      have := h.cells j v hj
      rw [Nat.zero_add] at this
      exact this
    · rw [List.getElem?_append_right (by omega)] at hj
      have := hc (j - done.length) v hj
      rw [show done.length + (j - done.length) = j by omega] at this
      exact this
theorem LayP.full {w : World} {B n : Nat} {done : List Value} (h : LayP w B n done) (hl : done.length = n) : w.heap[B]? = some (.cells done.toArray 73 (0, 0)) := by
  obtain ⟨cur, h1, h2⟩ := h.row
  have e : cur = done := by
    apply List.ext_getElem?
    intro j
    by_cases hj : j < done.length
    · have hc := cell0 h.cells j (List.getElem?_eq_getElem hj)
      rw [cell_of_row w B j cur.toArray _ _ h1] at hc
      rw [List.getElem?_eq_getElem hj]
      simpa using hc
    · rw [List.getElem?_eq_none (by omega), List.getElem?_eq_none (by omega)]
  rw [← e]
  exact h1

theorem res_part {W : World} {B : Nat} {cs : Array Value} {tmps : Array Value} (h : W.heap[B]? = some (.cells cs 73 (0, 0))) (hl : cs.size = 27) (ht : tmps[2]? = some (.pointer (some ⟨B, 0, none⟩))) : (results Tryz.f12 tmps).run Tryz.prog W = .ok (.agg cs) W := by
  have hld : (loadVar 73 ⟨B, 0, none⟩).run Tryz.prog W = .ok (.agg cs) W := run_loadVar_row (P := Tryz.prog) W B 73 73 cs (0, 0) _ h Tryz.underlying73 rfl (by rw [hl]; kernel_rfl)
  unfold results
  rw [Tryz.results12]
  simp [ht, asAddr, hld]
theorem setAll_betw {lo hi B : Nat} (h1 : lo ≤ B) (h2 : B < hi) (vs : List Value) : ∀ {w0 w : World} (o : Nat), Betw lo hi w0 w → Betw lo hi w0 (setAll w B o vs) := by
  induction vs with
  | nil => intro w0 w o h; exact h
  | cons v vs ih => intro w0 w o h; unfold setAll; exact ih _ (h.trans ⟨rfl, rfl, rfl, by simp [World.setCell], fun k hk ho => Below.heap_setCell _ _ _ _ (by simp; omega)⟩)
theorem setRow_betw {lo hi B : Nat} {w : World} (h1 : lo ≤ B) (h2 : B < hi) (cs : Array Value) : Betw lo hi w (w.setRow B cs) :=
  ⟨rfl, rfl, rfl, by rw [setRow_size]; exact Nat.le_refl _, fun k hk ho => setRow_other w B k cs (by omega)⟩
theorem oe_betw {w w' : World} {lo hi B n l' h' : Nat} {H : Nat → Int} {D : Nat → List Int} (h : OEnds w lo hi B n H D) (hb : Betw l' h' w w') (ho : h' ≤ lo) : OSeg w' (some ⟨B, 0, none⟩) n H D := fun h0 => by
  obtain ⟨h1, h2⟩ := h
  obtain ⟨A, C, R, hr⟩ := h2.rows
  have hB : B < w.heap.size := Nat.lt_of_lt_of_le h2.lt h2.mle
  have hl := h2.low
  exact ⟨B, 0, rfl, Nat.lt_of_lt_of_le hB hb.size, fun i hi => ⟨A i, C i, by rw [Nat.zero_add, hb.cell (p := ⟨B, i * 2, none⟩) hB (.inr (by simp; omega))]; exact h1.done i hi, (hb.cell (p := ⟨B, 0 + i * 2 + 1, none⟩) hB (.inr (by simp; omega))).trans (hr.cell i hi), ((hr.row i hi).betw hb (fun h0 => by obtain ⟨_, _, g1, g2, _⟩ := hr.row i hi h0; omega)).seg, hr.room i hi⟩⟩
set_option maxRecDepth 40000 in
set_option maxHeartbeats 8000000 in
theorem to_pst (y : Ps) (d : Pd) (w : World) (hs : PSeg w y d) (hl : PLen y d) (hf : PFit y d) :
    Calls Tryz.prog 12 #[psV y] w fun e w' => ∃ z, e = .returned (psV z) ∧ Below w.heap.size w w' ∧ PSeg w' z d ∧ PLike y z ∧ z.tn ≤ z.tc := by
  have HS : Hid (PSeg w y d) := hs
  have HL : Hid (PLen y d) := hl
  have HF : Hid (PFit y d) := hf
  clear hs hl hf
  have HB0 : Hid (Below w.heap.size w (((w.alloc (.cells (psA y) 50)).alloc (.cells #[.slice none 0 0, .int .u32 0, .slice none 0 0, .bool false, .int .u32 0, .int .u32 0, .int .u32 0, .int .u32 0, .bool false, .bool false, .int .u32 0, .int .i64 0, .int .i64 0, .int .i64 0, .bool false, .int .i64 0, .int .i64 0, .int .i64 0, .slice none 0 0, .int .i64 0, .slice none 0 0, .int .i64 0, .bool false, .slice none 0 0, .slice none 0 0, .slice none 0 0, .slice none 0 0] 73)).alloc (.cells #[.slice none 0 0, .int .u32 0, .slice none 0 0, .bool false, .int .u32 0, .int .u32 0, .int .u32 0, .int .u32 0, .bool false, .bool false, .int .u32 0, .int .i64 0, .int .i64 0, .int .i64 0, .bool false, .int .i64 0, .int .i64 0, .int .i64 0, .slice none 0 0, .int .i64 0, .slice none 0 0, .int .i64 0, .bool false, .slice none 0 0, .slice none 0 0, .slice none 0 0, .slice none 0 0] 73))) := (((Below.refl _ _).alloc (Nat.le_refl _) _).alloc (by simp) _).alloc (by simp; omega) _
  have KB0 : Hid (PBx (((w.alloc (.cells (psA y) 50)).alloc (.cells #[.slice none 0 0, .int .u32 0, .slice none 0 0, .bool false, .int .u32 0, .int .u32 0, .int .u32 0, .int .u32 0, .bool false, .bool false, .int .u32 0, .int .i64 0, .int .i64 0, .int .i64 0, .bool false, .int .i64 0, .int .i64 0, .int .i64 0, .slice none 0 0, .int .i64 0, .slice none 0 0, .int .i64 0, .bool false, .slice none 0 0, .slice none 0 0, .slice none 0 0, .slice none 0 0] 73)).alloc (.cells #[.slice none 0 0, .int .u32 0, .slice none 0 0, .bool false, .int .u32 0, .int .u32 0, .int .u32 0, .int .u32 0, .bool false, .bool false, .int .u32 0, .int .i64 0, .int .i64 0, .int .i64 0, .bool false, .int .i64 0, .int .i64 0, .int .i64 0, .slice none 0 0, .int .i64 0, .slice none 0 0, .int .i64 0, .bool false, .slice none 0 0, .slice none 0 0, .slice none 0 0, .slice none 0 0] 73)) w.heap.size 50 y) := ((PBx.new w _ y _ rfl).below ((Below.refl _ _).alloc (Nat.le_refl _) _)).below ((Below.refl _ _).alloc (Nat.le_refl _) _)
  have KR0 : Hid (LayP (((w.alloc (.cells (psA y) 50)).alloc (.cells #[.slice none 0 0, .int .u32 0, .slice none 0 0, .bool false, .int .u32 0, .int .u32 0, .int .u32 0, .int .u32 0, .bool false, .bool false, .int .u32 0, .int .i64 0, .int .i64 0, .int .i64 0, .bool false, .int .i64 0, .int .i64 0, .int .i64 0, .slice none 0 0, .int .i64 0, .slice none 0 0, .int .i64 0, .bool false, .slice none 0 0, .slice none 0 0, .slice none 0 0, .slice none 0 0] 73)).alloc (.cells #[.slice none 0 0, .int .u32 0, .slice none 0 0, .bool false, .int .u32 0, .int .u32 0, .int .u32 0, .int .u32 0, .bool false, .bool false, .int .u32 0, .int .i64 0, .int .i64 0, .int .i64 0, .bool false, .int .i64 0, .int .i64 0, .int .i64 0, .slice none 0 0, .int .i64 0, .slice none 0 0, .int .i64 0, .bool false, .slice none 0 0, .slice none 0 0, .slice none 0 0, .slice none 0 0] 73)) (w.heap.size + 1) 27 []) := (LayP.new _ _ _ _ [] (by simp) rfl (fun j v h => by simp at h)).alloc _
  have KO0 : Hid (LayP (((w.alloc (.cells (psA y) 50)).alloc (.cells #[.slice none 0 0, .int .u32 0, .slice none 0 0, .bool false, .int .u32 0, .int .u32 0, .int .u32 0, .int .u32 0, .bool false, .bool false, .int .u32 0, .int .i64 0, .int .i64 0, .int .i64 0, .bool false, .int .i64 0, .int .i64 0, .int .i64 0, .slice none 0 0, .int .i64 0, .slice none 0 0, .int .i64 0, .bool false, .slice none 0 0, .slice none 0 0, .slice none 0 0, .slice none 0 0] 73)).alloc (.cells #[.slice none 0 0, .int .u32 0, .slice none 0 0, .bool false, .int .u32 0, .int .u32 0, .int .u32 0, .int .u32 0, .bool false, .bool false, .int .u32 0, .int .i64 0, .int .i64 0, .int .i64 0, .bool false, .int .i64 0, .int .i64 0, .int .i64 0, .slice none 0 0, .int .i64 0, .slice none 0 0, .int .i64 0, .bool false, .slice none 0 0, .slice none 0 0, .slice none 0 0, .slice none 0 0] 73)) (w.heap.size + 2) 27 []) := LayP.new _ _ _ _ [] (by simp) rfl (fun j v h => by simp at h)
  have HZ0 : Hid (w.heap.size + 3 ≤ (((w.alloc (.cells (psA y) 50)).alloc (.cells #[.slice none 0 0, .int .u32 0, .slice none 0 0, .bool false, .int .u32 0, .int .u32 0, .int .u32 0, .int .u32 0, .bool false, .bool false, .int .u32 0, .int .i64 0, .int .i64 0, .int .i64 0, .bool false, .int .i64 0, .int .i64 0, .int .i64 0, .slice none 0 0, .int .i64 0, .slice none 0 0, .int .i64 0, .bool false, .slice none 0 0, .slice none 0 0, .slice none 0 0, .slice none 0 0] 73)).alloc (.cells #[.slice none 0 0, .int .u32 0, .slice none 0 0, .bool false, .int .u32 0, .int .u32 0, .int .u32 0, .int .u32 0, .bool false, .bool false, .int .u32 0, .int .i64 0, .int .i64 0, .int .i64 0, .bool false, .int .i64 0, .int .i64 0, .int .i64 0, .slice none 0 0, .int .i64 0, .slice none 0 0, .int .i64 0, .bool false, .slice none 0 0, .slice none 0 0, .slice none 0 0, .slice none 0 0] 73)).heap.size) := by show _ ≤ _; simp
  have c0 : (((w.alloc (.cells (psA y) 50)).alloc (.cells #[.slice none 0 0, .int .u32 0, .slice none 0 0, .bool false, .int .u32 0, .int .u32 0, .int .u32 0, .int .u32 0, .bool false, .bool false, .int .u32 0, .int .i64 0, .int .i64 0, .int .i64 0, .bool false, .int .i64 0, .int .i64 0, .int .i64 0, .slice none 0 0, .int .i64 0, .slice none 0 0, .int .i64 0, .bool false, .slice none 0 0, .slice none 0 0, .slice none 0 0, .slice none 0 0] 73)).alloc (.cells #[.slice none 0 0, .int .u32 0, .slice none 0 0, .bool false, .int .u32 0, .int .u32 0, .int .u32 0, .int .u32 0, .bool false, .bool false, .int .u32 0, .int .i64 0, .int .i64 0, .int .i64 0, .bool false, .int .i64 0, .int .i64 0, .int .i64 0, .slice none 0 0, .int .i64 0, .slice none 0 0, .int .i64 0, .bool false, .slice none 0 0, .slice none 0 0, .slice none 0 0, .slice none 0 0] 73)).cell? ⟨w.heap.size, 0, none⟩ = some (.slice y.ra y.rl y.rc) := KB0.out.cell 0 rfl
  have c1 : (((w.alloc (.cells (psA y) 50)).alloc (.cells #[.slice none 0 0, .int .u32 0, .slice none 0 0, .bool false, .int .u32 0, .int .u32 0, .int .u32 0, .int .u32 0, .bool false, .bool false, .int .u32 0, .int .i64 0, .int .i64 0, .int .i64 0, .bool false, .int .i64 0, .int .i64 0, .int .i64 0, .slice none 0 0, .int .i64 0, .slice none 0 0, .int .i64 0, .bool false, .slice none 0 0, .slice none 0 0, .slice none 0 0, .slice none 0 0] 73)).alloc (.cells #[.slice none 0 0, .int .u32 0, .slice none 0 0, .bool false, .int .u32 0, .int .u32 0, .int .u32 0, .int .u32 0, .bool false, .bool false, .int .u32 0, .int .i64 0, .int .i64 0, .int .i64 0, .bool false, .int .i64 0, .int .i64 0, .int .i64 0, .slice none 0 0, .int .i64 0, .slice none 0 0, .int .i64 0, .bool false, .slice none 0 0, .slice none 0 0, .slice none 0 0, .slice none 0 0] 73)).cell? ⟨w.heap.size, 1, none⟩ = some (.int .u32 y.pc) := KB0.out.cell 1 rfl
  have c2 : (((w.alloc (.cells (psA y) 50)).alloc (.cells #[.slice none 0 0, .int .u32 0, .slice none 0 0, .bool false, .int .u32 0, .int .u32 0, .int .u32 0, .int .u32 0, .bool false, .bool false, .int .u32 0, .int .i64 0, .int .i64 0, .int .i64 0, .bool false, .int .i64 0, .int .i64 0, .int .i64 0, .slice none 0 0, .int .i64 0, .slice none 0 0, .int .i64 0, .bool false, .slice none 0 0, .slice none 0 0, .slice none 0 0, .slice none 0 0] 73)).alloc (.cells #[.slice none 0 0, .int .u32 0, .slice none 0 0, .bool false, .int .u32 0, .int .u32 0, .int .u32 0, .int .u32 0, .bool false, .bool false, .int .u32 0, .int .i64 0, .int .i64 0, .int .i64 0, .bool false, .int .i64 0, .int .i64 0, .int .i64 0, .slice none 0 0, .int .i64 0, .slice none 0 0, .int .i64 0, .bool false, .slice none 0 0, .slice none 0 0, .slice none 0 0, .slice none 0 0] 73)).cell? ⟨w.heap.size, 2, none⟩ = some (.slice y.ma y.mn y.mc) := KB0.out.cell 2 rfl
  go_enter Tryz.func12, Tryz.ntmps12
  go_wp2_with fail
  revert HB0 KB0 KR0 KO0 HZ0
  clear c0 c1 c2
  generalize (((w.alloc (.cells (psA y) 50)).alloc (.cells #[.slice none 0 0, .int .u32 0, .slice none 0 0, .bool false, .int .u32 0, .int .u32 0, .int .u32 0, .int .u32 0, .bool false, .bool false, .int .u32 0, .int .i64 0, .int .i64 0, .int .i64 0, .bool false, .int .i64 0, .int .i64 0, .int .i64 0, .slice none 0 0, .int .i64 0, .slice none 0 0, .int .i64 0, .bool false, .slice none 0 0, .slice none 0 0, .slice none 0 0, .slice none 0 0] 73)).alloc (.cells #[.slice none 0 0, .int .u32 0, .slice none 0 0, .bool false, .int .u32 0, .int .u32 0, .int .u32 0, .int .u32 0, .bool false, .bool false, .int .u32 0, .int .i64 0, .int .i64 0, .int .i64 0, .bool false, .int .i64 0, .int .i64 0, .int .i64 0, .slice none 0 0, .int .i64 0, .slice none 0 0, .int .i64 0, .bool false, .slice none 0 0, .slice none 0 0, .slice none 0 0, .slice none 0 0] 73)) = X0
  intro HB0 KB0 KR0 KO0 HZ0
  refine Calls.mono (to_guest y.pc y.ra y.ma y.rl y.rc y.mn y.mc d.R d.D _ ⟨(HS.out.below HB0.out).r, (HS.out.below HB0.out).g⟩ HL.out.zr HF.out.zrl HF.out.zn HF.out.zD) ?_
  rintro e w1 ⟨ra', ma', m', rfl, hb, ho, hm1, hm2⟩
  have HO1 : Hid (OGst w1 X0.heap.size m' w1.heap.size ra' ma' d.R y.mn d.D ∧ X0.heap.size ≤ m' ∧ m' ≤ w1.heap.size) := ⟨ho, hm1, hm2⟩
  have HG1 : Hid (w.heap.size + 3 ≤ X0.heap.size) := HZ0
  clear ho hm1 hm2
  have HT1 : Hid (Betw (w.heap.size + 1) (w.heap.size + 3) w1 w1) := Betw.refl _ _ _
  have HB1w : Hid (Below w.heap.size w w1) := HB0.out.trans (hb.mono HB0.out.size)
  have KB1w : Hid (PBx w1 w.heap.size 50 y) := KB0.out.below hb
  have KR1w : Hid (LayP w1 (w.heap.size + 1) 27 []) := KR0.out.below hb
  have KO1w : Hid (LayP w1 (w.heap.size + 2) 27 []) := KO0.out.below hb
  have HZ1w : Hid (w.heap.size + 3 ≤ w1.heap.size) := Nat.le_trans HZ0.out hb.size
  clear hb HB0 KB0 KR0 KO0 HZ0
  have HB1 : Hid (Below w.heap.size w (setAll w1 (w.heap.size + 2) 0 [.slice ra' y.rl y.rl, .int .u32 y.pc, .slice ma' y.mn y.mn])) := setAll_below (by omega) _ _ HB1w.out
  have KB1 : Hid (PBx (setAll w1 (w.heap.size + 2) 0 [.slice ra' y.rl y.rl, .int .u32 y.pc, .slice ma' y.mn y.mn]) w.heap.size 50 y) := by show _ = _; rw [block_other [.slice ra' y.rl y.rl, .int .u32 y.pc, .slice ma' y.mn y.mn] (by omega)]; exact KB1w.out
  have KR1 : Hid (LayP (setAll w1 (w.heap.size + 2) 0 [.slice ra' y.rl y.rl, .int .u32 y.pc, .slice ma' y.mn y.mn]) (w.heap.size + 1) 27 []) := KR1w.out.other _ (by omega)
  have KO1 : Hid (LayP (setAll w1 (w.heap.size + 2) 0 [.slice ra' y.rl y.rl, .int .u32 y.pc, .slice ma' y.mn y.mn]) (w.heap.size + 2) 27 [.slice ra' y.rl y.rl, .int .u32 y.pc, .slice ma' y.mn y.mn]) := KO1w.out.put (o := 0) [.slice ra' y.rl y.rl, .int .u32 y.pc, .slice ma' y.mn y.mn] rfl (by simp)
  have HZ1 : Hid (w.heap.size + 3 ≤ (setAll w1 (w.heap.size + 2) 0 [.slice ra' y.rl y.rl, .int .u32 y.pc, .slice ma' y.mn y.mn]).heap.size) := by show _ ≤ _; rw [setAll_size]; exact HZ1w.out
  replace HT1 : Hid (Betw (w.heap.size + 1) (w.heap.size + 3) w1 (setAll w1 (w.heap.size + 2) 0 [.slice ra' y.rl y.rl, .int .u32 y.pc, .slice ma' y.mn y.mn])) := setAll_betw (by omega) (by omega) _ _ HT1.out
  simp only [setAll] at HB1 KB1 KR1 KO1 HZ1 HT1
  obtain ⟨ou0, o0⟩ := KO1w.out.room 0 (by omega)
  obtain ⟨ou1, o1⟩ := KO1w.out.room 1 (by omega)
  obtain ⟨ou2, o2⟩ := KO1w.out.room 2 (by omega)
  have of := KO1w.out.free
  have c3 : w1.cell? ⟨w.heap.size, 3, none⟩ = some (.bool y.on) := KB1w.out.cell 3 rfl
  have c4 : w1.cell? ⟨w.heap.size, 4, none⟩ = some (.int .u32 y.vv) := KB1w.out.cell 4 rfl
  have c5 : w1.cell? ⟨w.heap.size, 5, none⟩ = some (.int .u32 y.vs) := KB1w.out.cell 5 rfl
  have c6 : w1.cell? ⟨w.heap.size, 6, none⟩ = some (.int .u32 y.vc) := KB1w.out.cell 6 rfl
  have c7 : w1.cell? ⟨w.heap.size, 7, none⟩ = some (.int .u32 y.vk) := KB1w.out.cell 7 rfl
  have c8 : w1.cell? ⟨w.heap.size, 8, none⟩ = some (.bool y.vt) := KB1w.out.cell 8 rfl
  have c9 : w1.cell? ⟨w.heap.size, 9, none⟩ = some (.bool y.vn) := KB1w.out.cell 9 rfl
  have c10 : w1.cell? ⟨w.heap.size, 10, none⟩ = some (.int .u32 y.vp) := KB1w.out.cell 10 rfl
  clear HB1w KB1w KR1w KO1w HZ1w
  go_wp2_with fail
  clear o0 o1 o2 of c3 c4 c5 c6 c7 c8 c9 c10
  revert HB1 KB1 KR1 KO1 HZ1 HT1
  generalize ((w1.setCell ⟨w.heap.size + 2, 0, none⟩ (.slice ra' y.rl y.rl)).setCell ⟨w.heap.size + 2, 1, none⟩ (.int .u32 y.pc)).setCell ⟨w.heap.size + 2, 2, none⟩ (.slice ma' y.mn y.mn) = X1
  intro HB1 KB1 KR1 KO1 HZ1 HT1
  refine Calls.mono (to_virt y.on y.vv y.vs y.vc y.vk y.vt y.vn y.vp _) ?_
  rintro e w2 ⟨rfl, hb⟩
  replace HT1 : Hid (Betw (w.heap.size + 1) (w.heap.size + 3) w1 w2) := HT1.out.trans (Below.betw hb)
  have HB2w : Hid (Below w.heap.size w w2) := HB1.out.trans (hb.mono HB1.out.size)
  have KB2w : Hid (PBx w2 w.heap.size 50 y) := KB1.out.below hb
  have KR2w : Hid (LayP w2 (w.heap.size + 1) 27 []) := KR1.out.below hb
  have KO2w : Hid (LayP w2 (w.heap.size + 2) 27 [.slice ra' y.rl y.rl, .int .u32 y.pc, .slice ma' y.mn y.mn]) := KO1.out.below hb
  have HZ2w : Hid (w.heap.size + 3 ≤ w2.heap.size) := Nat.le_trans HZ1.out hb.size
  clear hb HB1 KB1 KR1 KO1 HZ1
  have HB2 : Hid (Below w.heap.size w (setAll w2 (w.heap.size + 2) 3 [.bool y.on, .int .u32 y.vv, .int .u32 y.vs, .int .u32 y.vc, .int .u32 y.vk, .bool y.vt, .bool y.vn, .int .u32 y.vp])) := setAll_below (by omega) _ _ HB2w.out
  have KB2 : Hid (PBx (setAll w2 (w.heap.size + 2) 3 [.bool y.on, .int .u32 y.vv, .int .u32 y.vs, .int .u32 y.vc, .int .u32 y.vk, .bool y.vt, .bool y.vn, .int .u32 y.vp]) w.heap.size 50 y) := by show _ = _; rw [block_other [.bool y.on, .int .u32 y.vv, .int .u32 y.vs, .int .u32 y.vc, .int .u32 y.vk, .bool y.vt, .bool y.vn, .int .u32 y.vp] (by omega)]; exact KB2w.out
  have KR2 : Hid (LayP (setAll w2 (w.heap.size + 2) 3 [.bool y.on, .int .u32 y.vv, .int .u32 y.vs, .int .u32 y.vc, .int .u32 y.vk, .bool y.vt, .bool y.vn, .int .u32 y.vp]) (w.heap.size + 1) 27 []) := KR2w.out.other _ (by omega)
  have KO2 : Hid (LayP (setAll w2 (w.heap.size + 2) 3 [.bool y.on, .int .u32 y.vv, .int .u32 y.vs, .int .u32 y.vc, .int .u32 y.vk, .bool y.vt, .bool y.vn, .int .u32 y.vp]) (w.heap.size + 2) 27 [.slice ra' y.rl y.rl, .int .u32 y.pc, .slice ma' y.mn y.mn, .bool y.on, .int .u32 y.vv, .int .u32 y.vs, .int .u32 y.vc, .int .u32 y.vk, .bool y.vt, .bool y.vn, .int .u32 y.vp]) := KO2w.out.put (o := 3) [.bool y.on, .int .u32 y.vv, .int .u32 y.vs, .int .u32 y.vc, .int .u32 y.vk, .bool y.vt, .bool y.vn, .int .u32 y.vp] rfl (by simp)
  have HZ2 : Hid (w.heap.size + 3 ≤ (setAll w2 (w.heap.size + 2) 3 [.bool y.on, .int .u32 y.vv, .int .u32 y.vs, .int .u32 y.vc, .int .u32 y.vk, .bool y.vt, .bool y.vn, .int .u32 y.vp]).heap.size) := by show _ ≤ _; rw [setAll_size]; exact HZ2w.out
  replace HT1 : Hid (Betw (w.heap.size + 1) (w.heap.size + 3) w1 (setAll w2 (w.heap.size + 2) 3 [.bool y.on, .int .u32 y.vv, .int .u32 y.vs, .int .u32 y.vc, .int .u32 y.vk, .bool y.vt, .bool y.vn, .int .u32 y.vp])) := setAll_betw (by omega) (by omega) _ _ HT1.out
  simp only [setAll] at HB2 KB2 KR2 KO2 HZ2 HT1
  obtain ⟨ou3, o3⟩ := KO2w.out.room 3 (by omega)
  obtain ⟨ou4, o4⟩ := KO2w.out.room 4 (by omega)
  obtain ⟨ou5, o5⟩ := KO2w.out.room 5 (by omega)
  obtain ⟨ou6, o6⟩ := KO2w.out.room 6 (by omega)
  obtain ⟨ou7, o7⟩ := KO2w.out.room 7 (by omega)
  obtain ⟨ou8, o8⟩ := KO2w.out.room 8 (by omega)
  obtain ⟨ou9, o9⟩ := KO2w.out.room 9 (by omega)
  obtain ⟨ou10, o10⟩ := KO2w.out.room 10 (by omega)
  have of := KO2w.out.free
  have c11 : w2.cell? ⟨w.heap.size, 11, none⟩ = some (.int .i64 y.hf) := KB2w.out.cell 11 rfl
  have c12 : w2.cell? ⟨w.heap.size, 12, none⟩ = some (.int .i64 y.hr) := KB2w.out.cell 12 rfl
  have c13 : w2.cell? ⟨w.heap.size, 13, none⟩ = some (.int .i64 y.hl) := KB2w.out.cell 13 rfl
  have c14 : w2.cell? ⟨w.heap.size, 14, none⟩ = some (.bool y.hh) := KB2w.out.cell 14 rfl
  clear HB2w KB2w KR2w KO2w HZ2w
  go_wp2_with fail
  clear o3 o4 o5 o6 o7 o8 o9 o10 of c11 c12 c13 c14
  revert HB2 KB2 KR2 KO2 HZ2 HT1
  generalize (((((((w2.setCell ⟨w.heap.size + 2, 3, none⟩ (.bool y.on)).setCell ⟨w.heap.size + 2, 4, none⟩ (.int .u32 y.vv)).setCell ⟨w.heap.size + 2, 5, none⟩ (.int .u32 y.vs)).setCell ⟨w.heap.size + 2, 6, none⟩ (.int .u32 y.vc)).setCell ⟨w.heap.size + 2, 7, none⟩ (.int .u32 y.vk)).setCell ⟨w.heap.size + 2, 8, none⟩ (.bool y.vt)).setCell ⟨w.heap.size + 2, 9, none⟩ (.bool y.vn)).setCell ⟨w.heap.size + 2, 10, none⟩ (.int .u32 y.vp) = X2
  intro HB2 KB2 KR2 KO2 HZ2 HT1
  refine Calls.mono (to_health y.hf y.hr y.hl y.hh _) ?_
  rintro e w3 ⟨rfl, hb⟩
  replace HT1 : Hid (Betw (w.heap.size + 1) (w.heap.size + 3) w1 w3) := HT1.out.trans (Below.betw hb)
  have HB3w : Hid (Below w.heap.size w w3) := HB2.out.trans (hb.mono HB2.out.size)
  have KB3w : Hid (PBx w3 w.heap.size 50 y) := KB2.out.below hb
  have KR3w : Hid (LayP w3 (w.heap.size + 1) 27 []) := KR2.out.below hb
  have KO3w : Hid (LayP w3 (w.heap.size + 2) 27 [.slice ra' y.rl y.rl, .int .u32 y.pc, .slice ma' y.mn y.mn, .bool y.on, .int .u32 y.vv, .int .u32 y.vs, .int .u32 y.vc, .int .u32 y.vk, .bool y.vt, .bool y.vn, .int .u32 y.vp]) := KO2.out.below hb
  have HZ3w : Hid (w.heap.size + 3 ≤ w3.heap.size) := Nat.le_trans HZ2.out hb.size
  clear hb HB2 KB2 KR2 KO2 HZ2
  have HB3 : Hid (Below w.heap.size w (setAll w3 (w.heap.size + 2) 11 [.int .i64 y.hf, .int .i64 y.hr, .int .i64 y.hl, .bool y.hh])) := setAll_below (by omega) _ _ HB3w.out
  have KB3 : Hid (PBx (setAll w3 (w.heap.size + 2) 11 [.int .i64 y.hf, .int .i64 y.hr, .int .i64 y.hl, .bool y.hh]) w.heap.size 50 y) := by show _ = _; rw [block_other [.int .i64 y.hf, .int .i64 y.hr, .int .i64 y.hl, .bool y.hh] (by omega)]; exact KB3w.out
  have KR3 : Hid (LayP (setAll w3 (w.heap.size + 2) 11 [.int .i64 y.hf, .int .i64 y.hr, .int .i64 y.hl, .bool y.hh]) (w.heap.size + 1) 27 []) := KR3w.out.other _ (by omega)
  have KO3 : Hid (LayP (setAll w3 (w.heap.size + 2) 11 [.int .i64 y.hf, .int .i64 y.hr, .int .i64 y.hl, .bool y.hh]) (w.heap.size + 2) 27 [.slice ra' y.rl y.rl, .int .u32 y.pc, .slice ma' y.mn y.mn, .bool y.on, .int .u32 y.vv, .int .u32 y.vs, .int .u32 y.vc, .int .u32 y.vk, .bool y.vt, .bool y.vn, .int .u32 y.vp, .int .i64 y.hf, .int .i64 y.hr, .int .i64 y.hl, .bool y.hh]) := KO3w.out.put (o := 11) [.int .i64 y.hf, .int .i64 y.hr, .int .i64 y.hl, .bool y.hh] rfl (by simp)
  have HZ3 : Hid (w.heap.size + 3 ≤ (setAll w3 (w.heap.size + 2) 11 [.int .i64 y.hf, .int .i64 y.hr, .int .i64 y.hl, .bool y.hh]).heap.size) := by show _ ≤ _; rw [setAll_size]; exact HZ3w.out
  replace HT1 : Hid (Betw (w.heap.size + 1) (w.heap.size + 3) w1 (setAll w3 (w.heap.size + 2) 11 [.int .i64 y.hf, .int .i64 y.hr, .int .i64 y.hl, .bool y.hh])) := setAll_betw (by omega) (by omega) _ _ HT1.out
  simp only [setAll] at HB3 KB3 KR3 KO3 HZ3 HT1
  obtain ⟨ou11, o11⟩ := KO3w.out.room 11 (by omega)
  obtain ⟨ou12, o12⟩ := KO3w.out.room 12 (by omega)
  obtain ⟨ou13, o13⟩ := KO3w.out.room 13 (by omega)
  obtain ⟨ou14, o14⟩ := KO3w.out.room 14 (by omega)
  have of := KO3w.out.free
  have c15 : w3.cell? ⟨w.heap.size, 15, none⟩ = some (.int .i64 y.cs) := KB3w.out.cell 15 rfl
  have c16 : w3.cell? ⟨w.heap.size, 16, none⟩ = some (.int .i64 y.cy) := KB3w.out.cell 16 rfl
  have c17 : w3.cell? ⟨w.heap.size, 17, none⟩ = some (.int .i64 y.cl) := KB3w.out.cell 17 rfl
  have c18 : w3.cell? ⟨w.heap.size, 18, none⟩ = some (.slice y.ka y.kn y.kc) := KB3w.out.cell 18 rfl
  clear HB3w KB3w KR3w KO3w HZ3w
  go_wp2_with fail
  clear o11 o12 o13 o14 of c15 c16 c17 c18
  revert HB3 KB3 KR3 KO3 HZ3 HT1
  generalize (((w3.setCell ⟨w.heap.size + 2, 11, none⟩ (.int .i64 y.hf)).setCell ⟨w.heap.size + 2, 12, none⟩ (.int .i64 y.hr)).setCell ⟨w.heap.size + 2, 13, none⟩ (.int .i64 y.hl)).setCell ⟨w.heap.size + 2, 14, none⟩ (.bool y.hh) = X3
  intro HB3 KB3 KR3 KO3 HZ3 HT1
  refine Calls.mono (Cw.to_cache y.cs y.cy y.cl y.ka y.kc y.kn d.E _ (HS.out.below HB3.out).c HF.out.zkn HF.out.zE) ?_
  rintro e w4 ⟨ka', rfl, hb, ho⟩
  have HO4 : Hid (ORows w4 X3.heap.size w4.heap.size ka' y.kn d.E) := ho
  have HG4 : Hid (w.heap.size + 3 ≤ X3.heap.size) := HZ3
  clear ho
  have HT4 : Hid (Betw (w.heap.size + 1) (w.heap.size + 3) w4 w4) := Betw.refl _ _ _
  replace HT1 : Hid (Betw (w.heap.size + 1) (w.heap.size + 3) w1 w4) := HT1.out.trans (Below.betw hb)
  have HB4w : Hid (Below w.heap.size w w4) := HB3.out.trans (hb.mono HB3.out.size)
  have KB4w : Hid (PBx w4 w.heap.size 50 y) := KB3.out.below hb
  have KR4w : Hid (LayP w4 (w.heap.size + 1) 27 []) := KR3.out.below hb
  have KO4w : Hid (LayP w4 (w.heap.size + 2) 27 [.slice ra' y.rl y.rl, .int .u32 y.pc, .slice ma' y.mn y.mn, .bool y.on, .int .u32 y.vv, .int .u32 y.vs, .int .u32 y.vc, .int .u32 y.vk, .bool y.vt, .bool y.vn, .int .u32 y.vp, .int .i64 y.hf, .int .i64 y.hr, .int .i64 y.hl, .bool y.hh]) := KO3.out.below hb
  have HZ4w : Hid (w.heap.size + 3 ≤ w4.heap.size) := Nat.le_trans HZ3.out hb.size
  clear hb HB3 KB3 KR3 KO3 HZ3
  have HB4 : Hid (Below w.heap.size w (setAll w4 (w.heap.size + 2) 15 [.int .i64 y.cs, .int .i64 y.cy, .int .i64 y.cl, .slice ka' y.kn y.kn])) := setAll_below (by omega) _ _ HB4w.out
  have KB4 : Hid (PBx (setAll w4 (w.heap.size + 2) 15 [.int .i64 y.cs, .int .i64 y.cy, .int .i64 y.cl, .slice ka' y.kn y.kn]) w.heap.size 50 y) := by show _ = _; rw [block_other [.int .i64 y.cs, .int .i64 y.cy, .int .i64 y.cl, .slice ka' y.kn y.kn] (by omega)]; exact KB4w.out
  have KR4 : Hid (LayP (setAll w4 (w.heap.size + 2) 15 [.int .i64 y.cs, .int .i64 y.cy, .int .i64 y.cl, .slice ka' y.kn y.kn]) (w.heap.size + 1) 27 []) := KR4w.out.other _ (by omega)
  have KO4 : Hid (LayP (setAll w4 (w.heap.size + 2) 15 [.int .i64 y.cs, .int .i64 y.cy, .int .i64 y.cl, .slice ka' y.kn y.kn]) (w.heap.size + 2) 27 [.slice ra' y.rl y.rl, .int .u32 y.pc, .slice ma' y.mn y.mn, .bool y.on, .int .u32 y.vv, .int .u32 y.vs, .int .u32 y.vc, .int .u32 y.vk, .bool y.vt, .bool y.vn, .int .u32 y.vp, .int .i64 y.hf, .int .i64 y.hr, .int .i64 y.hl, .bool y.hh, .int .i64 y.cs, .int .i64 y.cy, .int .i64 y.cl, .slice ka' y.kn y.kn]) := KO4w.out.put (o := 15) [.int .i64 y.cs, .int .i64 y.cy, .int .i64 y.cl, .slice ka' y.kn y.kn] rfl (by simp)
  have HZ4 : Hid (w.heap.size + 3 ≤ (setAll w4 (w.heap.size + 2) 15 [.int .i64 y.cs, .int .i64 y.cy, .int .i64 y.cl, .slice ka' y.kn y.kn]).heap.size) := by show _ ≤ _; rw [setAll_size]; exact HZ4w.out
  replace HT1 : Hid (Betw (w.heap.size + 1) (w.heap.size + 3) w1 (setAll w4 (w.heap.size + 2) 15 [.int .i64 y.cs, .int .i64 y.cy, .int .i64 y.cl, .slice ka' y.kn y.kn])) := setAll_betw (by omega) (by omega) _ _ HT1.out
  replace HT4 : Hid (Betw (w.heap.size + 1) (w.heap.size + 3) w4 (setAll w4 (w.heap.size + 2) 15 [.int .i64 y.cs, .int .i64 y.cy, .int .i64 y.cl, .slice ka' y.kn y.kn])) := setAll_betw (by omega) (by omega) _ _ HT4.out
  simp only [setAll] at HB4 KB4 KR4 KO4 HZ4 HT1 HT4
  obtain ⟨ou15, o15⟩ := KO4w.out.room 15 (by omega)
  obtain ⟨ou16, o16⟩ := KO4w.out.room 16 (by omega)
  obtain ⟨ou17, o17⟩ := KO4w.out.room 17 (by omega)
  obtain ⟨ou18, o18⟩ := KO4w.out.room 18 (by omega)
  have of := KO4w.out.free
  have c19 : w4.cell? ⟨w.heap.size, 19, none⟩ = some (.int .i64 y.ts) := KB4w.out.cell 19 rfl
  have c20 : w4.cell? ⟨w.heap.size, 20, none⟩ = some (.slice y.ta y.tn y.tc) := KB4w.out.cell 20 rfl
  clear HB4w KB4w KR4w KO4w HZ4w
  go_wp2_with fail
  clear o15 o16 o17 o18 of c19 c20
  revert HB4 KB4 KR4 KO4 HZ4 HT1 HT4
  generalize (((w4.setCell ⟨w.heap.size + 2, 15, none⟩ (.int .i64 y.cs)).setCell ⟨w.heap.size + 2, 16, none⟩ (.int .i64 y.cy)).setCell ⟨w.heap.size + 2, 17, none⟩ (.int .i64 y.cl)).setCell ⟨w.heap.size + 2, 18, none⟩ (.slice ka' y.kn y.kn) = X4
  intro HB4 KB4 KR4 KO4 HZ4 HT1 HT4
  refine Calls.mono (to_tlb y.ts y.ta y.tc y.tn d.Z _ (HS.out.below HB4.out).t HL.out.zz HF.out.ztn) ?_
  rintro e w5 ⟨tg, rfl, hb, ho⟩
  have HO5 : Hid (ON .i64 w5 X4.heap.size w5.heap.size (some ⟨tg, 0, none⟩) d.Z tg) := ho
  have HG5 : Hid (w.heap.size + 3 ≤ X4.heap.size) := HZ4
  clear ho
  have HT5 : Hid (Betw (w.heap.size + 1) (w.heap.size + 3) w5 w5) := Betw.refl _ _ _
  replace HT1 : Hid (Betw (w.heap.size + 1) (w.heap.size + 3) w1 w5) := HT1.out.trans (Below.betw hb)
  replace HT4 : Hid (Betw (w.heap.size + 1) (w.heap.size + 3) w4 w5) := HT4.out.trans (Below.betw hb)
  have HB5w : Hid (Below w.heap.size w w5) := HB4.out.trans (hb.mono HB4.out.size)
  have KB5w : Hid (PBx w5 w.heap.size 50 y) := KB4.out.below hb
  have KR5w : Hid (LayP w5 (w.heap.size + 1) 27 []) := KR4.out.below hb
  have KO5w : Hid (LayP w5 (w.heap.size + 2) 27 [.slice ra' y.rl y.rl, .int .u32 y.pc, .slice ma' y.mn y.mn, .bool y.on, .int .u32 y.vv, .int .u32 y.vs, .int .u32 y.vc, .int .u32 y.vk, .bool y.vt, .bool y.vn, .int .u32 y.vp, .int .i64 y.hf, .int .i64 y.hr, .int .i64 y.hl, .bool y.hh, .int .i64 y.cs, .int .i64 y.cy, .int .i64 y.cl, .slice ka' y.kn y.kn]) := KO4.out.below hb
  have HZ5w : Hid (w.heap.size + 3 ≤ w5.heap.size) := Nat.le_trans HZ4.out hb.size
  clear hb HB4 KB4 KR4 KO4 HZ4
  have HB5 : Hid (Below w.heap.size w (setAll w5 (w.heap.size + 2) 19 [.int .i64 y.ts, .slice (some ⟨tg, 0, none⟩) y.tn y.tn, .int .i64 y.nx, .bool y.idle])) := setAll_below (by omega) _ _ HB5w.out
  have KB5 : Hid (PBx (setAll w5 (w.heap.size + 2) 19 [.int .i64 y.ts, .slice (some ⟨tg, 0, none⟩) y.tn y.tn, .int .i64 y.nx, .bool y.idle]) w.heap.size 50 y) := by show _ = _; rw [block_other [.int .i64 y.ts, .slice (some ⟨tg, 0, none⟩) y.tn y.tn, .int .i64 y.nx, .bool y.idle] (by omega)]; exact KB5w.out
  have KR5 : Hid (LayP (setAll w5 (w.heap.size + 2) 19 [.int .i64 y.ts, .slice (some ⟨tg, 0, none⟩) y.tn y.tn, .int .i64 y.nx, .bool y.idle]) (w.heap.size + 1) 27 []) := KR5w.out.other _ (by omega)
  have KO5 : Hid (LayP (setAll w5 (w.heap.size + 2) 19 [.int .i64 y.ts, .slice (some ⟨tg, 0, none⟩) y.tn y.tn, .int .i64 y.nx, .bool y.idle]) (w.heap.size + 2) 27 [.slice ra' y.rl y.rl, .int .u32 y.pc, .slice ma' y.mn y.mn, .bool y.on, .int .u32 y.vv, .int .u32 y.vs, .int .u32 y.vc, .int .u32 y.vk, .bool y.vt, .bool y.vn, .int .u32 y.vp, .int .i64 y.hf, .int .i64 y.hr, .int .i64 y.hl, .bool y.hh, .int .i64 y.cs, .int .i64 y.cy, .int .i64 y.cl, .slice ka' y.kn y.kn, .int .i64 y.ts, .slice (some ⟨tg, 0, none⟩) y.tn y.tn, .int .i64 y.nx, .bool y.idle]) := KO5w.out.put (o := 19) [.int .i64 y.ts, .slice (some ⟨tg, 0, none⟩) y.tn y.tn, .int .i64 y.nx, .bool y.idle] rfl (by simp)
  have HZ5 : Hid (w.heap.size + 3 ≤ (setAll w5 (w.heap.size + 2) 19 [.int .i64 y.ts, .slice (some ⟨tg, 0, none⟩) y.tn y.tn, .int .i64 y.nx, .bool y.idle]).heap.size) := by show _ ≤ _; rw [setAll_size]; exact HZ5w.out
  replace HT1 : Hid (Betw (w.heap.size + 1) (w.heap.size + 3) w1 (setAll w5 (w.heap.size + 2) 19 [.int .i64 y.ts, .slice (some ⟨tg, 0, none⟩) y.tn y.tn, .int .i64 y.nx, .bool y.idle])) := setAll_betw (by omega) (by omega) _ _ HT1.out
  replace HT4 : Hid (Betw (w.heap.size + 1) (w.heap.size + 3) w4 (setAll w5 (w.heap.size + 2) 19 [.int .i64 y.ts, .slice (some ⟨tg, 0, none⟩) y.tn y.tn, .int .i64 y.nx, .bool y.idle])) := setAll_betw (by omega) (by omega) _ _ HT4.out
  replace HT5 : Hid (Betw (w.heap.size + 1) (w.heap.size + 3) w5 (setAll w5 (w.heap.size + 2) 19 [.int .i64 y.ts, .slice (some ⟨tg, 0, none⟩) y.tn y.tn, .int .i64 y.nx, .bool y.idle])) := setAll_betw (by omega) (by omega) _ _ HT5.out
  simp only [setAll] at HB5 KB5 KR5 KO5 HZ5 HT1 HT4 HT5
  obtain ⟨ou19, o19⟩ := KO5w.out.room 19 (by omega)
  obtain ⟨ou20, o20⟩ := KO5w.out.room 20 (by omega)
  obtain ⟨ou21, o21⟩ := KO5w.out.room 21 (by omega)
  obtain ⟨ou22, o22⟩ := KO5w.out.room 22 (by omega)
  have of := KO5w.out.free
  have c21 : w5.cell? ⟨w.heap.size, 21, none⟩ = some (.int .i64 y.nx) := KB5w.out.cell 21 rfl
  have c22 : w5.cell? ⟨w.heap.size, 22, none⟩ = some (.bool y.idle) := KB5w.out.cell 22 rfl
  have c23 : w5.cell? ⟨w.heap.size, 23, none⟩ = some (.slice y.ba y.bn y.bc) := KB5w.out.cell 23 rfl
  clear HB5w KB5w KR5w KO5w HZ5w
  go_wp2_with fail
  clear o19 o20 o21 o22 of c21 c22 c23
  revert HB5 KB5 KR5 KO5 HZ5 HT1 HT4 HT5
  generalize (((w5.setCell ⟨w.heap.size + 2, 19, none⟩ (.int .i64 y.ts)).setCell ⟨w.heap.size + 2, 20, none⟩ (.slice (some ⟨tg, 0, none⟩) y.tn y.tn)).setCell ⟨w.heap.size + 2, 21, none⟩ (.int .i64 y.nx)).setCell ⟨w.heap.size + 2, 22, none⟩ (.bool y.idle) = X5
  intro HB5 KB5 KR5 KO5 HZ5 HT1 HT4 HT5
  refine Calls.mono (to_rows y.ba y.bc y.bn d.Fb _ (HS.out.below HB5.out).b HF.out.zbn HF.out.zF) ?_
  obtain ⟨N36, hN6⟩ : ∃ N, X5.heap.size = N := ⟨_, rfl⟩
  rintro e w6 ⟨rfl, hb, ho⟩
  rw [hN6]
  rw [hN6] at ho
  have HO6 : Hid (BRows w6 N36 w6.heap.size (some ⟨N36, 0, none⟩) y.bn d.Fb) := ho
  have HG6 : Hid (w.heap.size + 3 ≤ N36) := by rw [← hN6]; exact HZ5.out
  clear ho
  have HT6 : Hid (Betw (w.heap.size + 1) (w.heap.size + 3) w6 w6) := Betw.refl _ _ _
  replace HT1 : Hid (Betw (w.heap.size + 1) (w.heap.size + 3) w1 w6) := HT1.out.trans (Below.betw hb)
  replace HT4 : Hid (Betw (w.heap.size + 1) (w.heap.size + 3) w4 w6) := HT4.out.trans (Below.betw hb)
  replace HT5 : Hid (Betw (w.heap.size + 1) (w.heap.size + 3) w5 w6) := HT5.out.trans (Below.betw hb)
  have HB6w : Hid (Below w.heap.size w w6) := HB5.out.trans (hb.mono HB5.out.size)
  have KB6w : Hid (PBx w6 w.heap.size 50 y) := KB5.out.below hb
  have KR6w : Hid (LayP w6 (w.heap.size + 1) 27 []) := KR5.out.below hb
  have KO6w : Hid (LayP w6 (w.heap.size + 2) 27 [.slice ra' y.rl y.rl, .int .u32 y.pc, .slice ma' y.mn y.mn, .bool y.on, .int .u32 y.vv, .int .u32 y.vs, .int .u32 y.vc, .int .u32 y.vk, .bool y.vt, .bool y.vn, .int .u32 y.vp, .int .i64 y.hf, .int .i64 y.hr, .int .i64 y.hl, .bool y.hh, .int .i64 y.cs, .int .i64 y.cy, .int .i64 y.cl, .slice ka' y.kn y.kn, .int .i64 y.ts, .slice (some ⟨tg, 0, none⟩) y.tn y.tn, .int .i64 y.nx, .bool y.idle]) := KO5.out.below hb
  have HZ6w : Hid (w.heap.size + 3 ≤ w6.heap.size) := Nat.le_trans HZ5.out hb.size
  clear hb HB5 KB5 KR5 KO5 HZ5
  clear hN6
  have HB6 : Hid (Below w.heap.size w (setAll w6 (w.heap.size + 2) 23 [.slice (some ⟨N36, 0, none⟩) y.bn y.bn])) := setAll_below (by omega) _ _ HB6w.out
  have KB6 : Hid (PBx (setAll w6 (w.heap.size + 2) 23 [.slice (some ⟨N36, 0, none⟩) y.bn y.bn]) w.heap.size 50 y) := by show _ = _; rw [block_other [.slice (some ⟨N36, 0, none⟩) y.bn y.bn] (by omega)]; exact KB6w.out
  have KR6 : Hid (LayP (setAll w6 (w.heap.size + 2) 23 [.slice (some ⟨N36, 0, none⟩) y.bn y.bn]) (w.heap.size + 1) 27 []) := KR6w.out.other _ (by omega)
  have KO6 : Hid (LayP (setAll w6 (w.heap.size + 2) 23 [.slice (some ⟨N36, 0, none⟩) y.bn y.bn]) (w.heap.size + 2) 27 [.slice ra' y.rl y.rl, .int .u32 y.pc, .slice ma' y.mn y.mn, .bool y.on, .int .u32 y.vv, .int .u32 y.vs, .int .u32 y.vc, .int .u32 y.vk, .bool y.vt, .bool y.vn, .int .u32 y.vp, .int .i64 y.hf, .int .i64 y.hr, .int .i64 y.hl, .bool y.hh, .int .i64 y.cs, .int .i64 y.cy, .int .i64 y.cl, .slice ka' y.kn y.kn, .int .i64 y.ts, .slice (some ⟨tg, 0, none⟩) y.tn y.tn, .int .i64 y.nx, .bool y.idle, .slice (some ⟨N36, 0, none⟩) y.bn y.bn]) := KO6w.out.put (o := 23) [.slice (some ⟨N36, 0, none⟩) y.bn y.bn] rfl (by simp)
  have HZ6 : Hid (w.heap.size + 3 ≤ (setAll w6 (w.heap.size + 2) 23 [.slice (some ⟨N36, 0, none⟩) y.bn y.bn]).heap.size) := by show _ ≤ _; rw [setAll_size]; exact HZ6w.out
  replace HT1 : Hid (Betw (w.heap.size + 1) (w.heap.size + 3) w1 (setAll w6 (w.heap.size + 2) 23 [.slice (some ⟨N36, 0, none⟩) y.bn y.bn])) := setAll_betw (by omega) (by omega) _ _ HT1.out
  replace HT4 : Hid (Betw (w.heap.size + 1) (w.heap.size + 3) w4 (setAll w6 (w.heap.size + 2) 23 [.slice (some ⟨N36, 0, none⟩) y.bn y.bn])) := setAll_betw (by omega) (by omega) _ _ HT4.out
  replace HT5 : Hid (Betw (w.heap.size + 1) (w.heap.size + 3) w5 (setAll w6 (w.heap.size + 2) 23 [.slice (some ⟨N36, 0, none⟩) y.bn y.bn])) := setAll_betw (by omega) (by omega) _ _ HT5.out
  replace HT6 : Hid (Betw (w.heap.size + 1) (w.heap.size + 3) w6 (setAll w6 (w.heap.size + 2) 23 [.slice (some ⟨N36, 0, none⟩) y.bn y.bn])) := setAll_betw (by omega) (by omega) _ _ HT6.out
  simp only [setAll] at HB6 KB6 KR6 KO6 HZ6 HT1 HT4 HT5 HT6
  obtain ⟨ou23, o23⟩ := KO6w.out.room 23 (by omega)
  have of := KO6w.out.free
  have c24 : w6.cell? ⟨w.heap.size, 24, none⟩ = some (.slice y.oa y.un y.uc) := KB6w.out.cell 24 rfl
  clear HB6w KB6w KR6w KO6w HZ6w
  go_wp2_with fail
  clear o23 of c24
  revert HB6 KB6 KR6 KO6 HZ6 HT1 HT4 HT5 HT6
  generalize w6.setCell ⟨w.heap.size + 2, 23, none⟩ (.slice (some ⟨N36, 0, none⟩) y.bn y.bn) = X6
  intro HB6 KB6 KR6 KO6 HZ6 HT1 HT4 HT5 HT6
  refine Calls.mono (to_outs y.oa y.uc y.un d.H d.G _ (HS.out.below HB6.out).o (by have := HF.out.zG; omega) (by have := HF.out.zG; omega)) ?_
  obtain ⟨N37, hN7⟩ : ∃ N, X6.heap.size = N := ⟨_, rfl⟩
  rintro e w7 ⟨rfl, hb, m6, ho⟩
  rw [hN7]
  rw [hN7] at ho
  have HO7 : Hid (OEnds w7 N37 m6 N37 y.un d.H d.G) := ho
  have HG7 : Hid (w.heap.size + 3 ≤ N37) := by rw [← hN7]; exact HZ6.out
  clear ho
  have HT7 : Hid (Betw (w.heap.size + 1) (w.heap.size + 3) w7 w7) := Betw.refl _ _ _
  replace HT1 : Hid (Betw (w.heap.size + 1) (w.heap.size + 3) w1 w7) := HT1.out.trans (Below.betw hb)
  replace HT4 : Hid (Betw (w.heap.size + 1) (w.heap.size + 3) w4 w7) := HT4.out.trans (Below.betw hb)
  replace HT5 : Hid (Betw (w.heap.size + 1) (w.heap.size + 3) w5 w7) := HT5.out.trans (Below.betw hb)
  replace HT6 : Hid (Betw (w.heap.size + 1) (w.heap.size + 3) w6 w7) := HT6.out.trans (Below.betw hb)
  have HB7w : Hid (Below w.heap.size w w7) := HB6.out.trans (hb.mono HB6.out.size)
  have KB7w : Hid (PBx w7 w.heap.size 50 y) := KB6.out.below hb
  have KR7w : Hid (LayP w7 (w.heap.size + 1) 27 []) := KR6.out.below hb
  have KO7w : Hid (LayP w7 (w.heap.size + 2) 27 [.slice ra' y.rl y.rl, .int .u32 y.pc, .slice ma' y.mn y.mn, .bool y.on, .int .u32 y.vv, .int .u32 y.vs, .int .u32 y.vc, .int .u32 y.vk, .bool y.vt, .bool y.vn, .int .u32 y.vp, .int .i64 y.hf, .int .i64 y.hr, .int .i64 y.hl, .bool y.hh, .int .i64 y.cs, .int .i64 y.cy, .int .i64 y.cl, .slice ka' y.kn y.kn, .int .i64 y.ts, .slice (some ⟨tg, 0, none⟩) y.tn y.tn, .int .i64 y.nx, .bool y.idle, .slice (some ⟨N36, 0, none⟩) y.bn y.bn]) := KO6.out.below hb
  have HZ7w : Hid (w.heap.size + 3 ≤ w7.heap.size) := Nat.le_trans HZ6.out hb.size
  clear hb HB6 KB6 KR6 KO6 HZ6
  clear hN7
  have HB7 : Hid (Below w.heap.size w (setAll w7 (w.heap.size + 2) 24 [.slice (some ⟨N37, 0, none⟩) y.un y.un])) := setAll_below (by omega) _ _ HB7w.out
  have KB7 : Hid (PBx (setAll w7 (w.heap.size + 2) 24 [.slice (some ⟨N37, 0, none⟩) y.un y.un]) w.heap.size 50 y) := by show _ = _; rw [block_other [.slice (some ⟨N37, 0, none⟩) y.un y.un] (by omega)]; exact KB7w.out
  have KR7 : Hid (LayP (setAll w7 (w.heap.size + 2) 24 [.slice (some ⟨N37, 0, none⟩) y.un y.un]) (w.heap.size + 1) 27 []) := KR7w.out.other _ (by omega)
  have KO7 : Hid (LayP (setAll w7 (w.heap.size + 2) 24 [.slice (some ⟨N37, 0, none⟩) y.un y.un]) (w.heap.size + 2) 27 [.slice ra' y.rl y.rl, .int .u32 y.pc, .slice ma' y.mn y.mn, .bool y.on, .int .u32 y.vv, .int .u32 y.vs, .int .u32 y.vc, .int .u32 y.vk, .bool y.vt, .bool y.vn, .int .u32 y.vp, .int .i64 y.hf, .int .i64 y.hr, .int .i64 y.hl, .bool y.hh, .int .i64 y.cs, .int .i64 y.cy, .int .i64 y.cl, .slice ka' y.kn y.kn, .int .i64 y.ts, .slice (some ⟨tg, 0, none⟩) y.tn y.tn, .int .i64 y.nx, .bool y.idle, .slice (some ⟨N36, 0, none⟩) y.bn y.bn, .slice (some ⟨N37, 0, none⟩) y.un y.un]) := KO7w.out.put (o := 24) [.slice (some ⟨N37, 0, none⟩) y.un y.un] rfl (by simp)
  have HZ7 : Hid (w.heap.size + 3 ≤ (setAll w7 (w.heap.size + 2) 24 [.slice (some ⟨N37, 0, none⟩) y.un y.un]).heap.size) := by show _ ≤ _; rw [setAll_size]; exact HZ7w.out
  replace HT1 : Hid (Betw (w.heap.size + 1) (w.heap.size + 3) w1 (setAll w7 (w.heap.size + 2) 24 [.slice (some ⟨N37, 0, none⟩) y.un y.un])) := setAll_betw (by omega) (by omega) _ _ HT1.out
  replace HT4 : Hid (Betw (w.heap.size + 1) (w.heap.size + 3) w4 (setAll w7 (w.heap.size + 2) 24 [.slice (some ⟨N37, 0, none⟩) y.un y.un])) := setAll_betw (by omega) (by omega) _ _ HT4.out
  replace HT5 : Hid (Betw (w.heap.size + 1) (w.heap.size + 3) w5 (setAll w7 (w.heap.size + 2) 24 [.slice (some ⟨N37, 0, none⟩) y.un y.un])) := setAll_betw (by omega) (by omega) _ _ HT5.out
  replace HT6 : Hid (Betw (w.heap.size + 1) (w.heap.size + 3) w6 (setAll w7 (w.heap.size + 2) 24 [.slice (some ⟨N37, 0, none⟩) y.un y.un])) := setAll_betw (by omega) (by omega) _ _ HT6.out
  replace HT7 : Hid (Betw (w.heap.size + 1) (w.heap.size + 3) w7 (setAll w7 (w.heap.size + 2) 24 [.slice (some ⟨N37, 0, none⟩) y.un y.un])) := setAll_betw (by omega) (by omega) _ _ HT7.out
  simp only [setAll] at HB7 KB7 KR7 KO7 HZ7 HT1 HT4 HT5 HT6 HT7
  obtain ⟨ou24, o24⟩ := KO7w.out.room 24 (by omega)
  have of := KO7w.out.free
  have c25 : w7.cell? ⟨w.heap.size, 25, none⟩ = some (.slice y.ia y.jn y.jc) := KB7w.out.cell 25 rfl
  clear HB7w KB7w KR7w KO7w HZ7w
  go_wp2_with fail
  clear o24 of c25
  revert HB7 KB7 KR7 KO7 HZ7 HT1 HT4 HT5 HT6 HT7
  generalize w7.setCell ⟨w.heap.size + 2, 24, none⟩ (.slice (some ⟨N37, 0, none⟩) y.un y.un) = X7
  intro HB7 KB7 KR7 KO7 HZ7 HT1 HT4 HT5 HT6 HT7
  refine Calls.mono (to_ins y.ia y.jc y.jn d.I _ (HS.out.below HB7.out).i (by have := HF.out.zI; omega) (by have := HF.out.zI; omega)) ?_
  obtain ⟨N38, hN8⟩ : ∃ N, X7.heap.size = N := ⟨_, rfl⟩
  rintro e w8 ⟨rfl, hb, ho⟩
  rw [hN8]
  rw [hN8] at ho
  have HO8 : Hid (W4.BRows w8 N38 w8.heap.size (some ⟨N38, 0, none⟩) y.jn d.I) := ho
  have HG8 : Hid (w.heap.size + 3 ≤ N38) := by rw [← hN8]; exact HZ7.out
  clear ho
  have HT8 : Hid (Betw (w.heap.size + 1) (w.heap.size + 3) w8 w8) := Betw.refl _ _ _
  replace HT1 : Hid (Betw (w.heap.size + 1) (w.heap.size + 3) w1 w8) := HT1.out.trans (Below.betw hb)
  replace HT4 : Hid (Betw (w.heap.size + 1) (w.heap.size + 3) w4 w8) := HT4.out.trans (Below.betw hb)
  replace HT5 : Hid (Betw (w.heap.size + 1) (w.heap.size + 3) w5 w8) := HT5.out.trans (Below.betw hb)
  replace HT6 : Hid (Betw (w.heap.size + 1) (w.heap.size + 3) w6 w8) := HT6.out.trans (Below.betw hb)
  replace HT7 : Hid (Betw (w.heap.size + 1) (w.heap.size + 3) w7 w8) := HT7.out.trans (Below.betw hb)
  have HB8w : Hid (Below w.heap.size w w8) := HB7.out.trans (hb.mono HB7.out.size)
  have KB8w : Hid (PBx w8 w.heap.size 50 y) := KB7.out.below hb
  have KR8w : Hid (LayP w8 (w.heap.size + 1) 27 []) := KR7.out.below hb
  have KO8w : Hid (LayP w8 (w.heap.size + 2) 27 [.slice ra' y.rl y.rl, .int .u32 y.pc, .slice ma' y.mn y.mn, .bool y.on, .int .u32 y.vv, .int .u32 y.vs, .int .u32 y.vc, .int .u32 y.vk, .bool y.vt, .bool y.vn, .int .u32 y.vp, .int .i64 y.hf, .int .i64 y.hr, .int .i64 y.hl, .bool y.hh, .int .i64 y.cs, .int .i64 y.cy, .int .i64 y.cl, .slice ka' y.kn y.kn, .int .i64 y.ts, .slice (some ⟨tg, 0, none⟩) y.tn y.tn, .int .i64 y.nx, .bool y.idle, .slice (some ⟨N36, 0, none⟩) y.bn y.bn, .slice (some ⟨N37, 0, none⟩) y.un y.un]) := KO7.out.below hb
  have HZ8w : Hid (w.heap.size + 3 ≤ w8.heap.size) := Nat.le_trans HZ7.out hb.size
  clear hb HB7 KB7 KR7 KO7 HZ7
  clear hN8
  have HB8 : Hid (Below w.heap.size w (setAll w8 (w.heap.size + 2) 25 [.slice (some ⟨N38, 0, none⟩) y.jn y.jn])) := setAll_below (by omega) _ _ HB8w.out
  have KB8 : Hid (PBx (setAll w8 (w.heap.size + 2) 25 [.slice (some ⟨N38, 0, none⟩) y.jn y.jn]) w.heap.size 50 y) := by show _ = _; rw [block_other [.slice (some ⟨N38, 0, none⟩) y.jn y.jn] (by omega)]; exact KB8w.out
  have KR8 : Hid (LayP (setAll w8 (w.heap.size + 2) 25 [.slice (some ⟨N38, 0, none⟩) y.jn y.jn]) (w.heap.size + 1) 27 []) := KR8w.out.other _ (by omega)
  have KO8 : Hid (LayP (setAll w8 (w.heap.size + 2) 25 [.slice (some ⟨N38, 0, none⟩) y.jn y.jn]) (w.heap.size + 2) 27 [.slice ra' y.rl y.rl, .int .u32 y.pc, .slice ma' y.mn y.mn, .bool y.on, .int .u32 y.vv, .int .u32 y.vs, .int .u32 y.vc, .int .u32 y.vk, .bool y.vt, .bool y.vn, .int .u32 y.vp, .int .i64 y.hf, .int .i64 y.hr, .int .i64 y.hl, .bool y.hh, .int .i64 y.cs, .int .i64 y.cy, .int .i64 y.cl, .slice ka' y.kn y.kn, .int .i64 y.ts, .slice (some ⟨tg, 0, none⟩) y.tn y.tn, .int .i64 y.nx, .bool y.idle, .slice (some ⟨N36, 0, none⟩) y.bn y.bn, .slice (some ⟨N37, 0, none⟩) y.un y.un, .slice (some ⟨N38, 0, none⟩) y.jn y.jn]) := KO8w.out.put (o := 25) [.slice (some ⟨N38, 0, none⟩) y.jn y.jn] rfl (by simp)
  have HZ8 : Hid (w.heap.size + 3 ≤ (setAll w8 (w.heap.size + 2) 25 [.slice (some ⟨N38, 0, none⟩) y.jn y.jn]).heap.size) := by show _ ≤ _; rw [setAll_size]; exact HZ8w.out
  replace HT1 : Hid (Betw (w.heap.size + 1) (w.heap.size + 3) w1 (setAll w8 (w.heap.size + 2) 25 [.slice (some ⟨N38, 0, none⟩) y.jn y.jn])) := setAll_betw (by omega) (by omega) _ _ HT1.out
  replace HT4 : Hid (Betw (w.heap.size + 1) (w.heap.size + 3) w4 (setAll w8 (w.heap.size + 2) 25 [.slice (some ⟨N38, 0, none⟩) y.jn y.jn])) := setAll_betw (by omega) (by omega) _ _ HT4.out
  replace HT5 : Hid (Betw (w.heap.size + 1) (w.heap.size + 3) w5 (setAll w8 (w.heap.size + 2) 25 [.slice (some ⟨N38, 0, none⟩) y.jn y.jn])) := setAll_betw (by omega) (by omega) _ _ HT5.out
  replace HT6 : Hid (Betw (w.heap.size + 1) (w.heap.size + 3) w6 (setAll w8 (w.heap.size + 2) 25 [.slice (some ⟨N38, 0, none⟩) y.jn y.jn])) := setAll_betw (by omega) (by omega) _ _ HT6.out
  replace HT7 : Hid (Betw (w.heap.size + 1) (w.heap.size + 3) w7 (setAll w8 (w.heap.size + 2) 25 [.slice (some ⟨N38, 0, none⟩) y.jn y.jn])) := setAll_betw (by omega) (by omega) _ _ HT7.out
  replace HT8 : Hid (Betw (w.heap.size + 1) (w.heap.size + 3) w8 (setAll w8 (w.heap.size + 2) 25 [.slice (some ⟨N38, 0, none⟩) y.jn y.jn])) := setAll_betw (by omega) (by omega) _ _ HT8.out
  simp only [setAll] at HB8 KB8 KR8 KO8 HZ8 HT1 HT4 HT5 HT6 HT7 HT8
  obtain ⟨ou25, o25⟩ := KO8w.out.room 25 (by omega)
  have of := KO8w.out.free
  have c26 : w8.cell? ⟨w.heap.size, 26, none⟩ = some (.slice y.da y.dn y.dc) := KB8w.out.cell 26 rfl
  clear HB8w KB8w KR8w KO8w HZ8w
  go_wp2_with fail
  clear o25 of c26
  revert HB8 KB8 KR8 KO8 HZ8 HT1 HT4 HT5 HT6 HT7 HT8
  generalize w8.setCell ⟨w.heap.size + 2, 25, none⟩ (.slice (some ⟨N38, 0, none⟩) y.jn y.jn) = X8
  intro HB8 KB8 KR8 KO8 HZ8 HT1 HT4 HT5 HT6 HT7 HT8
  refine Calls.mono (to_devs y.da y.dc y.dn d.U d.V _ (HS.out.below HB8.out).d (by have := HF.out.zU; omega) (by have := HF.out.zU; omega)) ?_
  obtain ⟨N39, hN9⟩ : ∃ N, X8.heap.size = N := ⟨_, rfl⟩
  rintro e w9 ⟨rfl, hb, ho⟩
  rw [hN9]
  rw [hN9] at ho
  have HO9 : Hid (W4.BRows w9 N39 w9.heap.size (some ⟨N39, 0, none⟩) (y.dn * 2) (zip2 d.U d.V)) := ho
  have HG9 : Hid (w.heap.size + 3 ≤ N39) := by rw [← hN9]; exact HZ8.out
  clear ho
  have HT9 : Hid (Betw (w.heap.size + 1) (w.heap.size + 3) w9 w9) := Betw.refl _ _ _
  replace HT1 : Hid (Betw (w.heap.size + 1) (w.heap.size + 3) w1 w9) := HT1.out.trans (Below.betw hb)
  replace HT4 : Hid (Betw (w.heap.size + 1) (w.heap.size + 3) w4 w9) := HT4.out.trans (Below.betw hb)
  replace HT5 : Hid (Betw (w.heap.size + 1) (w.heap.size + 3) w5 w9) := HT5.out.trans (Below.betw hb)
  replace HT6 : Hid (Betw (w.heap.size + 1) (w.heap.size + 3) w6 w9) := HT6.out.trans (Below.betw hb)
  replace HT7 : Hid (Betw (w.heap.size + 1) (w.heap.size + 3) w7 w9) := HT7.out.trans (Below.betw hb)
  replace HT8 : Hid (Betw (w.heap.size + 1) (w.heap.size + 3) w8 w9) := HT8.out.trans (Below.betw hb)
  have HB9w : Hid (Below w.heap.size w w9) := HB8.out.trans (hb.mono HB8.out.size)
  have KB9w : Hid (PBx w9 w.heap.size 50 y) := KB8.out.below hb
  have KR9w : Hid (LayP w9 (w.heap.size + 1) 27 []) := KR8.out.below hb
  have KO9w : Hid (LayP w9 (w.heap.size + 2) 27 [.slice ra' y.rl y.rl, .int .u32 y.pc, .slice ma' y.mn y.mn, .bool y.on, .int .u32 y.vv, .int .u32 y.vs, .int .u32 y.vc, .int .u32 y.vk, .bool y.vt, .bool y.vn, .int .u32 y.vp, .int .i64 y.hf, .int .i64 y.hr, .int .i64 y.hl, .bool y.hh, .int .i64 y.cs, .int .i64 y.cy, .int .i64 y.cl, .slice ka' y.kn y.kn, .int .i64 y.ts, .slice (some ⟨tg, 0, none⟩) y.tn y.tn, .int .i64 y.nx, .bool y.idle, .slice (some ⟨N36, 0, none⟩) y.bn y.bn, .slice (some ⟨N37, 0, none⟩) y.un y.un, .slice (some ⟨N38, 0, none⟩) y.jn y.jn]) := KO8.out.below hb
  have HZ9w : Hid (w.heap.size + 3 ≤ w9.heap.size) := Nat.le_trans HZ8.out hb.size
  clear hb HB8 KB8 KR8 KO8 HZ8
  clear hN9
  have HB9 : Hid (Below w.heap.size w (setAll w9 (w.heap.size + 2) 26 [.slice (some ⟨N39, 0, none⟩) y.dn y.dn])) := setAll_below (by omega) _ _ HB9w.out
  have KB9 : Hid (PBx (setAll w9 (w.heap.size + 2) 26 [.slice (some ⟨N39, 0, none⟩) y.dn y.dn]) w.heap.size 50 y) := by show _ = _; rw [block_other [.slice (some ⟨N39, 0, none⟩) y.dn y.dn] (by omega)]; exact KB9w.out
  have KR9 : Hid (LayP (setAll w9 (w.heap.size + 2) 26 [.slice (some ⟨N39, 0, none⟩) y.dn y.dn]) (w.heap.size + 1) 27 []) := KR9w.out.other _ (by omega)
  have KO9 : Hid (LayP (setAll w9 (w.heap.size + 2) 26 [.slice (some ⟨N39, 0, none⟩) y.dn y.dn]) (w.heap.size + 2) 27 [.slice ra' y.rl y.rl, .int .u32 y.pc, .slice ma' y.mn y.mn, .bool y.on, .int .u32 y.vv, .int .u32 y.vs, .int .u32 y.vc, .int .u32 y.vk, .bool y.vt, .bool y.vn, .int .u32 y.vp, .int .i64 y.hf, .int .i64 y.hr, .int .i64 y.hl, .bool y.hh, .int .i64 y.cs, .int .i64 y.cy, .int .i64 y.cl, .slice ka' y.kn y.kn, .int .i64 y.ts, .slice (some ⟨tg, 0, none⟩) y.tn y.tn, .int .i64 y.nx, .bool y.idle, .slice (some ⟨N36, 0, none⟩) y.bn y.bn, .slice (some ⟨N37, 0, none⟩) y.un y.un, .slice (some ⟨N38, 0, none⟩) y.jn y.jn, .slice (some ⟨N39, 0, none⟩) y.dn y.dn]) := KO9w.out.put (o := 26) [.slice (some ⟨N39, 0, none⟩) y.dn y.dn] rfl (by simp)
  have HZ9 : Hid (w.heap.size + 3 ≤ (setAll w9 (w.heap.size + 2) 26 [.slice (some ⟨N39, 0, none⟩) y.dn y.dn]).heap.size) := by show _ ≤ _; rw [setAll_size]; exact HZ9w.out
  replace HT1 : Hid (Betw (w.heap.size + 1) (w.heap.size + 3) w1 (setAll w9 (w.heap.size + 2) 26 [.slice (some ⟨N39, 0, none⟩) y.dn y.dn])) := setAll_betw (by omega) (by omega) _ _ HT1.out
  replace HT4 : Hid (Betw (w.heap.size + 1) (w.heap.size + 3) w4 (setAll w9 (w.heap.size + 2) 26 [.slice (some ⟨N39, 0, none⟩) y.dn y.dn])) := setAll_betw (by omega) (by omega) _ _ HT4.out
  replace HT5 : Hid (Betw (w.heap.size + 1) (w.heap.size + 3) w5 (setAll w9 (w.heap.size + 2) 26 [.slice (some ⟨N39, 0, none⟩) y.dn y.dn])) := setAll_betw (by omega) (by omega) _ _ HT5.out
  replace HT6 : Hid (Betw (w.heap.size + 1) (w.heap.size + 3) w6 (setAll w9 (w.heap.size + 2) 26 [.slice (some ⟨N39, 0, none⟩) y.dn y.dn])) := setAll_betw (by omega) (by omega) _ _ HT6.out
  replace HT7 : Hid (Betw (w.heap.size + 1) (w.heap.size + 3) w7 (setAll w9 (w.heap.size + 2) 26 [.slice (some ⟨N39, 0, none⟩) y.dn y.dn])) := setAll_betw (by omega) (by omega) _ _ HT7.out
  replace HT8 : Hid (Betw (w.heap.size + 1) (w.heap.size + 3) w8 (setAll w9 (w.heap.size + 2) 26 [.slice (some ⟨N39, 0, none⟩) y.dn y.dn])) := setAll_betw (by omega) (by omega) _ _ HT8.out
  replace HT9 : Hid (Betw (w.heap.size + 1) (w.heap.size + 3) w9 (setAll w9 (w.heap.size + 2) 26 [.slice (some ⟨N39, 0, none⟩) y.dn y.dn])) := setAll_betw (by omega) (by omega) _ _ HT9.out
  simp only [setAll] at HB9 KB9 KR9 KO9 HZ9 HT1 HT4 HT5 HT6 HT7 HT8 HT9
  obtain ⟨ou26, o26⟩ := KO9w.out.room 26 (by omega)
  have of := KO9w.out.free
  clear HB9w KB9w KR9w KO9w HZ9w
  have hO : (w9.setCell ⟨w.heap.size + 2, 26, none⟩ (.slice (some ⟨N39, 0, none⟩) y.dn y.dn)).heap[w.heap.size + 2]? = some (.cells #[.slice ra' y.rl y.rl, .int .u32 y.pc, .slice ma' y.mn y.mn, .bool y.on, .int .u32 y.vv, .int .u32 y.vs, .int .u32 y.vc, .int .u32 y.vk, .bool y.vt, .bool y.vn, .int .u32 y.vp, .int .i64 y.hf, .int .i64 y.hr, .int .i64 y.hl, .bool y.hh, .int .i64 y.cs, .int .i64 y.cy, .int .i64 y.cl, .slice ka' y.kn y.kn, .int .i64 y.ts, .slice (some ⟨tg, 0, none⟩) y.tn y.tn, .int .i64 y.nx, .bool y.idle, .slice (some ⟨N36, 0, none⟩) y.bn y.bn, .slice (some ⟨N37, 0, none⟩) y.un y.un, .slice (some ⟨N38, 0, none⟩) y.jn y.jn, .slice (some ⟨N39, 0, none⟩) y.dn y.dn] 73 (0, 0)) := LayP.full KO9.out rfl
  have HO : Hid ((w9.setCell ⟨w.heap.size + 2, 26, none⟩ (.slice (some ⟨N39, 0, none⟩) y.dn y.dn)).heap[w.heap.size + 2]? = some (.cells (psA (⟨ra', y.rl, y.rl, y.pc, ma', y.mn, y.mn, y.on, y.vv, y.vs, y.vc, y.vk, y.vt, y.vn, y.vp, y.hf, y.hr, y.hl, y.hh, y.cs, y.cy, y.cl, ka', y.kn, y.kn, y.ts, some ⟨tg, 0, none⟩, y.tn, y.tn, y.nx, y.idle, some ⟨N36, 0, none⟩, y.bn, y.bn, some ⟨N37, 0, none⟩, y.un, y.un, some ⟨N38, 0, none⟩, y.jn, y.jn, some ⟨N39, 0, none⟩, y.dn, y.dn⟩ : Ps)) 73 (0, 0))) := hO
  obtain ⟨old, hR, hRl⟩ := KR9.out.row
  have HR : Hid ((w9.setCell ⟨w.heap.size + 2, 26, none⟩ (.slice (some ⟨N39, 0, none⟩) y.dn y.dn)).heap[w.heap.size + 1]? = some (.cells old.toArray 73 (0, 0)) ∧ old.toArray.size = 27) := ⟨hR, by simpa using hRl⟩
  have HBF : Hid (Below w.heap.size w ((w9.setCell ⟨w.heap.size + 2, 26, none⟩ (.slice (some ⟨N39, 0, none⟩) y.dn y.dn)).setRow (w.heap.size + 1) (psA (⟨ra', y.rl, y.rl, y.pc, ma', y.mn, y.mn, y.on, y.vv, y.vs, y.vc, y.vk, y.vt, y.vn, y.vp, y.hf, y.hr, y.hl, y.hh, y.cs, y.cy, y.cl, ka', y.kn, y.kn, y.ts, some ⟨tg, 0, none⟩, y.tn, y.tn, y.nx, y.idle, some ⟨N36, 0, none⟩, y.bn, y.bn, some ⟨N37, 0, none⟩, y.un, y.un, some ⟨N38, 0, none⟩, y.jn, y.jn, some ⟨N39, 0, none⟩, y.dn, y.dn⟩ : Ps)))) := below_setRow HB9.out (by omega) _
  have HKF : Hid (((w9.setCell ⟨w.heap.size + 2, 26, none⟩ (.slice (some ⟨N39, 0, none⟩) y.dn y.dn)).setRow (w.heap.size + 1) (psA (⟨ra', y.rl, y.rl, y.pc, ma', y.mn, y.mn, y.on, y.vv, y.vs, y.vc, y.vk, y.vt, y.vn, y.vp, y.hf, y.hr, y.hl, y.hh, y.cs, y.cy, y.cl, ka', y.kn, y.kn, y.ts, some ⟨tg, 0, none⟩, y.tn, y.tn, y.nx, y.idle, some ⟨N36, 0, none⟩, y.bn, y.bn, some ⟨N37, 0, none⟩, y.un, y.un, some ⟨N38, 0, none⟩, y.jn, y.jn, some ⟨N39, 0, none⟩, y.dn, y.dn⟩ : Ps))).heap[w.heap.size + 1]? = some (.cells (psA (⟨ra', y.rl, y.rl, y.pc, ma', y.mn, y.mn, y.on, y.vv, y.vs, y.vc, y.vk, y.vt, y.vn, y.vp, y.hf, y.hr, y.hl, y.hh, y.cs, y.cy, y.cl, ka', y.kn, y.kn, y.ts, some ⟨tg, 0, none⟩, y.tn, y.tn, y.nx, y.idle, some ⟨N36, 0, none⟩, y.bn, y.bn, some ⟨N37, 0, none⟩, y.un, y.un, some ⟨N38, 0, none⟩, y.jn, y.jn, some ⟨N39, 0, none⟩, y.dn, y.dn⟩ : Ps)) 73 (0, 0))) := setRow_heap _ _ _ _ _ _ hR
  replace HT1 : Hid (Betw (w.heap.size + 1) (w.heap.size + 3) w1 ((w9.setCell ⟨w.heap.size + 2, 26, none⟩ (.slice (some ⟨N39, 0, none⟩) y.dn y.dn)).setRow (w.heap.size + 1) (psA (⟨ra', y.rl, y.rl, y.pc, ma', y.mn, y.mn, y.on, y.vv, y.vs, y.vc, y.vk, y.vt, y.vn, y.vp, y.hf, y.hr, y.hl, y.hh, y.cs, y.cy, y.cl, ka', y.kn, y.kn, y.ts, some ⟨tg, 0, none⟩, y.tn, y.tn, y.nx, y.idle, some ⟨N36, 0, none⟩, y.bn, y.bn, some ⟨N37, 0, none⟩, y.un, y.un, some ⟨N38, 0, none⟩, y.jn, y.jn, some ⟨N39, 0, none⟩, y.dn, y.dn⟩ : Ps)))) := HT1.out.trans (setRow_betw (by omega) (by omega) _)
  replace HT4 : Hid (Betw (w.heap.size + 1) (w.heap.size + 3) w4 ((w9.setCell ⟨w.heap.size + 2, 26, none⟩ (.slice (some ⟨N39, 0, none⟩) y.dn y.dn)).setRow (w.heap.size + 1) (psA (⟨ra', y.rl, y.rl, y.pc, ma', y.mn, y.mn, y.on, y.vv, y.vs, y.vc, y.vk, y.vt, y.vn, y.vp, y.hf, y.hr, y.hl, y.hh, y.cs, y.cy, y.cl, ka', y.kn, y.kn, y.ts, some ⟨tg, 0, none⟩, y.tn, y.tn, y.nx, y.idle, some ⟨N36, 0, none⟩, y.bn, y.bn, some ⟨N37, 0, none⟩, y.un, y.un, some ⟨N38, 0, none⟩, y.jn, y.jn, some ⟨N39, 0, none⟩, y.dn, y.dn⟩ : Ps)))) := HT4.out.trans (setRow_betw (by omega) (by omega) _)
  replace HT5 : Hid (Betw (w.heap.size + 1) (w.heap.size + 3) w5 ((w9.setCell ⟨w.heap.size + 2, 26, none⟩ (.slice (some ⟨N39, 0, none⟩) y.dn y.dn)).setRow (w.heap.size + 1) (psA (⟨ra', y.rl, y.rl, y.pc, ma', y.mn, y.mn, y.on, y.vv, y.vs, y.vc, y.vk, y.vt, y.vn, y.vp, y.hf, y.hr, y.hl, y.hh, y.cs, y.cy, y.cl, ka', y.kn, y.kn, y.ts, some ⟨tg, 0, none⟩, y.tn, y.tn, y.nx, y.idle, some ⟨N36, 0, none⟩, y.bn, y.bn, some ⟨N37, 0, none⟩, y.un, y.un, some ⟨N38, 0, none⟩, y.jn, y.jn, some ⟨N39, 0, none⟩, y.dn, y.dn⟩ : Ps)))) := HT5.out.trans (setRow_betw (by omega) (by omega) _)
  replace HT6 : Hid (Betw (w.heap.size + 1) (w.heap.size + 3) w6 ((w9.setCell ⟨w.heap.size + 2, 26, none⟩ (.slice (some ⟨N39, 0, none⟩) y.dn y.dn)).setRow (w.heap.size + 1) (psA (⟨ra', y.rl, y.rl, y.pc, ma', y.mn, y.mn, y.on, y.vv, y.vs, y.vc, y.vk, y.vt, y.vn, y.vp, y.hf, y.hr, y.hl, y.hh, y.cs, y.cy, y.cl, ka', y.kn, y.kn, y.ts, some ⟨tg, 0, none⟩, y.tn, y.tn, y.nx, y.idle, some ⟨N36, 0, none⟩, y.bn, y.bn, some ⟨N37, 0, none⟩, y.un, y.un, some ⟨N38, 0, none⟩, y.jn, y.jn, some ⟨N39, 0, none⟩, y.dn, y.dn⟩ : Ps)))) := HT6.out.trans (setRow_betw (by omega) (by omega) _)
  replace HT7 : Hid (Betw (w.heap.size + 1) (w.heap.size + 3) w7 ((w9.setCell ⟨w.heap.size + 2, 26, none⟩ (.slice (some ⟨N39, 0, none⟩) y.dn y.dn)).setRow (w.heap.size + 1) (psA (⟨ra', y.rl, y.rl, y.pc, ma', y.mn, y.mn, y.on, y.vv, y.vs, y.vc, y.vk, y.vt, y.vn, y.vp, y.hf, y.hr, y.hl, y.hh, y.cs, y.cy, y.cl, ka', y.kn, y.kn, y.ts, some ⟨tg, 0, none⟩, y.tn, y.tn, y.nx, y.idle, some ⟨N36, 0, none⟩, y.bn, y.bn, some ⟨N37, 0, none⟩, y.un, y.un, some ⟨N38, 0, none⟩, y.jn, y.jn, some ⟨N39, 0, none⟩, y.dn, y.dn⟩ : Ps)))) := HT7.out.trans (setRow_betw (by omega) (by omega) _)
  replace HT8 : Hid (Betw (w.heap.size + 1) (w.heap.size + 3) w8 ((w9.setCell ⟨w.heap.size + 2, 26, none⟩ (.slice (some ⟨N39, 0, none⟩) y.dn y.dn)).setRow (w.heap.size + 1) (psA (⟨ra', y.rl, y.rl, y.pc, ma', y.mn, y.mn, y.on, y.vv, y.vs, y.vc, y.vk, y.vt, y.vn, y.vp, y.hf, y.hr, y.hl, y.hh, y.cs, y.cy, y.cl, ka', y.kn, y.kn, y.ts, some ⟨tg, 0, none⟩, y.tn, y.tn, y.nx, y.idle, some ⟨N36, 0, none⟩, y.bn, y.bn, some ⟨N37, 0, none⟩, y.un, y.un, some ⟨N38, 0, none⟩, y.jn, y.jn, some ⟨N39, 0, none⟩, y.dn, y.dn⟩ : Ps)))) := HT8.out.trans (setRow_betw (by omega) (by omega) _)
  replace HT9 : Hid (Betw (w.heap.size + 1) (w.heap.size + 3) w9 ((w9.setCell ⟨w.heap.size + 2, 26, none⟩ (.slice (some ⟨N39, 0, none⟩) y.dn y.dn)).setRow (w.heap.size + 1) (psA (⟨ra', y.rl, y.rl, y.pc, ma', y.mn, y.mn, y.on, y.vv, y.vs, y.vc, y.vk, y.vt, y.vn, y.vp, y.hf, y.hr, y.hl, y.hh, y.cs, y.cy, y.cl, ka', y.kn, y.kn, y.ts, some ⟨tg, 0, none⟩, y.tn, y.tn, y.nx, y.idle, some ⟨N36, 0, none⟩, y.bn, y.bn, some ⟨N37, 0, none⟩, y.un, y.un, some ⟨N38, 0, none⟩, y.jn, y.jn, some ⟨N39, 0, none⟩, y.dn, y.dn⟩ : Ps)))) := HT9.out.trans (setRow_betw (by omega) (by omega) _)
  have HPF : Hid (PSeg ((w9.setCell ⟨w.heap.size + 2, 26, none⟩ (.slice (some ⟨N39, 0, none⟩) y.dn y.dn)).setRow (w.heap.size + 1) (psA (⟨ra', y.rl, y.rl, y.pc, ma', y.mn, y.mn, y.on, y.vv, y.vs, y.vc, y.vk, y.vt, y.vn, y.vp, y.hf, y.hr, y.hl, y.hh, y.cs, y.cy, y.cl, ka', y.kn, y.kn, y.ts, some ⟨tg, 0, none⟩, y.tn, y.tn, y.nx, y.idle, some ⟨N36, 0, none⟩, y.bn, y.bn, some ⟨N37, 0, none⟩, y.un, y.un, some ⟨N38, 0, none⟩, y.jn, y.jn, some ⟨N39, 0, none⟩, y.dn, y.dn⟩ : Ps))) (⟨ra', y.rl, y.rl, y.pc, ma', y.mn, y.mn, y.on, y.vv, y.vs, y.vc, y.vk, y.vt, y.vn, y.vp, y.hf, y.hr, y.hl, y.hh, y.cs, y.cy, y.cl, ka', y.kn, y.kn, y.ts, some ⟨tg, 0, none⟩, y.tn, y.tn, y.nx, y.idle, some ⟨N36, 0, none⟩, y.bn, y.bn, some ⟨N37, 0, none⟩, y.un, y.un, some ⟨N38, 0, none⟩, y.jn, y.jn, some ⟨N39, 0, none⟩, y.dn, y.dn⟩ : Ps) d) := by
    have g1 := HO1.out.1.betw HT1.out (.inr HG1.out) HO1.out.2.1 HO1.out.2.2
    obtain ⟨⟨R1, g1a⟩, g1b⟩ := g1
    exact ⟨g1a.seg, g1b.seg, (HO4.out.betw HT4.out (.inr HG4.out)).seg, (HO5.out.betw HT5.out (fun h0 => by obtain ⟨_, _, g1, g2, _⟩ := HO5.out h0; have := HG5.out; omega)).seg, (HO6.out.betw HT6.out (.inr HG6.out)).seg, oe_betw HO7.out HT7.out HG7.out, (HO8.out.betw HT8.out (.inr HG8.out)).seg, dev_seg (HO9.out.betw HT9.out (.inr HG9.out))⟩
  clear hO hR hRl HB9 KB9 KR9 KO9 HZ9 HT1 HO1 HG1 HT4 HO4 HG4 HT5 HO5 HG5 HT6 HO6 HG6 HT7 HO7 HG7 HT8 HO8 HG8 HT9 HO9 HG9
  go_wp2_with (first | (refine wpList_load_row rfl 73 (.tmp 3) rfl (w.heap.size + 2) rfl 73 (psA (⟨ra', y.rl, y.rl, y.pc, ma', y.mn, y.mn, y.on, y.vv, y.vs, y.vc, y.vk, y.vt, y.vn, y.vp, y.hf, y.hr, y.hl, y.hh, y.cs, y.cy, y.cl, ka', y.kn, y.kn, y.ts, some ⟨tg, 0, none⟩, y.tn, y.tn, y.nx, y.idle, some ⟨N36, 0, none⟩, y.bn, y.bn, some ⟨N37, 0, none⟩, y.un, y.un, some ⟨N38, 0, none⟩, y.jn, y.jn, some ⟨N39, 0, none⟩, y.dn, y.dn⟩ : Ps)) (0, 0) _ HO.out Tryz.underlying73 rfl (by kernel_rfl) ?_) | (refine wpList_store_row rfl 73 (.tmp 2) (.tmp 46) rfl (w.heap.size + 1) (psA (⟨ra', y.rl, y.rl, y.pc, ma', y.mn, y.mn, y.on, y.vv, y.vs, y.vc, y.vk, y.vt, y.vn, y.vp, y.hf, y.hr, y.hl, y.hh, y.cs, y.cy, y.cl, ka', y.kn, y.kn, y.ts, some ⟨tg, 0, none⟩, y.tn, y.tn, y.nx, y.idle, some ⟨N36, 0, none⟩, y.bn, y.bn, some ⟨N37, 0, none⟩, y.un, y.un, some ⟨N38, 0, none⟩, y.jn, y.jn, some ⟨N39, 0, none⟩, y.dn, y.dn⟩ : Ps)) rfl rfl 73 old.toArray HR.out.1 (by kernel_rfl) HR.out.2 (by simp [psA, Value.oneCell']) ?_) | fail)
  clear HO HR o26 of
  revert HBF HKF HPF
  generalize ((w9.setCell ⟨w.heap.size + 2, 26, none⟩ (.slice (some ⟨N39, 0, none⟩) y.dn y.dn)).setRow (w.heap.size + 1) (psA (⟨ra', y.rl, y.rl, y.pc, ma', y.mn, y.mn, y.on, y.vv, y.vs, y.vc, y.vk, y.vt, y.vn, y.vp, y.hf, y.hr, y.hl, y.hh, y.cs, y.cy, y.cl, ka', y.kn, y.kn, y.ts, some ⟨tg, 0, none⟩, y.tn, y.tn, y.nx, y.idle, some ⟨N36, 0, none⟩, y.bn, y.bn, some ⟨N37, 0, none⟩, y.un, y.un, some ⟨N38, 0, none⟩, y.jn, y.jn, some ⟨N39, 0, none⟩, y.dn, y.dn⟩ : Ps))) = Wf
  intro HBF HKF HPF
  refine bodyPost_ret (v := psV (⟨ra', y.rl, y.rl, y.pc, ma', y.mn, y.mn, y.on, y.vv, y.vs, y.vc, y.vk, y.vt, y.vn, y.vp, y.hf, y.hr, y.hl, y.hh, y.cs, y.cy, y.cl, ka', y.kn, y.kn, y.ts, some ⟨tg, 0, none⟩, y.tn, y.tn, y.nx, y.idle, some ⟨N36, 0, none⟩, y.bn, y.bn, some ⟨N37, 0, none⟩, y.un, y.un, some ⟨N38, 0, none⟩, y.jn, y.jn, some ⟨N39, 0, none⟩, y.dn, y.dn⟩ : Ps)) ?_ ?_ ⟨(⟨ra', y.rl, y.rl, y.pc, ma', y.mn, y.mn, y.on, y.vv, y.vs, y.vc, y.vk, y.vt, y.vn, y.vp, y.hf, y.hr, y.hl, y.hh, y.cs, y.cy, y.cl, ka', y.kn, y.kn, y.ts, some ⟨tg, 0, none⟩, y.tn, y.tn, y.nx, y.idle, some ⟨N36, 0, none⟩, y.bn, y.bn, some ⟨N37, 0, none⟩, y.un, y.un, some ⟨N38, 0, none⟩, y.jn, y.jn, some ⟨N39, 0, none⟩, y.dn, y.dn⟩ : Ps), rfl, HBF.out, HPF.out, ⟨rfl, rfl, rfl, rfl, rfl, rfl, rfl, rfl, rfl, rfl, rfl, rfl, rfl, rfl, rfl, rfl, rfl, rfl, rfl, rfl, rfl, rfl, rfl, rfl, rfl, rfl, rfl⟩, Nat.le_refl _⟩
  · exact res_part HKF.out rfl rfl
  · rfl
end Go.Proofs.YtknipnenipdgiaaGreatDoor
