/-
  What must hold of tables, rule by rule, on plain numbers and lists; a box that holds tables. No function of the program in sight; no conditions.
  Every window of every partition in one list: the specification's and the program's own functions lay the same. Conditions: at most 6 partitions, each with 1 to 4 windows.
  A whole struct loaded in one step, at a guarded operation and in a region that draws its order. No function of the program in sight; no conditions but those that each fact names.
-/
import Derived.Test.YtlomcdgfcocmmaaGreatDoorBas
import Derived.Test.YtlomcdgfcocmmaaGreatDoorTbe
import Derived.Test.YtlomcdgfcocmmaaGreatDoorWpd
import Derived.Test.YtlomcdgfcocmmaaGreatDoorNam
import Derived.Test.YtlomcdgfcocmmaaGreatDoorApj
import Derived.Test.YtlomcdgfcocmmaaGreatDoorWst
import Derived.OwnWalk
import Derived.Deep.AppendLies
import Derived.Lib.SmallJoins
import Derived.BigQuiet
import Derived.Laws.Rows
namespace Go.Proofs.YtlomcdgfcocmmaaGreatDoor
open Go.ChangeShapes Go.WideShapes Go.ChangeAt Go.RowKit Go.Deep Go.Joins
set_option linter.unusedVariables false

/-- Every window of every partition, in order. -/
def allW (ps : List Pt) : List wiT := (ps.map (·.ws)).flatten
/-- The worst work of a switch of these tables. -/
def padV (t : Tb) : Int := t.c1 * (16 + mostN t.cs t.cs.length) + t.c7 * (t.s1 * t.s2)
/-- The first cycle that the first i slots leave free. -/
def freeN (ss : List slT) : Nat → Int
  | 0 => 0
  | i + 1 => (ss.getD i sl0).2.1 + (ss.getD i sl0).2.2
def R (t : Tb) : Nat → Prop
  | 0 => t.mem % 4 = 0 ∧ 64 ≤ t.mem ∧ t.mem ≤ 2048
  | 1 => shapeOk t.s1 t.s2 t.s3 = true
  | 2 => 1 ≤ t.tlb ∧ t.tlb ≤ 8
  | 3 => costsOk t.c1 t.c2 t.c3 t.c4 t.c5 t.c6 t.c7 = true
  | 4 => 1 ≤ t.pad ∧ t.pad ≤ 5000
  | 5 => 1 ≤ t.grd ∧ t.grd ≤ 5000
  | 6 => 1 ≤ t.maj ∧ t.maj ≤ 5000
  | 7 => worstStep t.c1 t.c2 t.c3 t.c4 t.c5 t.c6 t.c7 ≤ t.grd
  | 8 => 1 ≤ t.ps.length ∧ t.ps.length ≤ 6
  | 9 => ∀ i, i < t.ps.length → Lab.nok (Tx.nums (t.ps.getD i pt0).nm) = true
  | 10 => ∀ i, i < t.ps.length → ∀ j, j < i → (t.ps.getD j pt0).nm ≠ (t.ps.getD i pt0).nm
  | 11 => ∀ i, i < t.ps.length → polOk (t.ps.getD i pt0).kd (t.ps.getD i pt0).ms = true
  | 12 => ∀ i, i < t.ps.length → 1 ≤ (t.ps.getD i pt0).ws.length ∧ (t.ps.getD i pt0).ws.length ≤ 4
  | 13 => ∀ i, i < (allW t.ps).length → WOk ((allW t.ps).getD i wi0) ∧ ((allW t.ps).getD i wi0).1 + ((allW t.ps).getD i wi0).2.1 ≤ t.mem
  | 14 => ∀ i, i < (allW t.ps).length → ∀ j, j < i → ApartP ((allW t.ps).getD j wi0) ((allW t.ps).getD i wi0)
  | 15 => ∀ i, i < t.ps.length → (t.ps.getD i pt0).en % 4 = 0 ∧ ∃ j, j < (t.ps.getD i pt0).ws.length ∧ Has ((t.ps.getD i pt0).ws.getD j wi0) (t.ps.getD i pt0).en ∧ 4 ≤ ((t.ps.getD i pt0).ws.getD j wi0).2.2
  | 16 => t.ds.length ≤ 8
  | 17 => ∀ i, i < t.ds.length → 0 ≤ t.ds.getD i 0 ∧ t.ds.getD i 0 < (t.ps.length : Int)
  | 18 => t.cs.length ≤ 8
  | 19 => ∀ i, i < t.cs.length → chOkT (t.cs.getD i ch0) = true ∧ (0 ≤ (t.cs.getD i ch0).2.1 ∧ (t.cs.getD i ch0).2.1 < (t.ps.length : Int)) ∧ (0 ≤ (t.cs.getD i ch0).2.2.1 ∧ (t.cs.getD i ch0).2.2.1 < (t.ps.length : Int))
  | 20 => padV t ≤ t.pad
  | 21 => 1 ≤ t.ss.length ∧ t.ss.length ≤ 16
  | 22 => ∀ i, i < t.ss.length → 0 ≤ (t.ss.getD i sl0).1 ∧ (t.ss.getD i sl0).1 < (t.ps.length : Int)
  | 23 => ∀ i, i < t.ss.length → t.pad + t.grd < (t.ss.getD i sl0).2.2
  | 24 => ∀ i, i < t.ss.length → freeN t.ss i ≤ (t.ss.getD i sl0).2.1 ∧ (t.ss.getD i sl0).2.1 + (t.ss.getD i sl0).2.2 ≤ t.maj
  | _ => True
def Sd (t : Tb) : Prop := ∀ i, i < 25 → R t i
/-- A block that holds tables. -/
def TBx (X : World) (B : Nat) (t : Tb) (a : Ad) : Prop := X.heap[B]? = some (.cells (tbA t a) 33 (0, 0))
theorem TBx.cell {X : World} {B : Nat} {t : Tb} {a : Ad} (h : TBx X B t a) (j : Nat) {v : Value} (hj : (tbA t a)[j]? = some v) : X.cell? ⟨B, j, none⟩ = some v := by
  rw [cell_of_row X B j _ _ _ h]; exact hj
theorem TBx.lt {X : World} {B : Nat} {t : Tb} {a : Ad} (h : TBx X B t a) : B < X.heap.size := World.block_lt_of_cell? X _ (h.cell 0 rfl)
theorem TBx.below {X X' : World} {B : Nat} {t : Tb} {a : Ad} (h : TBx X B t a) (hb : Below X.heap.size X X') : TBx X' B t a := by
  have := h.lt
  unfold TBx at h ⊢
  rw [hb.block B this]; exact h
theorem TBx.new (w : World) (t : Tb) (a : Ad) (B : Nat) (hB : B = w.heap.size) : TBx (w.alloc (.cells (tbA t a) 33)) B t a := by
  subst hB
  unfold TBx
  show (w.heap.push _)[w.heap.size]? = _
  simp
/-- All that a rule is asked under. -/
structure Und (X : World) (B : Nat) (t : Tb) (a : Ad) : Prop where
  x : TBx X B t a
  m : TM 0 X t a
  w : TW t a
  s : TS a
  e : TabE X
theorem Und.below {X X' : World} {B : Nat} {t : Tb} {a : Ad} (h : Und X B t a) (hb : Below X.heap.size X X') : Und X' B t a := ⟨h.x.below hb, h.m.below hb, h.w, h.s, h.e.below hb⟩
theorem is_len (x : Int) (w : World) : Calls Tryz.prog 122 #[.int .i64 x] w fun e w' => e = .returned (.bool (inr x 1 5000)) ∧ w' = w := by
  by_cases h1 : 1 ≤ x
  · by_cases h2 : x ≤ 5000
    · rw [inr_yes ⟨h1, h2⟩]
      go_enter Tryz.func122, Tryz.ntmps122
      go_wp2
      go_ret
      exact ⟨rfl, rfl⟩
    · rw [inr_no (fun g => h2 g.2)]
      go_enter Tryz.func122, Tryz.ntmps122
      go_wp2
      go_ret
      exact ⟨rfl, rfl⟩
  · rw [inr_no (fun g => h1 g.1)]
    go_enter Tryz.func122, Tryz.ntmps122
    go_wp2
    go_ret
    exact ⟨rfl, rfl⟩
theorem is_tlb (x : Int) (w : World) : Calls Tryz.prog 118 #[.int .i64 x] w fun e w' => e = .returned (.bool (inr x 1 8)) ∧ w' = w := by
  by_cases h1 : 1 ≤ x
  · by_cases h2 : x ≤ 8
    · rw [inr_yes ⟨h1, h2⟩]
      go_enter Tryz.func118, Tryz.ntmps118
      go_wp2
      go_ret
      exact ⟨rfl, rfl⟩
    · rw [inr_no (fun g => h2 g.2)]
      go_enter Tryz.func118, Tryz.ntmps118
      go_wp2
      go_ret
      exact ⟨rfl, rfl⟩
  · rw [inr_no (fun g => h1 g.1)]
    go_enter Tryz.func118, Tryz.ntmps118
    go_wp2
    go_ret
    exact ⟨rfl, rfl⟩
theorem is_cnt (x m : Int) (w : World) : Calls Tryz.prog 49 #[.int .i64 x, .int .i64 m] w fun e w' => e = .returned (.bool (inr x 1 m)) ∧ w' = w := by
  by_cases h1 : 1 ≤ x
  · by_cases h2 : x ≤ m
    · rw [inr_yes ⟨h1, h2⟩]
      go_enter Tryz.func49, Tryz.ntmps49
      go_wp2
      go_ret
      exact ⟨rfl, rfl⟩
    · rw [inr_no (fun g => h2 g.2)]
      go_enter Tryz.func49, Tryz.ntmps49
      go_wp2
      go_ret
      exact ⟨rfl, rfl⟩
  · rw [inr_no (fun g => h1 g.1)]
    go_enter Tryz.func49, Tryz.ntmps49
    go_wp2
    go_ret
    exact ⟨rfl, rfl⟩
theorem bool_is {q r : Bool} {p : Prop} (hq : q = true ↔ p) (hr : r = true ↔ p) : r = q := by
  cases q <;> cases r
  · rfl
  · exact absurd (hq.2 (hr.1 rfl)) (by simp)
  · exact absurd (hr.2 (hq.1 rfl)) (by simp)
  · rfl
end Go.Proofs.YtlomcdgfcocmmaaGreatDoor
namespace Go.Proofs.YtlomcdgfcocmmaaGreatDoor
open Go.ChangeShapes Go.WideShapes Go.ChangeAt Go.RowKit Go.Deep Go.Joins
set_option linter.unusedVariables false

def wcells (xs : List wiT) : List Value := xs.flatMap wiL
theorem wcells_len (xs : List wiT) : (wcells xs).length = xs.length * 3 := by
  induction xs with
  | nil => rfl
  | cons x xs ih => simp only [wcells, wiL, List.flatMap_cons, List.length_append, List.length_cons, List.length_nil] at ih ⊢; omega
theorem wcells_app (xs ys : List wiT) : wcells (xs ++ ys) = wcells xs ++ wcells ys := by simp [wcells]
theorem wcells_at (xs : List wiT) (i : Nat) (hi : i < xs.length) (j : Nat) (hj : j < 3) : (wcells xs)[i * 3 + j]? = (wiL (xs.getD i wi0))[j]? := by
  induction xs generalizing i with
  | nil => simp at hi
  | cons x xs ih =>
    have e : wcells (x :: xs) = wiL x ++ wcells xs := by simp [wcells]
    rw [e]
    cases i with
    | zero => rw [Nat.zero_mul, Nat.zero_add, List.getElem?_append_left (by simpa [wiL] using hj)]; rfl
    | succ i =>
      rw [List.getElem?_append_right (by simp [wiL]; omega), show (i + 1) * 3 + j - (wiL x).length = i * 3 + j by simp [wiL]; omega]
      exact ih i (by simpa using hi)
theorem wcells_news {w : World} {b off : Nat} {xs : List wiT} (h : ∀ i, i < xs.length → CellsAt w b (off + i * 3) (wiX xs i)) : ∀ j u, (wcells xs)[j]? = some u → w.cell? ((⟨b, off, none⟩ : Addr).add j) = some u := fun j u e => by
  rw [add_plain]
  have hj : j < (wcells xs).length := by
    rcases Nat.lt_or_ge j (wcells xs).length with g | g
    · exact g
    · rw [List.getElem?_eq_none g] at e; cases e
  rw [wcells_len] at hj
  have hd : j = j / 3 * 3 + j % 3 := by omega
  have hi : j / 3 < xs.length := by omega
  rw [hd, wcells_at xs (j / 3) hi (j % 3) (by omega)] at e
  have := h (j / 3) hi (j % 3) u e
  rw [hd, ← Nat.add_assoc]
  exact this
theorem wcells_one (xs : List wiT) : ∀ u ∈ wcells xs, u.oneCell' = true := by
  intro u hu
  simp only [wcells, List.mem_flatMap, wiL, List.mem_cons, List.not_mem_nil, or_false] at hu
  obtain ⟨x, _, rfl | rfl | rfl⟩ := hu <;> rfl
def OwnW (w : World) (base : Nat) (v : Value) (xs : List wiT) : Prop := w.ownsRow base 74 3 v xs.length (wcells xs)
theorem OwnW.new (w : World) (B : Nat) (hB : B = w.heap.size) : OwnW (w.alloc (.cells #[] 74)) B (.slice (some ⟨B, 0, none⟩) 0 0) [] := by
  subst hB
  exact ⟨rfl, .inr ⟨w.heap.size, 0, #[], rfl, Nat.le_refl _, by show (w.heap.push _)[w.heap.size]? = _; simp, Nat.le_refl _, by simp, rfl, rfl⟩⟩
theorem OwnW.low {w : World} {base b' : Nat} {v : Value} {xs : List wiT} (h : OwnW w base v xs) (hle : b' ≤ base) : OwnW w b' v xs := by
  refine ⟨h.1, ?_⟩
  rcases h.2 with hn | ⟨g, cap, cur, e, hb, rest⟩
  · exact .inl hn
  · exact .inr ⟨g, cap, cur, e, by omega, rest⟩
theorem OwnW.block {w : World} {base : Nat} {v : Value} {xs : List wiT} (h : OwnW w base v xs) : ∀ k, v.ownBlock = some k → base ≤ k := by
  intro k hk
  rcases h.2 with ⟨h0, h1⟩ | ⟨g, cap, cur, rfl, hb, _⟩
  · rw [h0] at hk; cases hk
  · simp [Value.ownBlock] at hk; omega
theorem OwnW.seg {w : World} {base : Nat} {v : Value} {xs : List wiT} (h : OwnW w base v xs) : ∃ a cap, v = .slice a xs.length cap ∧ xs.length ≤ cap ∧ GSeg 3 w a xs.length (wiX xs) := by
  rcases h.2 with ⟨h0, h1⟩ | ⟨g, cap, cur, rfl, hb, hg, h1, h2, h3, h4⟩
  · exact ⟨none, 0, by rw [h0, h1], by omega, fun h => absurd h (by omega)⟩
  · have hlt : g < w.heap.size := by
      rcases Nat.lt_or_ge g w.heap.size with hlt | hge
      · exact hlt
      · rw [Array.getElem?_eq_none hge] at hg; cases hg
    refine ⟨_, _, rfl, h1, fun h0 => ⟨g, 0, rfl, hlt, fun i hi j v hj => ?_⟩⟩
    have hj3 : j < 3 := by
      have := (List.getElem?_eq_some_iff.1 hj).1
      simpa [wiX, wiL] using this
    have e : (wcells xs)[i * 3 + j]? = some v := by rw [wcells_at xs i hi j hj3]; exact hj
    have hj2 : i * 3 + j < xs.length * 3 := by omega
    rw [← h4, List.getElem?_take, if_pos hj2] at e
    rw [Nat.zero_add]
    have e2 : cur[i * 3 + j]? = some v := by simpa using e
    simp [World.cell?, hg, e2]
theorem allW_succ (ps : List Pt) (m : Nat) (h : m < ps.length) : allW (ps.take (m + 1)) = allW (ps.take m) ++ (ps.getD m pt0).ws := by
  unfold allW
  rw [List.take_succ_eq_append_getElem h]
  simp only [List.map_append, List.flatten_append, List.map_cons, List.map_nil, List.flatten_cons, List.flatten_nil, List.append_nil]
  congr 1
  simp [List.getD, h]
theorem wi_info' : ∃ i, Tryz.prog.info? 74 = some i ∧ i.zero = some (.agg #[.int .i64 0, .int .i64 0, .int .i64 0]) ∧ i.size = 3 ∧ i.bytes = 24 := by
  obtain ⟨i, hi, h⟩ := Option.map_eq_some_iff.1 wi_info
  simp only [Prod.mk.injEq] at h
  exact ⟨i, hi, h.1, h.2.1, h.2.2⟩
set_option maxRecDepth 20000 in
set_option maxHeartbeats 4000000 in
theorem spec_all (a : Option Addr) (cap n : Nat) (ps : List Pt) (Y : Nat → Rw) (w : World) (hs : PSegL 0 w a n ps Y) (hl : ps.length = n) (hn : n ≤ 6) (hw : ∀ i, i < n → 1 ≤ (Y i).wn ∧ (Y i).wn ≤ 4) :
    Calls Tryz.prog 91 #[.slice a n cap] w fun e w' => (∃ A c, e = .returned (.slice A (allW ps).length c) ∧ (allW ps).length ≤ c ∧ GSeg 3 w' A (allW ps).length (wiX (allW ps))) ∧ Below w.heap.size w w' := by
  have HS : Hid (PSegL 0 w a n ps Y) := hs
  clear hs
  have HO : Hid (Below w.heap.size w (w.alloc (.cells #[] 74)) ∧ OwnW (w.alloc (.cells #[] 74)) w.heap.size (.slice (some ⟨w.heap.size, 0, none⟩) 0 0) []) := ⟨(Below.refl _ _).alloc (Nat.le_refl _) _, OwnW.new w _ rfl⟩
  obtain ⟨iW, hi1, hi2, hi3, hi4⟩ := wi_info'
  have HI : Hid (Tryz.prog.info? 74 = some iW ∧ iW.zero = some (.agg #[.int .i64 0, .int .i64 0, .int .i64 0]) ∧ iW.size = 3 ∧ iW.bytes = 24) := ⟨hi1, hi2, hi3, hi4⟩
  have HW : Hid (∀ i, i < n → 1 ≤ (Y i).wn ∧ (Y i).wn ≤ 4) := hw
  have HL : Hid (ps.length = n) := hl
  clear hi1 hi2 hi3 hi4 hw hl
  go_enter Tryz.func91, Tryz.ntmps91
  go_wp2
  go_loopw [3, 4] (fun v i wr => ∃ m : Nat, m ≤ n ∧ i = .int .i64 m ∧ Hid (Below w.heap.size w wr ∧ OwnW wr w.heap.size v (allW (ps.take m)) ∧ (allW (ps.take m)).length ≤ 4 * m)) (fun _ i _ => n - (intOf i).toNat)
  case atStart => exact ⟨0, by omega, rfl, HO.out.1, by simpa [allW] using HO.out.2, by simp [allW]⟩
  case round =>
    obtain ⟨m, hm, rfl, HR⟩ := hrel
    by_cases hmn : m < n
    rotate_left
    · obtain rfl : m = n := by omega
      have HE : Hid (ps.take m = ps) := by show _ = _; rw [← HL.out, List.take_length]
      obtain ⟨A, c, hv, hc, hg⟩ := HR.out.2.1.seg
      rw [HE.out] at hv hc hg
      subst hv
      have HG : Hid ((allW ps).length ≤ c ∧ GSeg 3 wr A (allW ps).length (wiX (allW ps))) := ⟨hc, hg⟩
      clear hc hg
      go_wp2
      go_ret
      exact ⟨⟨A, c, rfl, HG.out⟩, HR.out.1⟩
    have hmn' : (m : Int) < (n : Int) := by omega
    obtain ⟨b1, o1, rfl, hbl1, p1⟩ := (HS.out).1.seg.at m hmn
    replace p1 := p1.of (w' := wr) (fun j => HR.out.1.cell (p := ⟨b1, j, none⟩) hbl1)
    have hgd := ((HS.out).2 m hmn).below HR.out.1
    have hwn := HW.out m hmn
    have HSC : Hid (allW (ps.take (m + 1)) = allW (ps.take m) ++ (ps.getD m pt0).ws) := allW_succ ps m (by rw [HL.out]; exact hmn)
    obtain ⟨c0, c1, c2, c3, c4⟩ := rw_cells p1
    generalize Y m = y at c0 c1 c2 c3 c4 hgd hwn
    obtain ⟨nm, en, kd, ms, wa, wn, wc⟩ := y
    simp only at c0 c1 c2 c3 c4 hwn
    obtain ⟨b2, o2, hwa, hbl2, p2⟩ := hgd.sg.seg (show 0 < wn by omega)
    simp only at hwa
    subst hwa
    have hln : (ps.getD m pt0).ws.length = wn := hgd.ln
    generalize (ps.getD m pt0).ws = ws at hln p2 HSC
    have hnews := wcells_news (xs := ws) (fun i hi => p2 i (by rw [← hln]; exact hi))
    have hnl : (wcells ws).length = wn * 3 := by rw [wcells_len, hln]
    have hone := wcells_one ws
    have hown := HR.out.2.1
    have hlen4 := HR.out.2.2
    obtain ⟨Ws, HWs⟩ : ∃ Ws, Hid (allW (ps.take m) = Ws) := ⟨_, rfl⟩
    rw [HWs.out] at hown hlen4
    have HBl : Hid (∀ k, u3.ownBlock = some k → w.heap.size ≤ k) := hown.block
    obtain ⟨N, HN⟩ : ∃ N, Hid (Ws.length = N) := ⟨_, rfl⟩
    have HOW : Hid (wr.ownsRow w.heap.size 74 3 u3 N (wcells Ws)) := by rw [← HN.out]; exact hown
    rw [HN.out] at hlen4
    have HNW : Hid ((∀ j u, (wcells ws)[j]? = some u → wr.cell? ((⟨b2, o2, none⟩ : Addr).add j) = some u) ∧ (wcells ws).length = wn * 3 ∧ ∀ u ∈ wcells ws, u.oneCell' = true) := ⟨hnews, hnl, hone⟩
    have HBW : Hid (Below w.heap.size w wr) := HR.out.1
    have HSZ : Hid (∀ k g : Nat, ∀ w' : World, w'.ownsRow w.heap.size 74 3 (.slice (some ⟨g, 0, none⟩) (N + wn) k) (N + wn) (wcells Ws ++ wcells ws) → OwnW w' w.heap.size (.slice (some ⟨g, 0, none⟩) (N + wn) k) (allW (ps.take (m + 1)))) := fun k g w' h => by
      unfold OwnW
      rw [HSC.out, HWs.out, wcells_app, List.length_append, hln, HN.out]
      exact h
    have HS4 : Hid ((allW (ps.take (m + 1))).length ≤ 4 * (m + 1)) := by
      show _ ≤ _
      rw [HSC.out, HWs.out, List.length_append, hln, HN.out]
      omega
    have hwn1 : 0 < wn := by omega
    have hNb : N + wn ≤ 28 := by omega
    clear hown hgd hbl1 hbl2 p1 p2 hnews hnl hone hln HSC HWs HN HR hwn
    go_wp2_with (at_builtin; refine wpList_append_lies _ rfl (.tmp 12) (.tmp 17) 70 rfl w.heap.size 74 iW (.agg #[.int .i64 0, .int .i64 0, .int .i64 0]) 3 24 Tryz.underlying70 HI.out.1 HI.out.2.1 HI.out.2.2.1 HI.out.2.2.2 rfl (by omega) _ _ _ rfl HOW.out ⟨b2, o2, none⟩ wn wc (wcells ws) rfl HNW.out.2.1 HNW.out.1 HNW.out.2.2 hwn1 (by unfold maxLen; omega) (by omega) HBW.out.size _ rfl ?_; intro g cap1 w9 hown9 hgrow hat hlt9)
    go_roundw
    case rel => first | exact ⟨m + 1, by omega, by go_num, (HBW.out.grown hgrow HBW.out.size HBl.out), HSZ.out _ _ _ hown9, HS4.out⟩ | (trace_state; exact ⟨_, ⟨m + 1, by omega, by go_num, (HBW.out.grown hgrow HBW.out.size HBl.out), HSZ.out _ _ _ hown9, HS4.out⟩, rfl⟩)
    case measure => simp [intOf]; omega
set_option maxRecDepth 20000 in
set_option maxHeartbeats 4000000 in
theorem impl_all0 (t : Tb) (pa da ca sa : Option Addr) (n pc dn dc cn cc sn sc : Nat) (ps : List Pt) (Y : Nat → Rw) (w : World) (hs : PSegL 0 w pa n ps Y) (hl : ps.length = n) (hn : n ≤ 6) (hw : ∀ i, i < n → 1 ≤ (Y i).wn ∧ (Y i).wn ≤ 4) :
    Calls Tryz.prog 142 #[.agg #[.int .i64 t.mem, .int .i64 t.s1, .int .i64 t.s2, .int .i64 t.s3, .int .i64 t.tlb, .int .i64 t.c1, .int .i64 t.c2, .int .i64 t.c3, .int .i64 t.c4, .int .i64 t.c5, .int .i64 t.c6, .int .i64 t.c7, .int .i64 t.pad, .int .i64 t.grd, .int .i64 t.maj, .slice pa n pc, .slice da dn dc, .slice ca cn cc, .slice sa sn sc]] w fun e w' => (∃ A c, e = .returned (.slice A (allW ps).length c) ∧ (allW ps).length ≤ c ∧ GSeg 3 w' A (allW ps).length (wiX (allW ps))) ∧ Below w.heap.size w w' := by
  have HS : Hid (PSegL 0 w pa n ps Y) := hs
  have HO : Hid (Below w.heap.size w ((w.alloc (.cells #[.int .i64 t.mem, .int .i64 t.s1, .int .i64 t.s2, .int .i64 t.s3, .int .i64 t.tlb, .int .i64 t.c1, .int .i64 t.c2, .int .i64 t.c3, .int .i64 t.c4, .int .i64 t.c5, .int .i64 t.c6, .int .i64 t.c7, .int .i64 t.pad, .int .i64 t.grd, .int .i64 t.maj, .slice pa n pc, .slice da dn dc, .slice ca cn cc, .slice sa sn sc] 33)).alloc (.cells #[] 74)) ∧ OwnW ((w.alloc (.cells #[.int .i64 t.mem, .int .i64 t.s1, .int .i64 t.s2, .int .i64 t.s3, .int .i64 t.tlb, .int .i64 t.c1, .int .i64 t.c2, .int .i64 t.c3, .int .i64 t.c4, .int .i64 t.c5, .int .i64 t.c6, .int .i64 t.c7, .int .i64 t.pad, .int .i64 t.grd, .int .i64 t.maj, .slice pa n pc, .slice da dn dc, .slice ca cn cc, .slice sa sn sc] 33)).alloc (.cells #[] 74)) w.heap.size (.slice (some ⟨w.heap.size + 1, 0, none⟩) 0 0) []) := ⟨((Below.refl _ _).alloc (Nat.le_refl _) _).alloc (by simp) _, (OwnW.new (w.alloc (.cells #[.int .i64 t.mem, .int .i64 t.s1, .int .i64 t.s2, .int .i64 t.s3, .int .i64 t.tlb, .int .i64 t.c1, .int .i64 t.c2, .int .i64 t.c3, .int .i64 t.c4, .int .i64 t.c5, .int .i64 t.c6, .int .i64 t.c7, .int .i64 t.pad, .int .i64 t.grd, .int .i64 t.maj, .slice pa n pc, .slice da dn dc, .slice ca cn cc, .slice sa sn sc] 33)) (w.heap.size + 1) (by simp)).low (by omega)⟩
  clear hs
  obtain ⟨iW, hi1, hi2, hi3, hi4⟩ := wi_info'
  have HI : Hid (Tryz.prog.info? 74 = some iW ∧ iW.zero = some (.agg #[.int .i64 0, .int .i64 0, .int .i64 0]) ∧ iW.size = 3 ∧ iW.bytes = 24) := ⟨hi1, hi2, hi3, hi4⟩
  have HW : Hid (∀ i, i < n → 1 ≤ (Y i).wn ∧ (Y i).wn ≤ 4) := hw
  have HL : Hid (ps.length = n) := hl
  clear hi1 hi2 hi3 hi4 hw hl
  go_enter Tryz.func142, Tryz.ntmps142
  go_wp2
  go_loopw [3, 10] (fun v i wr => ∃ m : Nat, m ≤ n ∧ i = .int .i64 m ∧ Hid (Below w.heap.size w wr ∧ OwnW wr w.heap.size v (allW (ps.take m)) ∧ (allW (ps.take m)).length ≤ 4 * m)) (fun _ i _ => n - (intOf i).toNat)
  case atStart => exact ⟨0, by omega, rfl, HO.out.1, by simpa [allW] using HO.out.2, by simp [allW]⟩
  case round =>
    obtain ⟨m, hm, rfl, HR⟩ := hrel
    by_cases hmn : m < n
    rotate_left
    · obtain rfl : m = n := by omega
      have HE : Hid (ps.take m = ps) := by show _ = _; rw [← HL.out, List.take_length]
      obtain ⟨A, c, hv, hc, hg⟩ := HR.out.2.1.seg
      rw [HE.out] at hv hc hg
      subst hv
      have HG : Hid ((allW ps).length ≤ c ∧ GSeg 3 wr A (allW ps).length (wiX (allW ps))) := ⟨hc, hg⟩
      clear hc hg
      go_wp2
      go_ret
      exact ⟨⟨A, c, rfl, HG.out⟩, HR.out.1⟩
    have hmn' : (m : Int) < (n : Int) := by omega
    obtain ⟨b1, o1, rfl, hbl1, p1⟩ := (HS.out).1.seg.at m hmn
    replace p1 := p1.of (w' := wr) (fun j => HR.out.1.cell (p := ⟨b1, j, none⟩) hbl1)
    have hgd := ((HS.out).2 m hmn).below HR.out.1
    have hwn := HW.out m hmn
    have HSC : Hid (allW (ps.take (m + 1)) = allW (ps.take m) ++ (ps.getD m pt0).ws) := allW_succ ps m (by rw [HL.out]; exact hmn)
    obtain ⟨c0, c1, c2, c3, c4⟩ := rw_cells p1
    generalize Y m = y at c0 c1 c2 c3 c4 hgd hwn
    obtain ⟨nm, en, kd, ms, wa, wn, wc⟩ := y
    simp only at c0 c1 c2 c3 c4 hwn
    obtain ⟨b2, o2, hwa, hbl2, p2⟩ := hgd.sg.seg (show 0 < wn by omega)
    simp only at hwa
    subst hwa
    have hln : (ps.getD m pt0).ws.length = wn := hgd.ln
    generalize (ps.getD m pt0).ws = ws at hln p2 HSC
    have hnews := wcells_news (xs := ws) (fun i hi => p2 i (by rw [← hln]; exact hi))
    have hnl : (wcells ws).length = wn * 3 := by rw [wcells_len, hln]
    have hone := wcells_one ws
    have hown := HR.out.2.1
    have hlen4 := HR.out.2.2
    obtain ⟨Ws, HWs⟩ : ∃ Ws, Hid (allW (ps.take m) = Ws) := ⟨_, rfl⟩
    rw [HWs.out] at hown hlen4
    have HBl : Hid (∀ k, u3.ownBlock = some k → w.heap.size ≤ k) := hown.block
    obtain ⟨N, HN⟩ : ∃ N, Hid (Ws.length = N) := ⟨_, rfl⟩
    have HOW : Hid (wr.ownsRow w.heap.size 74 3 u3 N (wcells Ws)) := by rw [← HN.out]; exact hown
    rw [HN.out] at hlen4
    have HNW : Hid ((∀ j u, (wcells ws)[j]? = some u → wr.cell? ((⟨b2, o2, none⟩ : Addr).add j) = some u) ∧ (wcells ws).length = wn * 3 ∧ ∀ u ∈ wcells ws, u.oneCell' = true) := ⟨hnews, hnl, hone⟩
    have HBW : Hid (Below w.heap.size w wr) := HR.out.1
    have HSZ : Hid (∀ k g : Nat, ∀ w' : World, w'.ownsRow w.heap.size 74 3 (.slice (some ⟨g, 0, none⟩) (N + wn) k) (N + wn) (wcells Ws ++ wcells ws) → OwnW w' w.heap.size (.slice (some ⟨g, 0, none⟩) (N + wn) k) (allW (ps.take (m + 1)))) := fun k g w' h => by
      unfold OwnW
      rw [HSC.out, HWs.out, wcells_app, List.length_append, hln, HN.out]
      exact h
    have HS4 : Hid ((allW (ps.take (m + 1))).length ≤ 4 * (m + 1)) := by
      show _ ≤ _
      rw [HSC.out, HWs.out, List.length_append, hln, HN.out]
      omega
    have hwn1 : 0 < wn := by omega
    have hNb : N + wn ≤ 28 := by omega
    clear hown hgd hbl1 hbl2 p1 p2 hnews hnl hone hln HSC HWs HN HR hwn
    go_wp2_with (at_builtin; refine wpList_append_lies _ rfl (.tmp 14) (.tmp 16) 70 rfl w.heap.size 74 iW (.agg #[.int .i64 0, .int .i64 0, .int .i64 0]) 3 24 Tryz.underlying70 HI.out.1 HI.out.2.1 HI.out.2.2.1 HI.out.2.2.2 rfl (by omega) _ _ _ rfl (World.ownsRow.alloc HOW.out _) ⟨b2, o2, none⟩ wn wc (wcells ws) rfl HNW.out.2.1 (fun j u e => kept_cell ((Below.refl _ _).alloc (Nat.le_refl _) _) (HNW.out.1 j u e)) HNW.out.2.2 hwn1 (by unfold maxLen; omega) (by omega) (by have := HBW.out.size; simp; omega) _ rfl ?_; intro g cap1 w9 hown9 hgrow hat hlt9)
    go_roundw
    case rel => first | exact ⟨m + 1, by omega, by go_num, ((HBW.out.alloc HBW.out.size _).grown hgrow (by have := HBW.out.size; simp; omega) HBl.out), HSZ.out _ _ _ hown9, HS4.out⟩ | (trace_state; exact ⟨_, ⟨m + 1, by omega, by go_num, ((HBW.out.alloc HBW.out.size _).grown hgrow (by have := HBW.out.size; simp; omega) HBl.out), HSZ.out _ _ _ hown9, HS4.out⟩, rfl⟩)
    case measure => simp [intOf]; omega
theorem impl_all (t : Tb) (a : Ad) (w : World) (hm : TM 0 w t a) (hl : t.ps.length = a.pn) (hn : a.pn ≤ 6) (hw : ∀ i, i < a.pn → 1 ≤ (a.Y i).wn ∧ (a.Y i).wn ≤ 4) :
    Calls Tryz.prog 142 #[tbV t a] w fun e w' => (∃ A c, e = .returned (.slice A (allW t.ps).length c) ∧ (allW t.ps).length ≤ c ∧ GSeg 3 w' A (allW t.ps).length (wiX (allW t.ps))) ∧ Below w.heap.size w w' :=
  impl_all0 t a.pa a.da a.ca a.sa a.pn a.pc a.dn a.dc a.cn a.cc a.sn a.sc t.ps a.Y w hm.p hl hn hw
end Go.Proofs.YtlomcdgfcocmmaaGreatDoor
namespace Go.Proofs.YtlomcdgfcocmmaaGreatDoor
open Go.ChangeShapes Go.WideShapes Go.ChangeAt Go.RowKit Go.Deep
set_option linter.unusedVariables false

theorem wpList_load_rowG {P : Program} {ops : Array Oper} {rest : List Oper} {o : Oper} {a : Act} {w : World} {Q : Exit → Act → World → Prop} (hw : Region.wanted o (yielded ops a.tmps) = true) (ty : TypeId) (x : Operand) (ho : o.op = .load ty x)
    (g : Nat) (hx : a.eval x = .pointer (some ⟨g, 0, none⟩)) (t : TypeId) (cs : Array Value) (fr : Nat × Nat) (d : TypeDesc) (hg : w.heap[g]? = some (.cells cs t fr))
    (hu : P.underlying ty = some d) (hd : (match d with | .struct _ | .array _ _ => true | _ => false) = true) (hi : (P.info? ty).map (·.size) = some cs.size)
    (h : wpList P ops Q rest (a.put o.dst (.agg cs)) w) : wpList P ops Q (o :: rest) a w := by
  unfold wpList
  rw [if_pos hw]
  exact .inl (wp_load_row ty x ho g hx t cs fr d hg hu hd hi h)
theorem wpQuiet_load_row {P : Program} {ops : Array Oper} {C : World → Prop} {rest : List Oper} {o : Oper} {a : Act} {Q : Act → Prop} (hw : Region.wanted o (yielded ops a.tmps) = true) (ty : TypeId) (x : Operand) (ho : o.op = .load ty x)
    (g : Nat) (hx : a.eval x = .pointer (some ⟨g, 0, none⟩)) (t : TypeId) (cs : Array Value) (fr : Nat × Nat) (d : TypeDesc) (hg : ∀ w, C w → w.heap[g]? = some (.cells cs t fr))
    (hu : P.underlying ty = some d) (hd : (match d with | .struct _ | .array _ _ => true | _ => false) = true) (hi : (P.info? ty).map (·.size) = some cs.size)
    (h : wpQuiet P ops C Q rest (a.put o.dst (.agg cs))) : wpQuiet P ops C Q (o :: rest) a := by
  refine wpQuiet_step fun K hK => ?_
  rw [if_pos hw]
  refine ⟨.agg cs, fun w hC => ?_, hK _ h⟩
  unfold Oper.quietAt execOp
  simp only [ho, hx, Instr.loadAt, Instr.sureAddr, Sem.run_bind, Sem.run_pure, Result.andThen_ok, run_loadVar_row w g t ty cs fr d (hg w hC) hu hd hi]
  exact ⟨rfl, rfl⟩
end Go.Proofs.YtlomcdgfcocmmaaGreatDoor
