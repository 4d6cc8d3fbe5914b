/-
  Lists of partitions in memory, their windows with them: copies, likeness, the measure, whether a test holds of every one or of every two, the first of which one holds; how a list that came in is read. Conditions: lengths are at most 1048576 where a copy is made.
  Lists of partitions: the copies that the laws make, their likeness and their measure. Conditions: lengths are at most 1048576 where a copy is made.
  Whether a test holds of every partition of a list, the first partition or window of which one holds: the program's and the library's own loops, whatever the test. Conditions: what is asked of the test.
-/
import Derived.Test.YtlomcdgfcocmmaaGreatDoorBas
import Derived.Test.YtlomcdgfcocmmaaGreatDoorWns
import Derived.Test.YtlomcdgfcocmmaaGreatDoorPol
import Derived.Deep.RegionHeld3
import Derived.Deep.RegionHeldLaw
import Derived.BigQuiet
import Derived.Lib.SmallJoins
namespace Go.Proofs.YtlomcdgfcocmmaaGreatDoor
open Go.ChangeShapes Go.WideShapes Go.ChangeAt Go.RowKit Go.Deep Go.Joins
set_option linter.unusedVariables false

/-- A partition, as numbers and lists. -/
structure Pt where
  nm : ByteArray
  en : Int
  kd : Int
  ms : Int
  ws : List wiT
abbrev pt0 : Pt := ⟨ByteArray.empty, 0, 0, 0, []⟩
/-- A partition's cells. -/
structure Rw where
  nm : ByteArray
  en : Int
  kd : Int
  ms : Int
  wa : Option Addr
  wn : Nat
  wc : Nat
def rwL (y : Rw) : List Value := [.string y.nm, .int .i64 y.en, .int .i64 y.kd, .int .i64 y.ms, .slice y.wa y.wn y.wc]
abbrev rwV (y : Rw) : Value := .agg #[.string y.nm, .int .i64 y.en, .int .i64 y.kd, .int .i64 y.ms, .slice y.wa y.wn y.wc]
/-- The cells are those of the partition, and its windows lie where they say. -/
structure Good (lo : Nat) (w : World) (y : Rw) (p : Pt) : Prop where
  nm : y.nm = p.nm
  en : y.en = p.en
  kd : y.kd = p.kd
  ms : y.ms = p.ms
  ln : p.ws.length = y.wn
  cp : y.wn ≤ y.wc
  sg : GSegL 3 lo w y.wa y.wn (wiX p.ws)
theorem Good.below {lo : Nat} {w w' : World} {y : Rw} {p : Pt} (h : Good lo w y p) (hb : Below w.heap.size w w') : Good lo w' y p := ⟨h.nm, h.en, h.kd, h.ms, h.ln, h.cp, h.sg.below hb⟩
theorem Good.wide {lo lo' : Nat} {w : World} {y : Rw} {p : Pt} (h : Good lo w y p) (hl : lo' ≤ lo) : Good lo' w y p := ⟨h.nm, h.en, h.kd, h.ms, h.ln, h.cp, h.sg.wide hl⟩
theorem Good.setAll {lo B o : Nat} {w : World} {y : Rw} {p : Pt} (vs : List Value) (h : Good lo w y p) (hB : B < lo) : Good lo (setAll w B o vs) y p := ⟨h.nm, h.en, h.kd, h.ms, h.ln, h.cp, h.sg.setAll vs hB⟩
structure PSegL (lo : Nat) (w : World) (a : Option Addr) (n : Nat) (ps : List Pt) (Y : Nat → Rw) : Prop where
  p1 : GSegL 5 lo w a n (fun i => rwL (Y i))
  p2 : ∀ i, i < n → Good lo w (Y i) (ps.getD i pt0)
  p3 : 0 < lo → ∀ b off, a = some ⟨b, off, none⟩ → ∀ i, i < n → Good (b + 1) w (Y i) (ps.getD i pt0)
theorem PSegL.lob {lo : Nat} {w : World} {a : Option Addr} {n : Nat} {ps : List Pt} {Y : Nat → Rw} (h : PSegL lo w a n ps Y) {b off i : Nat} (e : a = some ⟨b, off, none⟩) (hi : i < n) : lo ≤ b := by
  obtain ⟨b', off', e', h1, _⟩ := h.p1 (by omega)
  rw [e] at e'
  cases e'
  exact h1
theorem PSegL.below {lo : Nat} {w w' : World} {a : Option Addr} {n : Nat} {ps : List Pt} {Y : Nat → Rw} (h : PSegL lo w a n ps Y) (hb : Below w.heap.size w w') : PSegL lo w' a n ps Y := ⟨h.1.below hb, fun i hi => (h.2 i hi).below hb, fun g b off e i hi => (h.3 g b off e i hi).below hb⟩
theorem PSegL.wide {lo lo' : Nat} {w : World} {a : Option Addr} {n : Nat} {ps : List Pt} {Y : Nat → Rw} (h : PSegL lo w a n ps Y) (hl : lo' ≤ lo) : PSegL lo' w a n ps Y := ⟨h.1.wide hl, fun i hi => (h.2 i hi).wide hl, fun g => h.3 (Nat.lt_of_lt_of_le g hl)⟩
theorem PSegL.setAll {lo B o : Nat} {w : World} {a : Option Addr} {n : Nat} {ps : List Pt} {Y : Nat → Rw} (vs : List Value) (h : PSegL lo w a n ps Y) (hB : B < lo) : PSegL lo (setAll w B o vs) a n ps Y := ⟨h.1.setAll vs hB, fun i hi => (h.2 i hi).setAll vs hB, fun g b off e i hi => (h.3 g b off e i hi).setAll vs (by have := h.lob e hi; omega)⟩
theorem rw_cells {w : World} {b o : Nat} {y : Rw} (h : CellsAt w b o (rwL y)) : w.cell? ⟨b, o, none⟩ = some (.string y.nm) ∧ w.cell? ⟨b, o + 1, none⟩ = some (.int .i64 y.en) ∧ w.cell? ⟨b, o + 2, none⟩ = some (.int .i64 y.kd) ∧ w.cell? ⟨b, o + 3, none⟩ = some (.int .i64 y.ms) ∧ w.cell? ⟨b, o + 4, none⟩ = some (.slice y.wa y.wn y.wc) :=
  ⟨h 0 _ rfl, h 1 _ rfl, h 2 _ rfl, h 3 _ rfl, h 4 _ rfl⟩
end Go.Proofs.YtlomcdgfcocmmaaGreatDoor
namespace Go.Proofs.YtlomcdgfcocmmaaGreatDoor
open Go.ChangeShapes Go.WideShapes Go.ChangeAt Go.RowKit Go.Deep Go.Joins
set_option linter.unusedVariables false

theorem rw_info : (Tryz.prog.info? 72).map (fun i => (i.zero, i.size, i.bytes)) = some (some (.agg #[.string ByteArray.empty, .int .i64 0, .int .i64 0, .int .i64 0, .slice none 0 0]), 5, 64) := by kernel_rfl
theorem rw_make (n : Nat) (hn : n ≤ 1048576) (w : World) : (Instr.makeSlice 28 (.int .i64 (n : Int)) (.int .i64 (n : Int))).run Tryz.prog w = .ok (.slice (some ⟨w.heap.size, 0, none⟩) n n) (w.alloc (.cells (madeCells #[.string ByteArray.empty, .int .i64 0, .int .i64 0, .int .i64 0, .slice none 0 0] (n * 5)) 72)) := by
  obtain ⟨i, hi, hzz⟩ := Option.map_eq_some_iff.1 rw_info
  simp only [Prod.mk.injEq] at hzz
  obtain ⟨hz, hs, hb⟩ := hzz
  have := run_make (P := Tryz.prog) w 28 72 i _ Tryz.underlying28 hi hz .i64 .i64 n n (by omega) (Int.le_refl _) (by rw [hb]; omega) (by omega)
  rw [hs, Int.toNat_natCast] at this
  exact this
/-- The cells of the first m partitions, and of one more. -/
def more (Y : Nat → Rw) (m : Nat) (y : Rw) : Nat → Rw := fun i => if i = m then y else Y i
theorem more_at (Y : Nat → Rw) (m : Nat) (y : Rw) : more Y m y m = y := by simp [more]
theorem more_lt (Y : Nat → Rw) (m : Nat) (y : Rw) (i : Nat) (h : i < m) : more Y m y i = Y i := by unfold more; rw [if_neg (by omega)]
end Go.Proofs.YtlomcdgfcocmmaaGreatDoor
namespace Go.Proofs.YtlomcdgfcocmmaaGreatDoor
open Go.ChangeShapes Go.WideShapes Go.ChangeAt Go.RowKit Go.Deep Go.Joins
set_option linter.unusedVariables false

set_option maxRecDepth 20000 in
set_option maxHeartbeats 1000000 in
theorem part_every (a : Option Addr) (cap n : Nat) (Y : Nat → Rw) (P : Nat → Bool) (q : Bool) (fid : Nat) (caps : Array Value) (w : World) (hs : GSeg 5 w a n (fun i => rwL (Y i))) (hn : n ≤ 9223372036854775807) (hen : ∀ args (v : World), (callFunc fid args).run Tryz.prog v = .ok (.enter fid args) v)
    (hf : ∀ i, i < n → ∀ X, Below w.heap.size w X → Calls Tryz.prog fid (#[rwV (Y i)] ++ caps) X fun e w' => e = .returned (.bool (P i)) ∧ Below X.heap.size X w')
    (hq : q = true ↔ ∀ i, i < n → P i = true) :
    Calls Tryz.prog 129 #[.slice a n cap, .func (.func fid) #[] caps] w fun e w' => e = .returned (.bool q) ∧ Below w.heap.size w w' := by
  have HQ : Hid (q = true ↔ ∀ i, i < n → P i = true) := hq
  have HS : Hid (GSeg 5 w a n (fun i => rwL (Y i))) := hs
  have HF : Hid (∀ i, i < n → ∀ X, Below w.heap.size w X → Calls Tryz.prog fid (#[rwV (Y i)] ++ caps) X fun e w' => e = .returned (.bool (P i)) ∧ Below X.heap.size X w') := hf
  clear hq hs hf
  go_enter Tryz.func129, Tryz.ntmps129
  go_wp2
  go_loopw [9] (fun i wr => ∃ m : Nat, m ≤ n ∧ i = .int .i64 m ∧ Hid (Below w.heap.size w wr ∧ ∀ j, j < m → P j = true)) (fun i _ => n - (intOf i).toNat)
  case atStart => exact ⟨0, by omega, rfl, Below.refl _ _, fun i hi => absurd hi (by omega)⟩
  case round =>
    obtain ⟨m, hm, rfl, HR⟩ := hrel
    by_cases hmn : m < n
    rotate_left
    · obtain rfl : m = n := by omega
      have HT : Hid (q = true) := HQ.out.2 HR.out.2
      go_wp2
      go_ret
      exact ⟨ret_bool HT.out.symm, HR.out.1⟩
    have hmn' : (m : Int) < (n : Int) := by omega
    obtain ⟨b1, o1, rfl, hbl1, p1⟩ := HS.out.at m hmn
    replace p1 := p1.of (w' := wr) (fun j => HR.out.1.cell (p := ⟨b1, j, none⟩) hbl1)
    have HFm : Hid _ := HF.out m hmn
    have HPm : Hid (P m = false → q = false) := fun h => not_true HQ.out (fun g => by rw [g m hmn] at h; cases h)
    have HPt : Hid (P m = true → ∀ j, j < m + 1 → P j = true) := fun h j hj => by
      by_cases e : j = m
      · subst e; exact h
      · exact HR.out.2 j (by omega)
    obtain ⟨c0, c1, c2, c3, c4⟩ := rw_cells p1
    generalize Y m = y at c0 c1 c2 c3 c4 HFm
    generalize P m = pm at HFm HPm HPt
    obtain ⟨nm, en, kd, ms, wa, wn, wc⟩ := y
    simp only [rwV] at c0 c1 c2 c3 c4 HFm
    have hb0 : Hid (Below w.heap.size w (wr.alloc (.cells #[.string nm, .int .i64 en, .int .i64 kd, .int .i64 ms, .slice wa wn wc] 72))) := HR.out.1.alloc HR.out.1.size _
    clear p1 hbl1
    go_wp2_with fail
    refine (HFm.out _ hb0.out).mono ?_
    rintro u w1 ⟨rfl, hb1⟩
    have HB1 : Hid (Below w.heap.size w w1) := hb0.out.trans (hb1.mono hb0.out.size)
    clear hb1 hb0 c0 c1 c2 c3 c4
    cases pm
    · have HT : Hid (q = false) := HPm.out (by trivial)
      go_wp2
      go_ret
      exact ⟨ret_bool HT.out.symm, HB1.out⟩
    · have HT : Hid _ := HPt.out (by trivial)
      go_wp2
      go_roundw
      case rel => exact ⟨m + 1, by omega, by go_num, HB1.out, HT.out⟩
      case measure => simp [intOf]; omega
set_option maxRecDepth 20000 in
set_option maxHeartbeats 1000000 in
theorem win_index (a : Option Addr) (cap n : Nat) (xs : List wiT) (P : Nat → Bool) (fid : Nat) (caps : Array Value) (w : World) (hs : GSeg 3 w a n (wiX xs)) (hn : n ≤ 9223372036854775807) (hen : ∀ args (v : World), (callFunc fid args).run Tryz.prog v = .ok (.enter fid args) v)
    (hf : ∀ i, i < n → ∀ X, Below w.heap.size w X → Calls Tryz.prog fid (#[wiV (xs.getD i wi0)] ++ caps) X fun e w' => e = .returned (.bool (P i)) ∧ Below X.heap.size X w') :
    Calls Tryz.prog 192 #[.slice a n cap, .func (.func fid) #[] caps] w fun e w' => (∃ r : Int, e = .returned (.int .i64 r) ∧ ((r = -1 ∧ ∀ i, i < n → P i = false) ∨ ∃ k : Nat, r = (k : Int) ∧ k < n ∧ P k = true ∧ ∀ i, i < k → P i = false)) ∧ Below w.heap.size w w' := by
  have HS : Hid (GSeg 3 w a n (wiX xs)) := hs
  have HF : Hid (∀ i, i < n → ∀ X, Below w.heap.size w X → Calls Tryz.prog fid (#[wiV (xs.getD i wi0)] ++ caps) X fun e w' => e = .returned (.bool (P i)) ∧ Below X.heap.size X w') := hf
  clear hs hf
  go_enter Tryz.func192, Tryz.ntmps192
  go_wp2
  go_loopw [8] (fun i wr => ∃ m : Nat, m ≤ n ∧ i = .int .i64 m ∧ Hid (Below w.heap.size w wr ∧ ∀ j, j < m → P j = false)) (fun i _ => n - (intOf i).toNat)
  case atStart => exact ⟨0, by omega, rfl, Below.refl _ _, fun i hi => absurd hi (by omega)⟩
  case round =>
    obtain ⟨m, hm, rfl, HR⟩ := hrel
    by_cases hmn : m < n
    rotate_left
    · obtain rfl : m = n := by omega
      go_wp2
      go_ret
      exact ⟨⟨_, rfl, .inl ⟨rfl, HR.out.2⟩⟩, HR.out.1⟩
    have hmn' : (m : Int) < (n : Int) := by omega
    obtain ⟨b1, o1, rfl, hbl1, p1⟩ := HS.out.at m hmn
    replace p1 := p1.of (w' := wr) (fun j => HR.out.1.cell (p := ⟨b1, j, none⟩) hbl1)
    have HFm : Hid _ := HF.out m hmn
    have HPm : Hid (P m = true → (∃ k : Nat, (m : Int) = (k : Int) ∧ k < n ∧ P k = true ∧ ∀ i, i < k → P i = false)) := fun h => ⟨m, rfl, hmn, h, HR.out.2⟩
    have HPt : Hid (P m = false → ∀ j, j < m + 1 → P j = false) := fun h j hj => by
      by_cases e : j = m
      · subst e; exact h
      · exact HR.out.2 j (by omega)
    have HBW : Hid (Below w.heap.size w wr) := HR.out.1
    simp only [wiX] at p1
    generalize xs.getD m wi0 = x at p1 HFm
    obtain ⟨c0, c1, c2⟩ := wi_cells p1
    obtain ⟨x1, x2, x3⟩ := x
    simp only [wiV] at c0 c1 c2 HFm
    generalize P m = pm at HFm HPm HPt
    clear p1 hbl1
    go_wp2_with fail
    refine (HFm.out _ HBW.out).mono ?_
    rintro u w1 ⟨rfl, hb1⟩
    have HB1 : Hid (Below w.heap.size w w1) := HBW.out.trans (hb1.mono HBW.out.size)
    clear hb1 c0 c1 c2
    cases pm
    · have HT : Hid _ := HPt.out (by trivial)
      go_wp2
      go_roundw
      case rel => exact ⟨m + 1, by omega, by go_num, HB1.out, HT.out⟩
      case measure => simp [intOf]; omega
    · have HT : Hid _ := HPm.out (by trivial)
      go_wp2
      go_ret
      exact ⟨⟨_, rfl, .inr HT.out⟩, HB1.out⟩
set_option maxRecDepth 20000 in
theorem win_contains (a : Option Addr) (cap n : Nat) (xs : List wiT) (P : Nat → Bool) (q : Bool) (fid : Nat) (caps : Array Value) (w : World) (hs : GSeg 3 w a n (wiX xs)) (hn : n ≤ 9223372036854775807) (hen : ∀ args (v : World), (callFunc fid args).run Tryz.prog v = .ok (.enter fid args) v)
    (hf : ∀ i, i < n → ∀ X, Below w.heap.size w X → Calls Tryz.prog fid (#[wiV (xs.getD i wi0)] ++ caps) X fun e w' => e = .returned (.bool (P i)) ∧ Below X.heap.size X w') (hq : q = true ↔ ∃ i, i < n ∧ P i = true) :
    Calls Tryz.prog 180 #[.slice a n cap, .func (.func fid) #[] caps] w fun e w' => e = .returned (.bool q) ∧ Below w.heap.size w w' := by
  have HS : Hid (GSeg 3 w a n (wiX xs)) := hs
  have HF : Hid (∀ i, i < n → ∀ X, Below w.heap.size w X → Calls Tryz.prog fid (#[wiV (xs.getD i wi0)] ++ caps) X fun e w' => e = .returned (.bool (P i)) ∧ Below X.heap.size X w') := hf
  have HQ : Hid (q = true ↔ ∃ i, i < n ∧ P i = true) := hq
  clear hs hf hq
  go_enter Tryz.func180, Tryz.ntmps180
  go_wp2_with fail
  refine (win_index a cap n xs P fid caps w HS.out hn hen HF.out).mono ?_
  rintro e w1 ⟨⟨r, rfl, hr⟩, hb⟩
  have HB : Hid (Below w.heap.size w w1) := hb
  have HT : Hid (decide (0 ≤ r) = q) := by
    show _ = _
    rcases hr with ⟨rfl, h⟩ | ⟨k, rfl, hk, hp, _⟩
    · rw [not_true HQ.out (fun ⟨i, hi, hpi⟩ => by rw [h i hi] at hpi; cases hpi)]; rfl
    · rw [HQ.out.2 ⟨k, hk, hp⟩]; exact decide_eq_true (by omega)
  clear hr hb
  generalize hd : decide (0 ≤ r) = d at HT
  go_wp2
  go_ret
  exact ⟨ret_bool HT.out, HB.out⟩
end Go.Proofs.YtlomcdgfcocmmaaGreatDoor
