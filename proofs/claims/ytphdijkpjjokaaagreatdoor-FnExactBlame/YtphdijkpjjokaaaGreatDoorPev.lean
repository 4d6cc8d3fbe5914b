/-
  Lists of partitions in memory, their windows with them: copies, likeness, the measure, whether a test holds of every one or of every two, the first of which one holds; how a list that came in is read. Conditions: lengths are at most 1048576 where a copy is made.
  Lists of partitions: the copies that the laws make, their likeness and their measure. Conditions: lengths are at most 1048576 where a copy is made.
  Whether a test holds of every partition of a list, the first partition or window of which one holds: the program's and the library's own loops, whatever the test. Conditions: what is asked of the test.
-/
import Derived.Test.YtphdijkpjjokaaaGreatDoorBas
import Derived.Test.YtphdijkpjjokaaaGreatDoorWns
import Derived.Test.YtphdijkpjjokaaaGreatDoorPol
import Derived.Deep.RegionHeld3
import Derived.Deep.RegionHeldLaw
import Derived.BigQuiet
import Derived.Lib.SmallJoins
namespace Go.Proofs.YtphdijkpjjokaaaGreatDoor
open Go.ChangeShapes Go.WideShapes Go.ChangeAt Go.RowKit Go.Deep Go.Joins
set_option linter.unusedVariables false

/-- A partition, as numbers and lists. -/
structure Pt where
  nm : ByteArray
  en : Int
  kd : Int
  ms : Int
  ws : List wiT
abbrev pt0 : Pt := ⟨ByteArray.empty, 0, 0, 0, []⟩
/-- A partition's cells. -/
structure Rw where
  nm : ByteArray
  en : Int
  kd : Int
  ms : Int
  wa : Option Addr
  wn : Nat
  wc : Nat
def rwL (y : Rw) : List Value := [.string y.nm, .int .i64 y.en, .int .i64 y.kd, .int .i64 y.ms, .slice y.wa y.wn y.wc]
abbrev rwV (y : Rw) : Value := .agg #[.string y.nm, .int .i64 y.en, .int .i64 y.kd, .int .i64 y.ms, .slice y.wa y.wn y.wc]
/-- The cells are those of the partition, and its windows lie where they say. -/
structure Good (lo : Nat) (w : World) (y : Rw) (p : Pt) : Prop where
  nm : y.nm = p.nm
  en : y.en = p.en
  kd : y.kd = p.kd
  ms : y.ms = p.ms
  ln : p.ws.length = y.wn
  cp : y.wn ≤ y.wc
  sg : GSegL 3 lo w y.wa y.wn (wiX p.ws)
theorem Good.below {lo : Nat} {w w' : World} {y : Rw} {p : Pt} (h : Good lo w y p) (hb : Below w.heap.size w w') : Good lo w' y p := ⟨h.nm, h.en, h.kd, h.ms, h.ln, h.cp, h.sg.below hb⟩
theorem Good.wide {lo lo' : Nat} {w : World} {y : Rw} {p : Pt} (h : Good lo w y p) (hl : lo' ≤ lo) : Good lo' w y p := ⟨h.nm, h.en, h.kd, h.ms, h.ln, h.cp, h.sg.wide hl⟩
theorem Good.setAll {lo B o : Nat} {w : World} {y : Rw} {p : Pt} (vs : List Value) (h : Good lo w y p) (hB : B < lo) : Good lo (setAll w B o vs) y p := ⟨h.nm, h.en, h.kd, h.ms, h.ln, h.cp, h.sg.setAll vs hB⟩
structure PSegL (lo : Nat) (w : World) (a : Option Addr) (n : Nat) (ps : List Pt) (Y : Nat → Rw) : Prop where
  p1 : GSegL 5 lo w a n (fun i => rwL (Y i))
  p2 : ∀ i, i < n → Good lo w (Y i) (ps.getD i pt0)
  p3 : 0 < lo → ∀ b off, a = some ⟨b, off, none⟩ → ∀ i, i < n → Good (b + 1) w (Y i) (ps.getD i pt0)
theorem PSegL.lob {lo : Nat} {w : World} {a : Option Addr} {n : Nat} {ps : List Pt} {Y : Nat → Rw} (h : PSegL lo w a n ps Y) {b off i : Nat} (e : a = some ⟨b, off, none⟩) (hi : i < n) : lo ≤ b := by
  obtain ⟨b', off', e', h1, _⟩ := h.p1 (by omega)
  rw [e] at e'
  cases e'
  exact h1
theorem PSegL.below {lo : Nat} {w w' : World} {a : Option Addr} {n : Nat} {ps : List Pt} {Y : Nat → Rw} (h : PSegL lo w a n ps Y) (hb : Below w.heap.size w w') : PSegL lo w' a n ps Y := ⟨h.1.below hb, fun i hi => (h.2 i hi).below hb, fun g b off e i hi => (h.3 g b off e i hi).below hb⟩
theorem PSegL.wide {lo lo' : Nat} {w : World} {a : Option Addr} {n : Nat} {ps : List Pt} {Y : Nat → Rw} (h : PSegL lo w a n ps Y) (hl : lo' ≤ lo) : PSegL lo' w a n ps Y := ⟨h.1.wide hl, fun i hi => (h.2 i hi).wide hl, fun g => h.3 (Nat.lt_of_lt_of_le g hl)⟩
theorem PSegL.setAll {lo B o : Nat} {w : World} {a : Option Addr} {n : Nat} {ps : List Pt} {Y : Nat → Rw} (vs : List Value) (h : PSegL lo w a n ps Y) (hB : B < lo) : PSegL lo (setAll w B o vs) a n ps Y := ⟨h.1.setAll vs hB, fun i hi => (h.2 i hi).setAll vs hB, fun g b off e i hi => (h.3 g b off e i hi).setAll vs (by have := h.lob e hi; omega)⟩
theorem rw_cells {w : World} {b o : Nat} {y : Rw} (h : CellsAt w b o (rwL y)) : w.cell? ⟨b, o, none⟩ = some (.string y.nm) ∧ w.cell? ⟨b, o + 1, none⟩ = some (.int .i64 y.en) ∧ w.cell? ⟨b, o + 2, none⟩ = some (.int .i64 y.kd) ∧ w.cell? ⟨b, o + 3, none⟩ = some (.int .i64 y.ms) ∧ w.cell? ⟨b, o + 4, none⟩ = some (.slice y.wa y.wn y.wc) :=
  ⟨h 0 _ rfl, h 1 _ rfl, h 2 _ rfl, h 3 _ rfl, h 4 _ rfl⟩
theorem pol_eq (k m : Int) (w : World) : Calls Tryz.prog 85 #[pol k m, pol k m] w fun e w' => e = .returned (.bool true) ∧ Below w.heap.size w w' := by
  go_enter Tryz.func85, Tryz.ntmps85
  go_wp2
  go_ret
  exact ⟨rfl, ((Below.refl _ _).alloc (Nat.le_refl _) _).alloc (by simp) _⟩
set_option maxRecDepth 20000 in
set_option maxHeartbeats 4000000 in
theorem to_part (y : Rw) (p : Pt) (w : World) (hg : Good 0 w y p) (hn : y.wn ≤ 1048576) :
    Calls Tryz.prog 58 #[rwV y] w fun e w' => ∃ y', e = .returned (rwV y') ∧ Below w.heap.size w w' ∧ Good w.heap.size w' y' p := by
  obtain ⟨nm, en, kd, ms, wa, wn, wc⟩ := y
  simp only [rwV]
  have HG : Hid (Good 0 w ⟨nm, en, kd, ms, wa, wn, wc⟩ p) := hg
  have hn' : wn ≤ 1048576 := hn
  clear hg hn
  have HB0 : Hid (Below w.heap.size w (((w.alloc (.cells #[.string nm, .int .i64 en, .int .i64 kd, .int .i64 ms, .slice wa wn wc] 96)).alloc (.cells #[.string ByteArray.empty, .int .i64 0, .int .i64 0, .int .i64 0, .slice none 0 0] 102)).alloc (.cells #[.string nm, .int .i64 en, .int .i64 0, .int .i64 0, .slice none 0 0] 102))) := (((Below.refl _ _).alloc (Nat.le_refl _) _).alloc (by simp) _).alloc (by simp; omega) _
  have KB0 : Hid (Bk (((w.alloc (.cells #[.string nm, .int .i64 en, .int .i64 kd, .int .i64 ms, .slice wa wn wc] 96)).alloc (.cells #[.string ByteArray.empty, .int .i64 0, .int .i64 0, .int .i64 0, .slice none 0 0] 102)).alloc (.cells #[.string nm, .int .i64 en, .int .i64 0, .int .i64 0, .slice none 0 0] 102)) w.heap.size #[.string nm, .int .i64 en, .int .i64 kd, .int .i64 ms, .slice wa wn wc]) := ((Bk.new w _ _ _ rfl).alloc _).alloc _
  have KR0 : Hid (Bk (((w.alloc (.cells #[.string nm, .int .i64 en, .int .i64 kd, .int .i64 ms, .slice wa wn wc] 96)).alloc (.cells #[.string ByteArray.empty, .int .i64 0, .int .i64 0, .int .i64 0, .slice none 0 0] 102)).alloc (.cells #[.string nm, .int .i64 en, .int .i64 0, .int .i64 0, .slice none 0 0] 102)) (w.heap.size + 1) #[.string ByteArray.empty, .int .i64 0, .int .i64 0, .int .i64 0, .slice none 0 0]) := (Bk.new _ _ _ _ (by simp)).alloc _
  have KO0 : Hid (Bk (((w.alloc (.cells #[.string nm, .int .i64 en, .int .i64 kd, .int .i64 ms, .slice wa wn wc] 96)).alloc (.cells #[.string ByteArray.empty, .int .i64 0, .int .i64 0, .int .i64 0, .slice none 0 0] 102)).alloc (.cells #[.string nm, .int .i64 en, .int .i64 0, .int .i64 0, .slice none 0 0] 102)) (w.heap.size + 2) #[.string nm, .int .i64 en, .int .i64 0, .int .i64 0, .slice none 0 0]) := Bk.new _ _ _ _ (by simp)
  have HZ0 : Hid (w.heap.size + 3 ≤ ((((w.alloc (.cells #[.string nm, .int .i64 en, .int .i64 kd, .int .i64 ms, .slice wa wn wc] 96)).alloc (.cells #[.string ByteArray.empty, .int .i64 0, .int .i64 0, .int .i64 0, .slice none 0 0] 102)).alloc (.cells #[.string nm, .int .i64 en, .int .i64 0, .int .i64 0, .slice none 0 0] 102))).heap.size) := by show _ ≤ _; simp
  go_enter Tryz.func58, Tryz.ntmps58
  go_wp2_with fail
  refine (to_policy kd ms _).mono ?_
  rintro e1 w1 ⟨rfl, hb1⟩
  have HB1 : Hid (Below w.heap.size w w1) := HB0.out.trans (hb1.mono HB0.out.size)
  have KB1 : Hid (Bk w1 w.heap.size #[.string nm, .int .i64 en, .int .i64 kd, .int .i64 ms, .slice wa wn wc]) := KB0.out.below hb1
  have KR1 : Hid (Bk w1 (w.heap.size + 1) #[.string ByteArray.empty, .int .i64 0, .int .i64 0, .int .i64 0, .slice none 0 0]) := KR0.out.below hb1
  have KO1 : Hid (Bk w1 (w.heap.size + 2) #[.string nm, .int .i64 en, .int .i64 0, .int .i64 0, .slice none 0 0]) := KO0.out.below hb1
  have hz1 : w.heap.size + 3 ≤ w1.heap.size := Nat.le_trans HZ0.out hb1.size
  clear hb1 HB0 KB0 KR0 KO0 HZ0
  have HB2 : Hid (Below w.heap.size w ((w1.setCell ⟨w.heap.size + 2, 2, none⟩ (.int .i64 kd)).setCell ⟨w.heap.size + 2, 3, none⟩ (.int .i64 ms))) := (HB1.out.setCell (p := ⟨w.heap.size + 2, 2, none⟩) (by simp) _).setCell (p := ⟨w.heap.size + 2, 3, none⟩) (by simp) _
  have KB2 : Hid (Bk ((w1.setCell ⟨w.heap.size + 2, 2, none⟩ (.int .i64 kd)).setCell ⟨w.heap.size + 2, 3, none⟩ (.int .i64 ms)) w.heap.size #[.string nm, .int .i64 en, .int .i64 kd, .int .i64 ms, .slice wa wn wc]) := (KB1.out.other _ _ _ (by omega)).other _ _ _ (by omega)
  have KR2 : Hid (Bk ((w1.setCell ⟨w.heap.size + 2, 2, none⟩ (.int .i64 kd)).setCell ⟨w.heap.size + 2, 3, none⟩ (.int .i64 ms)) (w.heap.size + 1) #[.string ByteArray.empty, .int .i64 0, .int .i64 0, .int .i64 0, .slice none 0 0]) := (KR1.out.other _ _ _ (by omega)).other _ _ _ (by omega)
  have KO2 : Hid (Bk ((w1.setCell ⟨w.heap.size + 2, 2, none⟩ (.int .i64 kd)).setCell ⟨w.heap.size + 2, 3, none⟩ (.int .i64 ms)) (w.heap.size + 2) #[.string nm, .int .i64 en, .int .i64 kd, .int .i64 ms, .slice none 0 0]) := (KO1.out.set 2 (.int .i64 kd) (by simp) (cs' := #[.string nm, .int .i64 en, .int .i64 kd, .int .i64 0, .slice none 0 0]) rfl).set 3 _ (by simp) rfl
  have c2 : w1.cell? ⟨w.heap.size + 2, 2, none⟩ = some (.int .i64 0) := KO1.out.cell 2 _ rfl
  have c3 : (w1.setCell ⟨w.heap.size + 2, 2, none⟩ (.int .i64 kd)).cell? ⟨w.heap.size + 2, 3, none⟩ = some (.int .i64 0) := (KO1.out.set 2 (.int .i64 kd) (by simp) (cs' := #[.string nm, .int .i64 en, .int .i64 kd, .int .i64 0, .slice none 0 0]) rfl).cell 3 _ rfl
  have cf := KO1.out.free
  have c4 : w1.cell? ⟨w.heap.size, 4, none⟩ = some (.slice wa wn wc) := KB1.out.cell 4 _ rfl
  have hz2 : w.heap.size + 3 ≤ ((w1.setCell ⟨w.heap.size + 2, 2, none⟩ (.int .i64 kd)).setCell ⟨w.heap.size + 2, 3, none⟩ (.int .i64 ms)).heap.size := by simpa using hz1
  have HT : Hid _ := wi_tos wa wc wn p.ws ((w1.setCell ⟨w.heap.size + 2, 2, none⟩ (.int .i64 kd)).setCell ⟨w.heap.size + 2, 3, none⟩ (.int .i64 ms)) (HG.out.sg.below HB2.out).seg hn'
  clear KB1 KR1 KO1
  go_wp2_with fail
  refine Calls.mono HT.out ?_
  clear HT c2 c3 cf c4
  revert HB2 KB2 KR2 KO2 hz2
  generalize ((w1.setCell ⟨w.heap.size + 2, 2, none⟩ (.int .i64 kd)).setCell ⟨w.heap.size + 2, 3, none⟩ (.int .i64 ms)) = V2
  intro HB2 KB2 KR2 KO2 hz2
  rintro e2 w2 ⟨rfl, hb2, hgb⟩
  have HB3 : Hid (Below w.heap.size w w2) := HB2.out.trans (hb2.mono HB2.out.size)
  have KR3 : Hid (Bk w2 (w.heap.size + 1) #[.string ByteArray.empty, .int .i64 0, .int .i64 0, .int .i64 0, .slice none 0 0]) := KR2.out.below hb2
  have KO3 : Hid (Bk w2 (w.heap.size + 2) #[.string nm, .int .i64 en, .int .i64 kd, .int .i64 ms, .slice none 0 0]) := KO2.out.below hb2
  have HGB : Hid (GSegL 3 (w.heap.size + 3) w2 (some ⟨V2.heap.size, 0, none⟩) wn (wiX p.ws)) := hgb.segL _ hz2
  clear hb2 hgb HB2 KB2 KR2 KO2 hz2 HB1 hz1
  generalize V2.heap.size = N2 at HGB ⊢
  have HB4 : Hid (Below w.heap.size w (setAll (setAll w2 (w.heap.size + 2) 4 [.slice (some ⟨N2, 0, none⟩) wn wn]) (w.heap.size + 1) 0 [.string nm, .int .i64 en, .int .i64 kd, .int .i64 ms, .slice (some ⟨N2, 0, none⟩) wn wn])) := setAll_below (by omega) _ _ (setAll_below (by omega) _ _ HB3.out)
  have HG4 : Hid (GSegL 3 (w.heap.size + 3) (setAll (setAll w2 (w.heap.size + 2) 4 [.slice (some ⟨N2, 0, none⟩) wn wn]) (w.heap.size + 1) 0 [.string nm, .int .i64 en, .int .i64 kd, .int .i64 ms, .slice (some ⟨N2, 0, none⟩) wn wn]) (some ⟨N2, 0, none⟩) wn (wiX p.ws)) := (HGB.out.setAll _ (by omega)).setAll _ (by omega)
  have KO4 : Bk (w2.setCell ⟨w.heap.size + 2, 4, none⟩ (.slice (some ⟨N2, 0, none⟩) wn wn)) (w.heap.size + 2) #[.string nm, .int .i64 en, .int .i64 kd, .int .i64 ms, .slice (some ⟨N2, 0, none⟩) wn wn] := KO3.out.set 4 _ (by simp) rfl
  have KR4 : Bk (w2.setCell ⟨w.heap.size + 2, 4, none⟩ (.slice (some ⟨N2, 0, none⟩) wn wn)) (w.heap.size + 1) #[.string ByteArray.empty, .int .i64 0, .int .i64 0, .int .i64 0, .slice none 0 0] := KR3.out.other _ _ _ (by omega)
  have HK : Hid (CellsAt (setAll (setAll w2 (w.heap.size + 2) 4 [.slice (some ⟨N2, 0, none⟩) wn wn]) (w.heap.size + 1) 0 [.string nm, .int .i64 en, .int .i64 kd, .int .i64 ms, .slice (some ⟨N2, 0, none⟩) wn wn]) (w.heap.size + 1) 0 [.string nm, .int .i64 en, .int .i64 kd, .int .i64 ms, .slice (some ⟨N2, 0, none⟩) wn wn]) := setAll_cells _ _ _ _ (fun j hj => by
    rw [Nat.zero_add]
    have hj' : j < 5 := hj
    match j, hj' with
    | 0, _ => exact ⟨_, KR4.cell 0 _ rfl⟩
    | 1, _ => exact ⟨_, KR4.cell 1 _ rfl⟩
    | 2, _ => exact ⟨_, KR4.cell 2 _ rfl⟩
    | 3, _ => exact ⟨_, KR4.cell 3 _ rfl⟩
    | 4, _ => exact ⟨_, KR4.cell 4 _ rfl⟩)
  have r4 : w2.cell? ⟨w.heap.size + 2, 4, none⟩ = some (.slice none 0 0) := KO3.out.cell 4 _ rfl
  have rf := KO3.out.free
  have t0 := KO4.cell 0 _ rfl
  have t1 := KO4.cell 1 _ rfl
  have t2 := KO4.cell 2 _ rfl
  have t3 := KO4.cell 3 _ rfl
  have t4 := KO4.cell 4 _ rfl
  have z0 := KR4.cell 0 _ rfl
  have z1 := KR4.cell 1 _ rfl
  have z2 := KR4.cell 2 _ rfl
  have z3 := KR4.cell 3 _ rfl
  have z4 := KR4.cell 4 _ rfl
  have zf := KR4.free
  clear KO4 KR4 KO3 KR3 HB3 HGB
  go_wp2
  clear t0 t1 t2 t3 t4 z0 z1 z2 z3 z4 zf r4 rf
  have k9 := HK.out
  have hb9 := HB4.out
  have hg9 := HG4.out
  clear HK HB4 HG4
  simp only [setAll] at k9 hb9 hg9
  revert k9 hb9 hg9
  generalize (((((w2.setCell ⟨w.heap.size + 2, 4, none⟩ (.slice (some ⟨N2, 0, none⟩) wn wn)).setCell ⟨w.heap.size + 1, 0, none⟩ (.string nm)).setCell ⟨w.heap.size + 1, 1, none⟩ (.int .i64 en)).setCell ⟨w.heap.size + 1, 2, none⟩ (.int .i64 kd)).setCell ⟨w.heap.size + 1, 3, none⟩ (.int .i64 ms)).setCell ⟨w.heap.size + 1, 4, none⟩ (.slice (some ⟨N2, 0, none⟩) wn wn) = Wf
  intro k9 hb9 hg9
  have q0 : Wf.cell? ⟨w.heap.size + 1, 0, none⟩ = some (.string nm) := k9 0 _ rfl
  have q1 : Wf.cell? ⟨w.heap.size + 1, 1, none⟩ = some (.int .i64 en) := k9 1 _ rfl
  have q2 : Wf.cell? ⟨w.heap.size + 1, 2, none⟩ = some (.int .i64 kd) := k9 2 _ rfl
  have q3 : Wf.cell? ⟨w.heap.size + 1, 3, none⟩ = some (.int .i64 ms) := k9 3 _ rfl
  have q4 : Wf.cell? ⟨w.heap.size + 1, 4, none⟩ = some (.slice (some ⟨N2, 0, none⟩) wn wn) := k9 4 _ rfl
  exact bodyPost_ret (v := rwV ⟨nm, en, kd, ms, some ⟨N2, 0, none⟩, wn, wn⟩) (by simp [results, Tryz.results58, go_sem, q0, q1, q2, q3, q4]) rfl
    ⟨⟨nm, en, kd, ms, some ⟨N2, 0, none⟩, wn, wn⟩, rfl, hb9, HG.out.nm, HG.out.en, HG.out.kd, HG.out.ms, HG.out.ln, Nat.le_refl _, hg9.wide (by omega)⟩
end Go.Proofs.YtphdijkpjjokaaaGreatDoor
namespace Go.Proofs.YtphdijkpjjokaaaGreatDoor
open Go.ChangeShapes Go.WideShapes Go.ChangeAt Go.RowKit Go.Deep Go.Joins
set_option linter.unusedVariables false

theorem rw_info : (Tryz.prog.info? 102).map (fun i => (i.zero, i.size, i.bytes)) = some (some (.agg #[.string ByteArray.empty, .int .i64 0, .int .i64 0, .int .i64 0, .slice none 0 0]), 5, 64) := by kernel_rfl
theorem rw_make (n : Nat) (hn : n ≤ 1048576) (w : World) : (Instr.makeSlice 37 (.int .i64 (n : Int)) (.int .i64 (n : Int))).run Tryz.prog w = .ok (.slice (some ⟨w.heap.size, 0, none⟩) n n) (w.alloc (.cells (madeCells #[.string ByteArray.empty, .int .i64 0, .int .i64 0, .int .i64 0, .slice none 0 0] (n * 5)) 102)) := by
  obtain ⟨i, hi, hzz⟩ := Option.map_eq_some_iff.1 rw_info
  simp only [Prod.mk.injEq] at hzz
  obtain ⟨hz, hs, hb⟩ := hzz
  have := run_make (P := Tryz.prog) w 37 102 i _ Tryz.underlying37 hi hz .i64 .i64 n n (by omega) (Int.le_refl _) (by rw [hb]; omega) (by omega)
  rw [hs, Int.toNat_natCast] at this
  exact this
/-- The cells of the first m partitions, and of one more. -/
def more (Y : Nat → Rw) (m : Nat) (y : Rw) : Nat → Rw := fun i => if i = m then y else Y i
theorem more_at (Y : Nat → Rw) (m : Nat) (y : Rw) : more Y m y m = y := by simp [more]
theorem more_lt (Y : Nat → Rw) (m : Nat) (y : Rw) (i : Nat) (h : i < m) : more Y m y i = Y i := by unfold more; rw [if_neg (by omega)]
set_option maxRecDepth 20000 in
set_option maxHeartbeats 4000000 in
theorem to_parts (a : Option Addr) (cap n : Nat) (ps : List Pt) (Y : Nat → Rw) (w : World) (hs : PSegL 0 w a n ps Y) (hn : n ≤ 1048576) (hw : ∀ i, i < n → (Y i).wn ≤ 1048576) :
    Calls Tryz.prog 31 #[.slice a n cap] w fun e w' => e = .returned (.slice (some ⟨w.heap.size, 0, none⟩) n n) ∧ Below w.heap.size w w' ∧ ∃ Y', PSegL w.heap.size w' (some ⟨w.heap.size, 0, none⟩) n ps Y' := by
  have hmk := rw_make n hn
  have HS : Hid (PSegL 0 w a n ps Y) := hs
  have HW : Hid (∀ i, i < n → (Y i).wn ≤ 1048576) := hw
  clear hs hw
  go_enter Tryz.func31, Tryz.ntmps31
  go_wp2
  go_loopw [4] (fun i wr => ∃ k : Nat, k ≤ n ∧ i = .int .i64 k ∧ Hid (Below w.heap.size w wr ∧ ∃ Z : Nat → Rw, GBlk 5 wr w.heap.size n k (fun i => rwL (Z i)) ∧ ∀ i, i < k → Good (w.heap.size + 1) wr (Z i) (ps.getD i pt0))) (fun i _ => n - (intOf i).toNat)
  case atStart => exact ⟨0, by omega, rfl, (Below.refl _ _).alloc (Nat.le_refl _) _, Y, GBlk.made 5 w n 102 _ _ rfl, fun i hi => absurd hi (by omega)⟩
  case round =>
    obtain ⟨k, hk, rfl, HB⟩ := hrel
    by_cases hlt : k < n
    · have hlt' : (k : Int) < (n : Int) := by omega
      obtain ⟨b1, o1, rfl, hbl1, p1⟩ := HS.out.1.seg.at k hlt
      obtain ⟨hb, Z, hZ, hgd⟩ := HB.out
      replace p1 := p1.of (w' := wr) (fun i => hb.cell (p := ⟨b1, i, none⟩) hbl1)
      have HTP : Hid (∀ X, Below w.heap.size w X → Calls Tryz.prog 58 #[rwV (Y k)] X fun e w' => ∃ y', e = .returned (rwV y') ∧ Below X.heap.size X w' ∧ Good X.heap.size w' y' (ps.getD k pt0)) := fun X hX => to_part (Y k) (ps.getD k pt0) X ((HS.out.2 k hlt).below hX) (HW.out k hlt)
      obtain ⟨c0, c1, c2, c3, c4⟩ := rw_cells p1
      generalize Y k = y at c0 c1 c2 c3 c4 HTP
      obtain ⟨nm, en, kd, ms, wa, wn, wc⟩ := y
      simp only [rwV] at c0 c1 c2 c3 c4 HTP
      have HZ : Hid (GBlk 5 wr w.heap.size n k (fun i => rwL (Z i)) ∧ ∀ i, i < k → Good (w.heap.size + 1) wr (Z i) (ps.getD i pt0)) := ⟨hZ, hgd⟩
      have HBB : Hid (Below w.heap.size w wr) := hb
      clear hbl1 p1 hZ hgd hb HB
      go_wp2_with fail
      refine (HTP.out _ HBB.out).mono ?_
      rintro u w2 ⟨y', rfl, hbb, hgy⟩
      obtain ⟨nm, en, kd, ms, wa, wn, wc⟩ := y'
      have hp2 := HZ.out.1.below hbb
      have hb2 := HBB.out.trans (hbb.mono HBB.out.size)
      obtain ⟨u1, hu1⟩ := hp2.room k hlt 0 (by omega)
      obtain ⟨u2, hu2⟩ := hp2.room k hlt 1 (by omega)
      obtain ⟨u3, hu3⟩ := hp2.room k hlt 2 (by omega)
      obtain ⟨u4, hu4⟩ := hp2.room k hlt 3 (by omega)
      obtain ⟨u5, hu5⟩ := hp2.room k hlt 4 (by omega)
      have hf := hp2.free
      have hsz : w.heap.size + 1 ≤ wr.heap.size := HZ.out.1.lt
      have HB3 : Hid (Below w.heap.size w (setAll w2 w.heap.size (k * 5) [.string nm, .int .i64 en, .int .i64 kd, .int .i64 ms, .slice wa wn wc]) ∧ ∃ Z' : Nat → Rw, GBlk 5 (setAll w2 w.heap.size (k * 5) [.string nm, .int .i64 en, .int .i64 kd, .int .i64 ms, .slice wa wn wc]) w.heap.size n (k + 1) (fun i => rwL (Z' i)) ∧ ∀ i, i < k + 1 → Good (w.heap.size + 1) (setAll w2 w.heap.size (k * 5) [.string nm, .int .i64 en, .int .i64 kd, .int .i64 ms, .slice wa wn wc]) (Z' i) (ps.getD i pt0)) := by
        refine ⟨setAll_below (Nat.le_refl _) _ _ hb2, more Z k ⟨nm, en, kd, ms, wa, wn, wc⟩, ?_, fun i hi => ?_⟩
        · exact (hp2.congr (Y := fun i => rwL (more Z k ⟨nm, en, kd, ms, wa, wn, wc⟩ i)) (fun i hi => by simp only [more_lt Z k _ i hi])).put hlt [.string nm, .int .i64 en, .int .i64 kd, .int .i64 ms, .slice wa wn wc] rfl (by simp only [more_at]; rfl) (fun _ _ => rfl)
        · by_cases e : i = k
          · subst e
            rw [more_at]
            exact (hgy.wide hsz).setAll _ (by omega)
          · rw [more_lt _ _ _ _ (by omega)]
            exact ((HZ.out.2 i (by omega)).below hbb).setAll _ (by omega)
      rw [Nat.add_zero] at hu1
      have hv2 : (w2.setCell ⟨w.heap.size, k * 5, none⟩ (.string nm)).cell? ⟨w.heap.size, k * 5 + 1, none⟩ = some u2 := by rw [World.cell?_setCell_other _ _ _ _ (by simp)]; exact hu2
      have hv3 : ((w2.setCell ⟨w.heap.size, k * 5, none⟩ (.string nm)).setCell ⟨w.heap.size, k * 5 + 1, none⟩ (.int .i64 en)).cell? ⟨w.heap.size, k * 5 + 2, none⟩ = some u3 := by rw [World.cell?_setCell_other _ _ _ _ (by simp), World.cell?_setCell_other _ _ _ _ (by simp)]; exact hu3
      have hv4 : (((w2.setCell ⟨w.heap.size, k * 5, none⟩ (.string nm)).setCell ⟨w.heap.size, k * 5 + 1, none⟩ (.int .i64 en)).setCell ⟨w.heap.size, k * 5 + 2, none⟩ (.int .i64 kd)).cell? ⟨w.heap.size, k * 5 + 3, none⟩ = some u4 := by rw [World.cell?_setCell_other _ _ _ _ (by simp), World.cell?_setCell_other _ _ _ _ (by simp), World.cell?_setCell_other _ _ _ _ (by simp)]; exact hu4
      have hv5 : ((((w2.setCell ⟨w.heap.size, k * 5, none⟩ (.string nm)).setCell ⟨w.heap.size, k * 5 + 1, none⟩ (.int .i64 en)).setCell ⟨w.heap.size, k * 5 + 2, none⟩ (.int .i64 kd)).setCell ⟨w.heap.size, k * 5 + 3, none⟩ (.int .i64 ms)).cell? ⟨w.heap.size, k * 5 + 4, none⟩ = some u5 := by rw [World.cell?_setCell_other _ _ _ _ (by simp), World.cell?_setCell_other _ _ _ _ (by simp), World.cell?_setCell_other _ _ _ _ (by simp), World.cell?_setCell_other _ _ _ _ (by simp)]; exact hu5
      clear hbb hp2 hb2 HZ HBB HTP c0 c1 c2 c3 c4 hgy
      go_wp2
      go_roundw
      case rel => exact ⟨k + 1, by omega, by go_num, HB3⟩
      case measure => simp [intOf]; omega
    · obtain rfl : k = n := by omega
      go_wp2
      go_ret
      obtain ⟨hb, Z, hZ, hgd⟩ := HB.out
      exact ⟨rfl, hb, Z, hZ.segL _ (Nat.le_refl _), fun i hi => Good.wide (lo' := w.heap.size) (hgd i hi) (by omega), fun _ b off e i hi => by cases e; exact hgd i hi⟩
set_option maxRecDepth 20000 in
set_option maxHeartbeats 4000000 in
theorem eq_part (y z : Rw) (p : Pt) (w : World) (hy : Good 0 w y p) (hz : Good 0 w z p) (hn : y.wn ≤ 1048576) :
    Calls Tryz.prog 65 #[rwV y, rwV z] w fun e w' => e = .returned (.bool true) ∧ Below w.heap.size w w' := by
  obtain ⟨nm, en, kd, ms, wa, wn, wc⟩ := y
  obtain ⟨nm', en', kd', ms', va, vn, vc⟩ := z
  have e1 : nm' = nm := hz.nm.trans hy.nm.symm
  have e2 : en' = en := hz.en.trans hy.en.symm
  have e3 : kd' = kd := hz.kd.trans hy.kd.symm
  have e4 : ms' = ms := hz.ms.trans hy.ms.symm
  have e5 : vn = wn := by have h1 : p.ws.length = vn := hz.ln; have h2 : p.ws.length = wn := hy.ln; omega
  subst e1 e2 e3 e4 e5
  simp only [rwV]
  have HT : Hid (∀ X, Below w.heap.size w X → Calls Tryz.prog 86 #[.slice wa vn wc, .slice va vn vc] X fun e w' => e = .returned (.bool true) ∧ Below X.heap.size X w') := fun X hX => wi_eqs wa va wc vc vn p.ws X (hy.sg.below hX).seg (hz.sg.below hX).seg hn
  clear hy hz hn
  have HB0 : Hid (Below w.heap.size w ((w.alloc (.cells #[.string nm', .int .i64 en', .int .i64 kd', .int .i64 ms', .slice wa vn wc] 102)).alloc (.cells #[.string nm', .int .i64 en', .int .i64 kd', .int .i64 ms', .slice va vn vc] 102))) := ((Below.refl _ _).alloc (Nat.le_refl _) _).alloc (by simp) _
  have KA0 : Hid (Bk ((w.alloc (.cells #[.string nm', .int .i64 en', .int .i64 kd', .int .i64 ms', .slice wa vn wc] 102)).alloc (.cells #[.string nm', .int .i64 en', .int .i64 kd', .int .i64 ms', .slice va vn vc] 102)) w.heap.size #[.string nm', .int .i64 en', .int .i64 kd', .int .i64 ms', .slice wa vn wc]) := (Bk.new w _ _ _ rfl).alloc _
  have KC0 : Hid (Bk ((w.alloc (.cells #[.string nm', .int .i64 en', .int .i64 kd', .int .i64 ms', .slice wa vn wc] 102)).alloc (.cells #[.string nm', .int .i64 en', .int .i64 kd', .int .i64 ms', .slice va vn vc] 102)) (w.heap.size + 1) #[.string nm', .int .i64 en', .int .i64 kd', .int .i64 ms', .slice va vn vc]) := Bk.new _ _ _ _ (by simp)
  go_enter Tryz.func65, Tryz.ntmps65
  go_wp2_with fail
  refine (pol_eq kd' ms' _).mono ?_
  rintro e1 w1 ⟨rfl, hb1⟩
  have HB1 : Hid (Below w.heap.size w w1) := HB0.out.trans (hb1.mono HB0.out.size)
  have a4 : w1.cell? ⟨w.heap.size, 4, none⟩ = some (.slice wa vn wc) := (KA0.out.below hb1).cell 4 _ rfl
  have b4 : w1.cell? ⟨w.heap.size + 1, 4, none⟩ = some (.slice va vn vc) := (KC0.out.below hb1).cell 4 _ rfl
  clear hb1 HB0 KA0 KC0
  go_wp2_with fail
  refine (HT.out _ HB1.out).mono ?_
  rintro e2 w2 ⟨rfl, hb2⟩
  have HB2 : Hid (Below w.heap.size w w2) := HB1.out.trans (hb2.mono HB1.out.size)
  clear hb2 a4 b4
  go_wp2
  go_ret
  exact ⟨rfl, HB2.out⟩
set_option maxRecDepth 20000 in
set_option maxHeartbeats 4000000 in
theorem eq_parts (a b : Option Addr) (ca cb n : Nat) (ps : List Pt) (Y Z : Nat → Rw) (w : World) (ha : PSegL 0 w a n ps Y) (hb : PSegL 0 w b n ps Z) (hn : n ≤ 1048576) (hw : ∀ i, i < n → (Y i).wn ≤ 1048576) :
    Calls Tryz.prog 41 #[.slice a n ca, .slice b n cb] w fun e w' => e = .returned (.bool true) ∧ Below w.heap.size w w' := by
  have HA : Hid (PSegL 0 w a n ps Y ∧ PSegL 0 w b n ps Z) := And.intro ha hb
  have HW : Hid (∀ i, i < n → (Y i).wn ≤ 1048576) := hw
  clear ha hb hw
  go_enter Tryz.func41, Tryz.ntmps41
  go_wp2
  go_loopw [5] (fun i wr => ∃ k : Nat, k ≤ n ∧ i = .int .i64 k ∧ Hid (Below w.heap.size w wr)) (fun i _ => n - (intOf i).toNat)
  case atStart => exact ⟨0, by omega, rfl, Below.refl _ _⟩
  case round =>
    obtain ⟨k, hk, rfl, HB⟩ := hrel
    by_cases hlt : k < n
    · have hlt' : (k : Int) < (n : Int) := by omega
      obtain ⟨b1, o1, rfl, hbl1, p1⟩ := HA.out.1.1.seg.at k hlt
      obtain ⟨b2, o2, rfl, hbl2, p2⟩ := HA.out.2.1.seg.at k hlt
      have hb := HB.out
      replace p1 := p1.of (w' := wr) (fun i => hb.cell (p := ⟨b1, i, none⟩) hbl1)
      replace p2 := p2.of (w' := wr) (fun i => hb.cell (p := ⟨b2, i, none⟩) hbl2)
      have HE : Hid (∀ X, Below w.heap.size w X → Calls Tryz.prog 65 #[rwV (Y k), rwV (Z k)] X fun e w' => e = .returned (.bool true) ∧ Below X.heap.size X w') := fun X hX => eq_part (Y k) (Z k) (ps.getD k pt0) X ((HA.out.1.2 k hlt).below hX) ((HA.out.2.2 k hlt).below hX) (HW.out k hlt)
      obtain ⟨c0, c1, c2, c3, c4⟩ := rw_cells p1
      obtain ⟨d0, d1, d2, d3, d4⟩ := rw_cells p2
      generalize Y k = y at c0 c1 c2 c3 c4 HE
      generalize Z k = z at d0 d1 d2 d3 d4 HE
      obtain ⟨nm, en, kd, ms, wa, wn, wc⟩ := y
      obtain ⟨nm', en', kd', ms', va, vn, vc⟩ := z
      simp only [rwV] at c0 c1 c2 c3 c4 d0 d1 d2 d3 d4 HE
      replace hb : Hid (Below w.heap.size w wr) := hb
      have HE2 : Hid (∀ x : Gr wr, Calls Tryz.prog 65 #[.agg #[.string nm, .int .i64 en, .int .i64 kd, .int .i64 ms, .slice wa wn wc], .agg #[.string nm', .int .i64 en', .int .i64 kd', .int .i64 ms', .slice va vn vc]] x.w fun e w' => e = .returned (.bool true) ∧ Below x.w.heap.size x.w w') := fun x => HE.out _ (hb.out.trans (x.h.mono hb.out.size))
      clear hbl1 hbl2 HB p1 p2 HE
      replace c0 := fun X => gr_cell c0 X
      replace c1 := fun X => gr_cell c1 X
      replace c2 := fun X => gr_cell c2 X
      replace c3 := fun X => gr_cell c3 X
      replace c4 := fun X => gr_cell c4 X
      replace d0 := fun X => gr_cell d0 X
      replace d1 := fun X => gr_cell d1 X
      replace d2 := fun X => gr_cell d2 X
      replace d3 := fun X => gr_cell d3 X
      replace d4 := fun X => gr_cell d4 X
      go_wp2
      have hgr := gr_some wr
      refine region_alike (by kernel_rfl) (by kernel_rfl) ?_
      repeat (go_big_quiet_step (first | (go_at_call 65; exact gr_call (HE2.out _))))
      refine wpQuiet_nil ?_
      intro _ hw'
      obtain ⟨X1, rfl⟩ := hw'
      have hb2 := X1.h
      generalize X1.w = W1 at hb2 ⊢
      have HB2 : Hid (Below w.heap.size w W1) := hb.out.trans (hb2.mono hb.out.size)
      clear hb2 c0 c1 c2 c3 c4 d0 d1 d2 d3 d4
      go_wp2
      go_roundw
      case rel => exact ⟨k + 1, by omega, by go_num, HB2⟩
      case measure => simp [intOf]; omega
    · go_wp2
      go_ret
      exact ⟨rfl, HB.out⟩
set_option maxRecDepth 20000 in
theorem sz_part (y : Rw) (L : Nat) (w : World) (hn : y.wn ≤ 9223372036854775807) (hm : y.nm.size ≤ 9223372036854775807) (hL : L ≤ 1048576) :
    Calls Tryz.prog 56 #[rwV y, .int .i64 (L : Int)] w fun e w' => (∃ r : Int, e = .returned (.int .i64 r) ∧ (r = -1 ∨ ∃ d : Nat, r = (d : Int) ∧ d ≤ L ∧ y.wn ≤ L ∧ y.nm.size ≤ L)) ∧ Below w.heap.size w w' := by
  obtain ⟨nm, en, kd, ms, wa, wn, wc⟩ := y
  simp only [rwV] at hn hm ⊢
  have HB : Hid (Below w.heap.size w (w.alloc (.cells #[.string nm, .int .i64 en, .int .i64 kd, .int .i64 ms, .slice wa wn wc] 96))) := (Below.refl _ _).alloc (Nat.le_refl _) _
  obtain ⟨sz, HSZ⟩ : ∃ s : Nat, Hid (nm.size = s) := ⟨_, rfl⟩
  have hsz : nm.size = sz := HSZ.out
  rw [hsz] at hm ⊢
  by_cases h : sz ≤ L
  · obtain ⟨d, rfl⟩ : ∃ d, L = sz + d := ⟨L - sz, by omega⟩
    have hw : IntKind.i64.wrap (((sz + d : Nat) : Int) - (sz : Int)) = (d : Int) := by rw [show ((sz + d : Nat) : Int) - (sz : Int) = (d : Int) by omega, IntKind.wrap_i64]; omega
    have h0 : ¬ ((d : Int) < 0) := by omega
    go_enter Tryz.func56, Tryz.ntmps56
    go_wp2_with fail
    rw [show ((sz : Int) + (d : Int) - (sz : Int)) = (d : Int) by omega]
    refine (wi_sz wa wc wn d _ hn (by omega)).mono ?_
    rintro e1 w1 ⟨⟨r, rfl, hr⟩, rfl⟩
    rcases hr with rfl | ⟨hr, hle⟩
    · go_wp2
      go_ret
      exact ⟨⟨_, rfl, .inl rfl⟩, HB.out⟩
    · have hr0 : ¬ (r < 0) := by omega
      have HR : Hid (∃ d' : Nat, r = (d' : Int) ∧ d' ≤ sz + d ∧ wn ≤ sz + d ∧ sz ≤ sz + d) := ⟨d - wn, hr, by omega, by omega, by omega⟩
      clear hr
      go_wp2
      go_ret
      exact ⟨⟨_, rfl, .inr HR.out⟩, HB.out⟩
  · have hw : IntKind.i64.wrap ((L : Int) - (sz : Int)) = (L : Int) - (sz : Int) := by rw [IntKind.wrap_i64]; omega
    have h0 : (L : Int) - (sz : Int) < 0 := by omega
    go_enter Tryz.func56, Tryz.ntmps56
    go_wp2
    go_ret
    exact ⟨⟨_, rfl, .inl rfl⟩, HB.out⟩
set_option maxRecDepth 20000 in
set_option maxHeartbeats 4000000 in
theorem sz_parts (a : Option Addr) (cap n L : Nat) (Y : Nat → Rw) (w : World) (hs : GSeg 5 w a n (fun i => rwL (Y i))) (hn : n ≤ 9223372036854775807) (hL : L ≤ 1048576) (hw : ∀ i, i < n → (Y i).wn ≤ 9223372036854775807 ∧ (Y i).nm.size ≤ 9223372036854775807) :
    Calls Tryz.prog 21 #[.slice a n cap, .int .i64 (L : Int)] w fun e w' => (∃ r : Int, e = .returned (.int .i64 r) ∧ (r = -1 ∨ ∃ d : Nat, r = (d : Int) ∧ d ≤ 1048576 ∧ n ≤ 1048576 ∧ ∀ i, i < n → (Y i).wn ≤ 1048576 ∧ (Y i).nm.size ≤ 1048576)) ∧ Below w.heap.size w w' := by
  have HS : Hid (GSeg 5 w a n (fun i => rwL (Y i))) := hs
  have HW : Hid (∀ i, i < n → (Y i).wn ≤ 9223372036854775807 ∧ (Y i).nm.size ≤ 9223372036854775807) := hw
  clear hs hw
  by_cases h : n ≤ L
  rotate_left
  · have hw : IntKind.i64.wrap ((L : Int) - (n : Int)) = (L : Int) - (n : Int) := by rw [IntKind.wrap_i64]; omega
    have h0 : (L : Int) - (n : Int) < 0 := by omega
    go_enter Tryz.func21, Tryz.ntmps21
    go_wp2
    go_ret
    exact ⟨⟨_, rfl, .inl rfl⟩, Below.refl _ _⟩
  obtain ⟨d, rfl⟩ : ∃ d, L = n + d := ⟨L - n, by omega⟩
  have hw : IntKind.i64.wrap (((n + d : Nat) : Int) - (n : Int)) = (d : Int) := by rw [show ((n + d : Nat) : Int) - (n : Int) = (d : Int) by omega, IntKind.wrap_i64]; omega
  have h0 : ¬ ((d : Int) < 0) := by omega
  go_enter Tryz.func21, Tryz.ntmps21
  go_wp2
  go_loopw [1, 5] (fun t i wr => ∃ k D : Nat, k ≤ n ∧ D ≤ 1048576 ∧ i = .int .i64 k ∧ t = .int .i64 (D : Int) ∧ Hid (Below w.heap.size w wr ∧ ∀ i, i < k → (Y i).wn ≤ 1048576 ∧ (Y i).nm.size ≤ 1048576)) (fun _ i _ => n - (intOf i).toNat)
  case atStart => exact ⟨0, d, by omega, by omega, rfl, congrArg (Value.int .i64) (by omega), Below.refl _ _, fun i hi => absurd hi (by omega)⟩
  case round =>
    obtain ⟨k, D, hk, hD, rfl, rfl, HB⟩ := hrel
    by_cases hlt : k < n
    · have hlt' : (k : Int) < (n : Int) := by omega
      obtain ⟨b1, o1, rfl, hbl1, p1⟩ := HS.out.at k hlt
      have hb := HB.out.1
      replace p1 := p1.of (w' := wr) (fun i => hb.cell (p := ⟨b1, i, none⟩) hbl1)
      have HZ : Hid _ := fun X => sz_part (Y k) D X (HW.out k hlt).1 (HW.out k hlt).2 hD
      have HM : Hid (∀ q1 q2, (Y k).wn = q1 → (Y k).nm.size = q2 → q1 ≤ 1048576 → q2 ≤ 1048576 → ∀ i, i < k + 1 → (Y i).wn ≤ 1048576 ∧ (Y i).nm.size ≤ 1048576) := fun q1 q2 e1 e2 g1 g2 i hi => by
        by_cases e : i = k
        · subst e; rw [e1, e2]; exact ⟨g1, g2⟩
        · exact HB.out.2 i (by omega)
      obtain ⟨c0, c1, c2, c3, c4⟩ := rw_cells p1
      generalize Y k = y at c0 c1 c2 c3 c4 HZ HM
      obtain ⟨nm, en, kd, ms, wa, wn, wc⟩ := y
      simp only [rwV] at c0 c1 c2 c3 c4 HZ HM
      have HBB : Hid (Below w.heap.size w wr) := hb
      clear hbl1 p1 hb HB
      go_wp2_with fail
      refine (HZ.out _).mono ?_
      rintro e1 w1 ⟨⟨r, rfl, hr⟩, hb1⟩
      have HB1 : Hid (Below w.heap.size w w1) := HBB.out.trans (hb1.mono HBB.out.size)
      clear hb1 HBB HZ c0 c1 c2 c3 c4
      rcases hr with rfl | ⟨d', rfl, hd', hwn, hnm⟩
      · go_wp2
        go_ret
        exact ⟨⟨_, rfl, .inl rfl⟩, HB1.out⟩
      · have hr0 : ¬ ((d' : Int) < 0) := by omega
        have HM2 : Hid _ := HM.out wn nm.size rfl rfl (by omega) (by omega)
        clear HM hwn hnm
        go_wp2
        go_roundw
        case rel => exact ⟨k + 1, d', by omega, by omega, by go_num, rfl, HB1.out, HM2.out⟩
        case measure => simp [intOf]; omega
    · obtain rfl : k = n := by omega
      go_wp2
      go_ret
      exact ⟨⟨_, rfl, .inr ⟨D, rfl, hD, by omega, HB.out.2⟩⟩, HB.out.1⟩
end Go.Proofs.YtphdijkpjjokaaaGreatDoor
namespace Go.Proofs.YtphdijkpjjokaaaGreatDoor
open Go.ChangeShapes Go.WideShapes Go.ChangeAt Go.RowKit Go.Deep Go.Joins
set_option linter.unusedVariables false

set_option maxRecDepth 20000 in
set_option maxHeartbeats 1000000 in
theorem part_every (a : Option Addr) (cap n : Nat) (Y : Nat → Rw) (P : Nat → Bool) (q : Bool) (fid : Nat) (caps : Array Value) (w : World) (hs : GSeg 5 w a n (fun i => rwL (Y i))) (hn : n ≤ 9223372036854775807) (hen : ∀ args (v : World), (callFunc fid args).run Tryz.prog v = .ok (.enter fid args) v)
    (hf : ∀ i, i < n → ∀ X, Below w.heap.size w X → Calls Tryz.prog fid (#[rwV (Y i)] ++ caps) X fun e w' => e = .returned (.bool (P i)) ∧ Below X.heap.size X w')
    (hq : q = true ↔ ∀ i, i < n → P i = true) :
    Calls Tryz.prog 134 #[.slice a n cap, .func (.func fid) #[] caps] w fun e w' => e = .returned (.bool q) ∧ Below w.heap.size w w' := by
  have HQ : Hid (q = true ↔ ∀ i, i < n → P i = true) := hq
  have HS : Hid (GSeg 5 w a n (fun i => rwL (Y i))) := hs
  have HF : Hid (∀ i, i < n → ∀ X, Below w.heap.size w X → Calls Tryz.prog fid (#[rwV (Y i)] ++ caps) X fun e w' => e = .returned (.bool (P i)) ∧ Below X.heap.size X w') := hf
  clear hq hs hf
  go_enter Tryz.func134, Tryz.ntmps134
  go_wp2
  go_loopw [9] (fun i wr => ∃ m : Nat, m ≤ n ∧ i = .int .i64 m ∧ Hid (Below w.heap.size w wr ∧ ∀ j, j < m → P j = true)) (fun i _ => n - (intOf i).toNat)
  case atStart => exact ⟨0, by omega, rfl, Below.refl _ _, fun i hi => absurd hi (by omega)⟩
  case round =>
    obtain ⟨m, hm, rfl, HR⟩ := hrel
    by_cases hmn : m < n
    rotate_left
    · obtain rfl : m = n := by omega
      have HT : Hid (q = true) := HQ.out.2 HR.out.2
      go_wp2
      go_ret
      exact ⟨ret_bool HT.out.symm, HR.out.1⟩
    have hmn' : (m : Int) < (n : Int) := by omega
    obtain ⟨b1, o1, rfl, hbl1, p1⟩ := HS.out.at m hmn
    replace p1 := p1.of (w' := wr) (fun j => HR.out.1.cell (p := ⟨b1, j, none⟩) hbl1)
    have HFm : Hid _ := HF.out m hmn
    have HPm : Hid (P m = false → q = false) := fun h => not_true HQ.out (fun g => by rw [g m hmn] at h; cases h)
    have HPt : Hid (P m = true → ∀ j, j < m + 1 → P j = true) := fun h j hj => by
      by_cases e : j = m
      · subst e; exact h
      · exact HR.out.2 j (by omega)
    obtain ⟨c0, c1, c2, c3, c4⟩ := rw_cells p1
    generalize Y m = y at c0 c1 c2 c3 c4 HFm
    generalize P m = pm at HFm HPm HPt
    obtain ⟨nm, en, kd, ms, wa, wn, wc⟩ := y
    simp only [rwV] at c0 c1 c2 c3 c4 HFm
    have hb0 : Hid (Below w.heap.size w (wr.alloc (.cells #[.string nm, .int .i64 en, .int .i64 kd, .int .i64 ms, .slice wa wn wc] 102))) := HR.out.1.alloc HR.out.1.size _
    clear p1 hbl1
    go_wp2_with fail
    refine (HFm.out _ hb0.out).mono ?_
    rintro u w1 ⟨rfl, hb1⟩
    have HB1 : Hid (Below w.heap.size w w1) := hb0.out.trans (hb1.mono hb0.out.size)
    clear hb1 hb0 c0 c1 c2 c3 c4
    cases pm
    · have HT : Hid (q = false) := HPm.out (by trivial)
      go_wp2
      go_ret
      exact ⟨ret_bool HT.out.symm, HB1.out⟩
    · have HT : Hid _ := HPt.out (by trivial)
      go_wp2
      go_roundw
      case rel => exact ⟨m + 1, by omega, by go_num, HB1.out, HT.out⟩
      case measure => simp [intOf]; omega
set_option maxRecDepth 20000 in
set_option maxHeartbeats 1000000 in
theorem win_index (a : Option Addr) (cap n : Nat) (xs : List wiT) (P : Nat → Bool) (fid : Nat) (caps : Array Value) (w : World) (hs : GSeg 3 w a n (wiX xs)) (hn : n ≤ 9223372036854775807) (hen : ∀ args (v : World), (callFunc fid args).run Tryz.prog v = .ok (.enter fid args) v)
    (hf : ∀ i, i < n → ∀ X, Below w.heap.size w X → Calls Tryz.prog fid (#[wiV (xs.getD i wi0)] ++ caps) X fun e w' => e = .returned (.bool (P i)) ∧ Below X.heap.size X w') :
    Calls Tryz.prog 193 #[.slice a n cap, .func (.func fid) #[] caps] w fun e w' => (∃ r : Int, e = .returned (.int .i64 r) ∧ ((r = -1 ∧ ∀ i, i < n → P i = false) ∨ ∃ k : Nat, r = (k : Int) ∧ k < n ∧ P k = true ∧ ∀ i, i < k → P i = false)) ∧ Below w.heap.size w w' := by
  have HS : Hid (GSeg 3 w a n (wiX xs)) := hs
  have HF : Hid (∀ i, i < n → ∀ X, Below w.heap.size w X → Calls Tryz.prog fid (#[wiV (xs.getD i wi0)] ++ caps) X fun e w' => e = .returned (.bool (P i)) ∧ Below X.heap.size X w') := hf
  clear hs hf
  go_enter Tryz.func193, Tryz.ntmps193
  go_wp2
  go_loopw [8] (fun i wr => ∃ m : Nat, m ≤ n ∧ i = .int .i64 m ∧ Hid (Below w.heap.size w wr ∧ ∀ j, j < m → P j = false)) (fun i _ => n - (intOf i).toNat)
  case atStart => exact ⟨0, by omega, rfl, Below.refl _ _, fun i hi => absurd hi (by omega)⟩
  case round =>
    obtain ⟨m, hm, rfl, HR⟩ := hrel
    by_cases hmn : m < n
    rotate_left
    · obtain rfl : m = n := by omega
      go_wp2
      go_ret
      exact ⟨⟨_, rfl, .inl ⟨rfl, HR.out.2⟩⟩, HR.out.1⟩
    have hmn' : (m : Int) < (n : Int) := by omega
    obtain ⟨b1, o1, rfl, hbl1, p1⟩ := HS.out.at m hmn
    replace p1 := p1.of (w' := wr) (fun j => HR.out.1.cell (p := ⟨b1, j, none⟩) hbl1)
    have HFm : Hid _ := HF.out m hmn
    have HPm : Hid (P m = true → (∃ k : Nat, (m : Int) = (k : Int) ∧ k < n ∧ P k = true ∧ ∀ i, i < k → P i = false)) := fun h => ⟨m, rfl, hmn, h, HR.out.2⟩
    have HPt : Hid (P m = false → ∀ j, j < m + 1 → P j = false) := fun h j hj => by
      by_cases e : j = m
      · subst e; exact h
      · exact HR.out.2 j (by omega)
    have HBW : Hid (Below w.heap.size w wr) := HR.out.1
    simp only [wiX] at p1
    generalize xs.getD m wi0 = x at p1 HFm
    obtain ⟨c0, c1, c2⟩ := wi_cells p1
    obtain ⟨x1, x2, x3⟩ := x
    simp only [wiV] at c0 c1 c2 HFm
    generalize P m = pm at HFm HPm HPt
    clear p1 hbl1
    go_wp2_with fail
    refine (HFm.out _ HBW.out).mono ?_
    rintro u w1 ⟨rfl, hb1⟩
    have HB1 : Hid (Below w.heap.size w w1) := HBW.out.trans (hb1.mono HBW.out.size)
    clear hb1 c0 c1 c2
    cases pm
    · have HT : Hid _ := HPt.out (by trivial)
      go_wp2
      go_roundw
      case rel => exact ⟨m + 1, by omega, by go_num, HB1.out, HT.out⟩
      case measure => simp [intOf]; omega
    · have HT : Hid _ := HPm.out (by trivial)
      go_wp2
      go_ret
      exact ⟨⟨_, rfl, .inr HT.out⟩, HB1.out⟩
set_option maxRecDepth 20000 in
theorem win_contains (a : Option Addr) (cap n : Nat) (xs : List wiT) (P : Nat → Bool) (q : Bool) (fid : Nat) (caps : Array Value) (w : World) (hs : GSeg 3 w a n (wiX xs)) (hn : n ≤ 9223372036854775807) (hen : ∀ args (v : World), (callFunc fid args).run Tryz.prog v = .ok (.enter fid args) v)
    (hf : ∀ i, i < n → ∀ X, Below w.heap.size w X → Calls Tryz.prog fid (#[wiV (xs.getD i wi0)] ++ caps) X fun e w' => e = .returned (.bool (P i)) ∧ Below X.heap.size X w') (hq : q = true ↔ ∃ i, i < n ∧ P i = true) :
    Calls Tryz.prog 182 #[.slice a n cap, .func (.func fid) #[] caps] w fun e w' => e = .returned (.bool q) ∧ Below w.heap.size w w' := by
  have HS : Hid (GSeg 3 w a n (wiX xs)) := hs
  have HF : Hid (∀ i, i < n → ∀ X, Below w.heap.size w X → Calls Tryz.prog fid (#[wiV (xs.getD i wi0)] ++ caps) X fun e w' => e = .returned (.bool (P i)) ∧ Below X.heap.size X w') := hf
  have HQ : Hid (q = true ↔ ∃ i, i < n ∧ P i = true) := hq
  clear hs hf hq
  go_enter Tryz.func182, Tryz.ntmps182
  go_wp2_with fail
  refine (win_index a cap n xs P fid caps w HS.out hn hen HF.out).mono ?_
  rintro e w1 ⟨⟨r, rfl, hr⟩, hb⟩
  have HB : Hid (Below w.heap.size w w1) := hb
  have HT : Hid (decide (0 ≤ r) = q) := by
    show _ = _
    rcases hr with ⟨rfl, h⟩ | ⟨k, rfl, hk, hp, _⟩
    · rw [not_true HQ.out (fun ⟨i, hi, hpi⟩ => by rw [h i hi] at hpi; cases hpi)]; rfl
    · rw [HQ.out.2 ⟨k, hk, hp⟩]; exact decide_eq_true (by omega)
  clear hr hb
  generalize hd : decide (0 ≤ r) = d at HT
  go_wp2
  go_ret
  exact ⟨ret_bool HT.out, HB.out⟩
end Go.Proofs.YtphdijkpjjokaaaGreatDoor
