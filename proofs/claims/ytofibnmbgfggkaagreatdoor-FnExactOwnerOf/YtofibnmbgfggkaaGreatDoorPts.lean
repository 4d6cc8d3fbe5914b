
/-
  Lists of partitions in memory, their windows with them: copies, likeness, the measure, whether a test holds of every one or of every two, the first of which one holds; how a list that came in is read. Conditions: lengths are at most 1048576 where a copy is made.
-/
import Derived.Test.YtofibnmbgfggkaaGreatDoorBas
import Derived.Test.YtofibnmbgfggkaaGreatDoorWns
import Derived.Test.YtofibnmbgfggkaaGreatDoorPol
import Derived.Deep.RegionHeld3
import Derived.Deep.RegionHeldLaw
import Derived.BigQuiet
import Derived.Lib.SmallJoins
namespace Go.Proofs.YtofibnmbgfggkaaGreatDoor
open Go.ChangeShapes Go.WideShapes Go.ChangeAt Go.RowKit Go.Deep Go.Joins
set_option linter.unusedVariables false

/-- A partition, as numbers and lists. -/
structure Pt where
  nm : ByteArray
  en : Int
  kd : Int
  ms : Int
  ws : List wiT
abbrev pt0 : Pt := ⟨ByteArray.empty, 0, 0, 0, []⟩
/-- A partition's cells. -/
structure Rw where
  nm : ByteArray
  en : Int
  kd : Int
  ms : Int
  wa : Option Addr
  wn : Nat
  wc : Nat
def rwL (y : Rw) : List Value := [.string y.nm, .int .i64 y.en, .int .i64 y.kd, .int .i64 y.ms, .slice y.wa y.wn y.wc]
abbrev rwV (y : Rw) : Value := .agg #[.string y.nm, .int .i64 y.en, .int .i64 y.kd, .int .i64 y.ms, .slice y.wa y.wn y.wc]
/-- The cells are those of the partition, and its windows lie where they say. -/
structure Good (lo : Nat) (w : World) (y : Rw) (p : Pt) : Prop where
  nm : y.nm = p.nm
  en : y.en = p.en
  kd : y.kd = p.kd
  ms : y.ms = p.ms
  ln : p.ws.length = y.wn
  cp : y.wn ≤ y.wc
  sg : GSegL 3 lo w y.wa y.wn (wiX p.ws)
theorem Good.below {lo : Nat} {w w' : World} {y : Rw} {p : Pt} (h : Good lo w y p) (hb : Below w.heap.size w w') : Good lo w' y p := ⟨h.nm, h.en, h.kd, h.ms, h.ln, h.cp, h.sg.below hb⟩
theorem Good.wide {lo lo' : Nat} {w : World} {y : Rw} {p : Pt} (h : Good lo w y p) (hl : lo' ≤ lo) : Good lo' w y p := ⟨h.nm, h.en, h.kd, h.ms, h.ln, h.cp, h.sg.wide hl⟩
theorem Good.setAll {lo B o : Nat} {w : World} {y : Rw} {p : Pt} (vs : List Value) (h : Good lo w y p) (hB : B < lo) : Good lo (setAll w B o vs) y p := ⟨h.nm, h.en, h.kd, h.ms, h.ln, h.cp, h.sg.setAll vs hB⟩
def PSegL (lo : Nat) (w : World) (a : Option Addr) (n : Nat) (ps : List Pt) (Y : Nat → Rw) : Prop := GSegL 5 lo w a n (fun i => rwL (Y i)) ∧ ∀ i, i < n → Good lo w (Y i) (ps.getD i pt0)
theorem PSegL.below {lo : Nat} {w w' : World} {a : Option Addr} {n : Nat} {ps : List Pt} {Y : Nat → Rw} (h : PSegL lo w a n ps Y) (hb : Below w.heap.size w w') : PSegL lo w' a n ps Y := ⟨h.1.below hb, fun i hi => (h.2 i hi).below hb⟩
theorem PSegL.wide {lo lo' : Nat} {w : World} {a : Option Addr} {n : Nat} {ps : List Pt} {Y : Nat → Rw} (h : PSegL lo w a n ps Y) (hl : lo' ≤ lo) : PSegL lo' w a n ps Y := ⟨h.1.wide hl, fun i hi => (h.2 i hi).wide hl⟩
theorem PSegL.setAll {lo B o : Nat} {w : World} {a : Option Addr} {n : Nat} {ps : List Pt} {Y : Nat → Rw} (vs : List Value) (h : PSegL lo w a n ps Y) (hB : B < lo) : PSegL lo (setAll w B o vs) a n ps Y := ⟨h.1.setAll vs hB, fun i hi => (h.2 i hi).setAll vs hB⟩
theorem rw_cells {w : World} {b o : Nat} {y : Rw} (h : CellsAt w b o (rwL y)) : w.cell? ⟨b, o, none⟩ = some (.string y.nm) ∧ w.cell? ⟨b, o + 1, none⟩ = some (.int .i64 y.en) ∧ w.cell? ⟨b, o + 2, none⟩ = some (.int .i64 y.kd) ∧ w.cell? ⟨b, o + 3, none⟩ = some (.int .i64 y.ms) ∧ w.cell? ⟨b, o + 4, none⟩ = some (.slice y.wa y.wn y.wc) :=
  ⟨h 0 _ rfl, h 1 _ rfl, h 2 _ rfl, h 3 _ rfl, h 4 _ rfl⟩
theorem pol_eq (k m : Int) (w : World) : Calls Tryz.prog 81 #[pol k m, pol k m] w fun e w' => e = .returned (.bool true) ∧ Below w.heap.size w w' := by
  go_enter Tryz.func81, Tryz.ntmps81
  go_wp2
  go_ret
  exact ⟨rfl, ((Below.refl _ _).alloc (Nat.le_refl _) _).alloc (by simp) _⟩
set_option maxRecDepth 20000 in
set_option maxHeartbeats 4000000 in
theorem to_part (y : Rw) (p : Pt) (w : World) (hg : Good 0 w y p) (hn : y.wn ≤ 1048576) :
    Calls Tryz.prog 57 #[rwV y] w fun e w' => ∃ y', e = .returned (rwV y') ∧ Below w.heap.size w w' ∧ Good w.heap.size w' y' p := by
  obtain ⟨nm, en, kd, ms, wa, wn, wc⟩ := y
  simp only [rwV]
  have HG : Hid (Good 0 w ⟨nm, en, kd, ms, wa, wn, wc⟩ p) := hg
  have hn' : wn ≤ 1048576 := hn
  clear hg hn
  have HB0 : Hid (Below w.heap.size w (((w.alloc (.cells #[.string nm, .int .i64 en, .int .i64 kd, .int .i64 ms, .slice wa wn wc] 81)).alloc (.cells #[.string ByteArray.empty, .int .i64 0, .int .i64 0, .int .i64 0, .slice none 0 0] 73)).alloc (.cells #[.string nm, .int .i64 en, .int .i64 0, .int .i64 0, .slice none 0 0] 73))) := (((Below.refl _ _).alloc (Nat.le_refl _) _).alloc (by simp) _).alloc (by simp; omega) _
  have KB0 : Hid (Bk (((w.alloc (.cells #[.string nm, .int .i64 en, .int .i64 kd, .int .i64 ms, .slice wa wn wc] 81)).alloc (.cells #[.string ByteArray.empty, .int .i64 0, .int .i64 0, .int .i64 0, .slice none 0 0] 73)).alloc (.cells #[.string nm, .int .i64 en, .int .i64 0, .int .i64 0, .slice none 0 0] 73)) w.heap.size #[.string nm, .int .i64 en, .int .i64 kd, .int .i64 ms, .slice wa wn wc]) := ((Bk.new w _ _ _ rfl).alloc _).alloc _
  have KR0 : Hid (Bk (((w.alloc (.cells #[.string nm, .int .i64 en, .int .i64 kd, .int .i64 ms, .slice wa wn wc] 81)).alloc (.cells #[.string ByteArray.empty, .int .i64 0, .int .i64 0, .int .i64 0, .slice none 0 0] 73)).alloc (.cells #[.string nm, .int .i64 en, .int .i64 0, .int .i64 0, .slice none 0 0] 73)) (w.heap.size + 1) #[.string ByteArray.empty, .int .i64 0, .int .i64 0, .int .i64 0, .slice none 0 0]) := (Bk.new _ _ _ _ (by simp)).alloc _
  have KO0 : Hid (Bk (((w.alloc (.cells #[.string nm, .int .i64 en, .int .i64 kd, .int .i64 ms, .slice wa wn wc] 81)).alloc (.cells #[.string ByteArray.empty, .int .i64 0, .int .i64 0, .int .i64 0, .slice none 0 0] 73)).alloc (.cells #[.string nm, .int .i64 en, .int .i64 0, .int .i64 0, .slice none 0 0] 73)) (w.heap.size + 2) #[.string nm, .int .i64 en, .int .i64 0, .int .i64 0, .slice none 0 0]) := Bk.new _ _ _ _ (by simp)
  have HZ0 : Hid (w.heap.size + 3 ≤ ((((w.alloc (.cells #[.string nm, .int .i64 en, .int .i64 kd, .int .i64 ms, .slice wa wn wc] 81)).alloc (.cells #[.string ByteArray.empty, .int .i64 0, .int .i64 0, .int .i64 0, .slice none 0 0] 73)).alloc (.cells #[.string nm, .int .i64 en, .int .i64 0, .int .i64 0, .slice none 0 0] 73))).heap.size) := by show _ ≤ _; simp
  go_enter Tryz.func57, Tryz.ntmps57
  go_wp2_with fail
  refine (to_policy kd ms _).mono ?_
  rintro e1 w1 ⟨rfl, hb1⟩
  have HB1 : Hid (Below w.heap.size w w1) := HB0.out.trans (hb1.mono HB0.out.size)
  have KB1 : Hid (Bk w1 w.heap.size #[.string nm, .int .i64 en, .int .i64 kd, .int .i64 ms, .slice wa wn wc]) := KB0.out.below hb1
  have KR1 : Hid (Bk w1 (w.heap.size + 1) #[.string ByteArray.empty, .int .i64 0, .int .i64 0, .int .i64 0, .slice none 0 0]) := KR0.out.below hb1
  have KO1 : Hid (Bk w1 (w.heap.size + 2) #[.string nm, .int .i64 en, .int .i64 0, .int .i64 0, .slice none 0 0]) := KO0.out.below hb1
  have hz1 : w.heap.size + 3 ≤ w1.heap.size := Nat.le_trans HZ0.out hb1.size
  clear hb1 HB0 KB0 KR0 KO0 HZ0
  have HB2 : Hid (Below w.heap.size w ((w1.setCell ⟨w.heap.size + 2, 2, none⟩ (.int .i64 kd)).setCell ⟨w.heap.size + 2, 3, none⟩ (.int .i64 ms))) := (HB1.out.setCell (p := ⟨w.heap.size + 2, 2, none⟩) (by simp) _).setCell (p := ⟨w.heap.size + 2, 3, none⟩) (by simp) _
  have KB2 : Hid (Bk ((w1.setCell ⟨w.heap.size + 2, 2, none⟩ (.int .i64 kd)).setCell ⟨w.heap.size + 2, 3, none⟩ (.int .i64 ms)) w.heap.size #[.string nm, .int .i64 en, .int .i64 kd, .int .i64 ms, .slice wa wn wc]) := (KB1.out.other _ _ _ (by omega)).other _ _ _ (by omega)
  have KR2 : Hid (Bk ((w1.setCell ⟨w.heap.size + 2, 2, none⟩ (.int .i64 kd)).setCell ⟨w.heap.size + 2, 3, none⟩ (.int .i64 ms)) (w.heap.size + 1) #[.string ByteArray.empty, .int .i64 0, .int .i64 0, .int .i64 0, .slice none 0 0]) := (KR1.out.other _ _ _ (by omega)).other _ _ _ (by omega)
  have KO2 : Hid (Bk ((w1.setCell ⟨w.heap.size + 2, 2, none⟩ (.int .i64 kd)).setCell ⟨w.heap.size + 2, 3, none⟩ (.int .i64 ms)) (w.heap.size + 2) #[.string nm, .int .i64 en, .int .i64 kd, .int .i64 ms, .slice none 0 0]) := (KO1.out.set 2 (.int .i64 kd) (by simp) (cs' := #[.string nm, .int .i64 en, .int .i64 kd, .int .i64 0, .slice none 0 0]) rfl).set 3 _ (by simp) rfl
  have c2 : w1.cell? ⟨w.heap.size + 2, 2, none⟩ = some (.int .i64 0) := KO1.out.cell 2 _ rfl
  have c3 : (w1.setCell ⟨w.heap.size + 2, 2, none⟩ (.int .i64 kd)).cell? ⟨w.heap.size + 2, 3, none⟩ = some (.int .i64 0) := (KO1.out.set 2 (.int .i64 kd) (by simp) (cs' := #[.string nm, .int .i64 en, .int .i64 kd, .int .i64 0, .slice none 0 0]) rfl).cell 3 _ rfl
  have cf := KO1.out.free
  have c4 : w1.cell? ⟨w.heap.size, 4, none⟩ = some (.slice wa wn wc) := KB1.out.cell 4 _ rfl
  have hz2 : w.heap.size + 3 ≤ ((w1.setCell ⟨w.heap.size + 2, 2, none⟩ (.int .i64 kd)).setCell ⟨w.heap.size + 2, 3, none⟩ (.int .i64 ms)).heap.size := by simpa using hz1
  have HT : Hid _ := wi_tos wa wc wn p.ws ((w1.setCell ⟨w.heap.size + 2, 2, none⟩ (.int .i64 kd)).setCell ⟨w.heap.size + 2, 3, none⟩ (.int .i64 ms)) (HG.out.sg.below HB2.out).seg hn'
  clear KB1 KR1 KO1
  go_wp2_with fail
  refine Calls.mono HT.out ?_
  clear HT c2 c3 cf c4
  revert HB2 KB2 KR2 KO2 hz2
  generalize ((w1.setCell ⟨w.heap.size + 2, 2, none⟩ (.int .i64 kd)).setCell ⟨w.heap.size + 2, 3, none⟩ (.int .i64 ms)) = V2
  intro HB2 KB2 KR2 KO2 hz2
  rintro e2 w2 ⟨rfl, hb2, hgb⟩
  have HB3 : Hid (Below w.heap.size w w2) := HB2.out.trans (hb2.mono HB2.out.size)
  have KR3 : Hid (Bk w2 (w.heap.size + 1) #[.string ByteArray.empty, .int .i64 0, .int .i64 0, .int .i64 0, .slice none 0 0]) := KR2.out.below hb2
  have KO3 : Hid (Bk w2 (w.heap.size + 2) #[.string nm, .int .i64 en, .int .i64 kd, .int .i64 ms, .slice none 0 0]) := KO2.out.below hb2
  have HGB : Hid (GSegL 3 (w.heap.size + 3) w2 (some ⟨V2.heap.size, 0, none⟩) wn (wiX p.ws)) := hgb.segL _ hz2
  clear hb2 hgb HB2 KB2 KR2 KO2 hz2 HB1 hz1
  generalize V2.heap.size = N2 at HGB ⊢
  have HB4 : Hid (Below w.heap.size w (setAll (setAll w2 (w.heap.size + 2) 4 [.slice (some ⟨N2, 0, none⟩) wn wn]) (w.heap.size + 1) 0 [.string nm, .int .i64 en, .int .i64 kd, .int .i64 ms, .slice (some ⟨N2, 0, none⟩) wn wn])) := setAll_below (by omega) _ _ (setAll_below (by omega) _ _ HB3.out)
  have HG4 : Hid (GSegL 3 (w.heap.size + 3) (setAll (setAll w2 (w.heap.size + 2) 4 [.slice (some ⟨N2, 0, none⟩) wn wn]) (w.heap.size + 1) 0 [.string nm, .int .i64 en, .int .i64 kd, .int .i64 ms, .slice (some ⟨N2, 0, none⟩) wn wn]) (some ⟨N2, 0, none⟩) wn (wiX p.ws)) := (HGB.out.setAll _ (by omega)).setAll _ (by omega)
  have KO4 : Bk (w2.setCell ⟨w.heap.size + 2, 4, none⟩ (.slice (some ⟨N2, 0, none⟩) wn wn)) (w.heap.size + 2) #[.string nm, .int .i64 en, .int .i64 kd, .int .i64 ms, .slice (some ⟨N2, 0, none⟩) wn wn] := KO3.out.set 4 _ (by simp) rfl
  have KR4 : Bk (w2.setCell ⟨w.heap.size + 2, 4, none⟩ (.slice (some ⟨N2, 0, none⟩) wn wn)) (w.heap.size + 1) #[.string ByteArray.empty, .int .i64 0, .int .i64 0, .int .i64 0, .slice none 0 0] := KR3.out.other _ _ _ (by omega)
  have HK : Hid (CellsAt (setAll (setAll w2 (w.heap.size + 2) 4 [.slice (some ⟨N2, 0, none⟩) wn wn]) (w.heap.size + 1) 0 [.string nm, .int .i64 en, .int .i64 kd, .int .i64 ms, .slice (some ⟨N2, 0, none⟩) wn wn]) (w.heap.size + 1) 0 [.string nm, .int .i64 en, .int .i64 kd, .int .i64 ms, .slice (some ⟨N2, 0, none⟩) wn wn]) := setAll_cells _ _ _ _ (fun j hj => by
    rw [Nat.zero_add]
    have hj' : j < 5 := hj
    match j, hj' with
    | 0, _ => exact ⟨_, KR4.cell 0 _ rfl⟩
    | 1, _ => exact ⟨_, KR4.cell 1 _ rfl⟩
    | 2, _ => exact ⟨_, KR4.cell 2 _ rfl⟩
    | 3, _ => exact ⟨_, KR4.cell 3 _ rfl⟩
    | 4, _ => exact ⟨_, KR4.cell 4 _ rfl⟩)
  have r4 : w2.cell? ⟨w.heap.size + 2, 4, none⟩ = some (.slice none 0 0) := KO3.out.cell 4 _ rfl
  have rf := KO3.out.free
  have t0 := KO4.cell 0 _ rfl
  have t1 := KO4.cell 1 _ rfl
  have t2 := KO4.cell 2 _ rfl
  have t3 := KO4.cell 3 _ rfl
  have t4 := KO4.cell 4 _ rfl
  have z0 := KR4.cell 0 _ rfl
  have z1 := KR4.cell 1 _ rfl
  have z2 := KR4.cell 2 _ rfl
  have z3 := KR4.cell 3 _ rfl
  have z4 := KR4.cell 4 _ rfl
  have zf := KR4.free
  clear KO4 KR4 KO3 KR3 HB3 HGB
  go_wp2
  clear t0 t1 t2 t3 t4 z0 z1 z2 z3 z4 zf r4 rf
  have k9 := HK.out
  have hb9 := HB4.out
  have hg9 := HG4.out
  clear HK HB4 HG4
  simp only [setAll] at k9 hb9 hg9
  revert k9 hb9 hg9
  generalize (((((w2.setCell ⟨w.heap.size + 2, 4, none⟩ (.slice (some ⟨N2, 0, none⟩) wn wn)).setCell ⟨w.heap.size + 1, 0, none⟩ (.string nm)).setCell ⟨w.heap.size + 1, 1, none⟩ (.int .i64 en)).setCell ⟨w.heap.size + 1, 2, none⟩ (.int .i64 kd)).setCell ⟨w.heap.size + 1, 3, none⟩ (.int .i64 ms)).setCell ⟨w.heap.size + 1, 4, none⟩ (.slice (some ⟨N2, 0, none⟩) wn wn) = Wf
  intro k9 hb9 hg9
  have q0 : Wf.cell? ⟨w.heap.size + 1, 0, none⟩ = some (.string nm) := k9 0 _ rfl
  have q1 : Wf.cell? ⟨w.heap.size + 1, 1, none⟩ = some (.int .i64 en) := k9 1 _ rfl
  have q2 : Wf.cell? ⟨w.heap.size + 1, 2, none⟩ = some (.int .i64 kd) := k9 2 _ rfl
  have q3 : Wf.cell? ⟨w.heap.size + 1, 3, none⟩ = some (.int .i64 ms) := k9 3 _ rfl
  have q4 : Wf.cell? ⟨w.heap.size + 1, 4, none⟩ = some (.slice (some ⟨N2, 0, none⟩) wn wn) := k9 4 _ rfl
  exact bodyPost_ret (v := rwV ⟨nm, en, kd, ms, some ⟨N2, 0, none⟩, wn, wn⟩) (by simp [results, Tryz.results57, go_sem, q0, q1, q2, q3, q4]) rfl
    ⟨⟨nm, en, kd, ms, some ⟨N2, 0, none⟩, wn, wn⟩, rfl, hb9, HG.out.nm, HG.out.en, HG.out.kd, HG.out.ms, HG.out.ln, Nat.le_refl _, hg9.wide (by omega)⟩
end Go.Proofs.YtofibnmbgfggkaaGreatDoor
