
/-
  Lists of rows of a feed in memory, their words with them: copies, likeness, the measure; how a list that came in is read. Conditions: lengths are at most 1048576 where a copy is made.
-/
import Derived.Test.YtiheojmknhgjfaaGreatDoorBas
import Derived.Test.YtiheojmknhgjfaaGreatDoorUns
import Derived.Deep.RegionHeld3
import Derived.Deep.RegionHeldLaw
import Derived.BigQuiet
import Derived.Lib.SmallJoins
import Derived.Deep.SlicePairs
import Derived.OwnWalk
namespace Go.Proofs.YtiheojmknhgjfaaGreatDoor
open Go.ChangeShapes Go.WideShapes Go.ChangeAt Go.RowKit Go.Deep Go.Joins
set_option linter.unusedVariables false

/-- A row of a feed, as numbers and a list. -/
structure Fd where
  cy : Int
  kd : Int
  at_ : Int
  hd : Int
  ws : List Int
abbrev fd0 : Fd := ⟨0, 0, 0, 0, []⟩
/-- A row's cells. -/
structure Fr where
  cy : Int
  kd : Int
  at_ : Int
  hd : Int
  wa : Option Addr
  wn : Nat
  wc : Nat
def frL (y : Fr) : List Value := [.int .i64 y.cy, .int .i64 y.kd, .int .i64 y.at_, .int .i64 y.hd, .slice y.wa y.wn y.wc]
abbrev frV (y : Fr) : Value := .agg #[.int .i64 y.cy, .int .i64 y.kd, .int .i64 y.at_, .int .i64 y.hd, .slice y.wa y.wn y.wc]
structure FGood (lo : Nat) (w : World) (y : Fr) (p : Fd) : Prop where
  cy : y.cy = p.cy
  kd : y.kd = p.kd
  at_ : y.at_ = p.at_
  hd : y.hd = p.hd
  ln : p.ws.length = y.wn
  cp : y.wn ≤ y.wc
  sg : GSegL 1 lo w y.wa y.wn (unX p.ws)
theorem FGood.below {lo : Nat} {w w' : World} {y : Fr} {p : Fd} (h : FGood lo w y p) (hb : Below w.heap.size w w') : FGood lo w' y p := ⟨h.cy, h.kd, h.at_, h.hd, h.ln, h.cp, h.sg.below hb⟩
theorem FGood.wide {lo lo' : Nat} {w : World} {y : Fr} {p : Fd} (h : FGood lo w y p) (hl : lo' ≤ lo) : FGood lo' w y p := ⟨h.cy, h.kd, h.at_, h.hd, h.ln, h.cp, h.sg.wide hl⟩
theorem FGood.setAll {lo B o : Nat} {w : World} {y : Fr} {p : Fd} (vs : List Value) (h : FGood lo w y p) (hB : B < lo) : FGood lo (setAll w B o vs) y p := ⟨h.cy, h.kd, h.at_, h.hd, h.ln, h.cp, h.sg.setAll vs hB⟩
structure FSegL (lo : Nat) (w : World) (a : Option Addr) (n : Nat) (ps : List Fd) (Y : Nat → Fr) : Prop where
  p1 : GSegL 5 lo w a n (fun i => frL (Y i))
  p2 : ∀ i, i < n → FGood lo w (Y i) (ps.getD i fd0)
theorem FSegL.below {lo : Nat} {w w' : World} {a : Option Addr} {n : Nat} {ps : List Fd} {Y : Nat → Fr} (h : FSegL lo w a n ps Y) (hb : Below w.heap.size w w') : FSegL lo w' a n ps Y := ⟨h.1.below hb, fun i hi => (h.2 i hi).below hb⟩
theorem FSegL.wide {lo lo' : Nat} {w : World} {a : Option Addr} {n : Nat} {ps : List Fd} {Y : Nat → Fr} (h : FSegL lo w a n ps Y) (hl : lo' ≤ lo) : FSegL lo' w a n ps Y := ⟨h.1.wide hl, fun i hi => (h.2 i hi).wide hl⟩
theorem fr_cells {w : World} {b o : Nat} {y : Fr} (h : CellsAt w b o (frL y)) : w.cell? ⟨b, o, none⟩ = some (.int .i64 y.cy) ∧ w.cell? ⟨b, o + 1, none⟩ = some (.int .i64 y.kd) ∧ w.cell? ⟨b, o + 2, none⟩ = some (.int .i64 y.at_) ∧ w.cell? ⟨b, o + 3, none⟩ = some (.int .i64 y.hd) ∧ w.cell? ⟨b, o + 4, none⟩ = some (.slice y.wa y.wn y.wc) :=
  ⟨h 0 _ rfl, h 1 _ rfl, h 2 _ rfl, h 3 _ rfl, h 4 _ rfl⟩
set_option maxRecDepth 20000 in
set_option maxHeartbeats 4000000 in
theorem to_feed (y : Fr) (p : Fd) (w : World) (hg : FGood 0 w y p) (hn : y.wn ≤ 1048576) :
    Calls Tryz.prog 32 #[frV y] w fun e w' => ∃ y', e = .returned (frV y') ∧ Below w.heap.size w w' ∧ FGood w.heap.size w' y' p := by
  obtain ⟨cy, kd, at_, hd, wa, wn, wc⟩ := y
  simp only [frV]
  have HG : Hid (FGood 0 w ⟨cy, kd, at_, hd, wa, wn, wc⟩ p) := hg
  have hn' : wn ≤ 1048576 := hn
  clear hg hn
  have HB0 : Hid (Below w.heap.size w (((w.alloc (.cells #[.int .i64 cy, .int .i64 kd, .int .i64 at_, .int .i64 hd, .slice wa wn wc] 63)).alloc (.cells #[.int .i64 0, .int .i64 0, .int .i64 0, .int .i64 0, .slice none 0 0] 67)).alloc (.cells #[.int .i64 cy, .int .i64 kd, .int .i64 at_, .int .i64 hd, .slice none 0 0] 67))) := (((Below.refl _ _).alloc (Nat.le_refl _) _).alloc (by simp) _).alloc (by simp; omega) _
  have KR0 : Hid (Bk (((w.alloc (.cells #[.int .i64 cy, .int .i64 kd, .int .i64 at_, .int .i64 hd, .slice wa wn wc] 63)).alloc (.cells #[.int .i64 0, .int .i64 0, .int .i64 0, .int .i64 0, .slice none 0 0] 67)).alloc (.cells #[.int .i64 cy, .int .i64 kd, .int .i64 at_, .int .i64 hd, .slice none 0 0] 67)) (w.heap.size + 1) #[.int .i64 0, .int .i64 0, .int .i64 0, .int .i64 0, .slice none 0 0]) := (Bk.new _ _ _ _ (by simp)).alloc _
  have KO0 : Hid (Bk (((w.alloc (.cells #[.int .i64 cy, .int .i64 kd, .int .i64 at_, .int .i64 hd, .slice wa wn wc] 63)).alloc (.cells #[.int .i64 0, .int .i64 0, .int .i64 0, .int .i64 0, .slice none 0 0] 67)).alloc (.cells #[.int .i64 cy, .int .i64 kd, .int .i64 at_, .int .i64 hd, .slice none 0 0] 67)) (w.heap.size + 2) #[.int .i64 cy, .int .i64 kd, .int .i64 at_, .int .i64 hd, .slice none 0 0]) := Bk.new _ _ _ _ (by simp)
  have HZ0 : Hid (w.heap.size + 3 ≤ ((((w.alloc (.cells #[.int .i64 cy, .int .i64 kd, .int .i64 at_, .int .i64 hd, .slice wa wn wc] 63)).alloc (.cells #[.int .i64 0, .int .i64 0, .int .i64 0, .int .i64 0, .slice none 0 0] 67)).alloc (.cells #[.int .i64 cy, .int .i64 kd, .int .i64 at_, .int .i64 hd, .slice none 0 0] 67))).heap.size) := by show _ ≤ _; simp
  have HT : Hid _ := un_tos wa wc wn p.ws (((w.alloc (.cells #[.int .i64 cy, .int .i64 kd, .int .i64 at_, .int .i64 hd, .slice wa wn wc] 63)).alloc (.cells #[.int .i64 0, .int .i64 0, .int .i64 0, .int .i64 0, .slice none 0 0] 67)).alloc (.cells #[.int .i64 cy, .int .i64 kd, .int .i64 at_, .int .i64 hd, .slice none 0 0] 67)) (HG.out.sg.below HB0.out).seg hn'
  go_enter Tryz.func32, Tryz.ntmps32
  go_wp2_with fail
  refine Calls.mono HT.out ?_
  clear HT
  revert HB0 KR0 KO0 HZ0
  generalize (((w.alloc (.cells #[.int .i64 cy, .int .i64 kd, .int .i64 at_, .int .i64 hd, .slice wa wn wc] 63)).alloc (.cells #[.int .i64 0, .int .i64 0, .int .i64 0, .int .i64 0, .slice none 0 0] 67)).alloc (.cells #[.int .i64 cy, .int .i64 kd, .int .i64 at_, .int .i64 hd, .slice none 0 0] 67)) = V2
  intro HB0 KR0 KO0 HZ0
  rintro e2 w2 ⟨rfl, hb2, hgb⟩
  have HB3 : Hid (Below w.heap.size w w2) := HB0.out.trans (hb2.mono HB0.out.size)
  have KR3 : Hid (Bk w2 (w.heap.size + 1) #[.int .i64 0, .int .i64 0, .int .i64 0, .int .i64 0, .slice none 0 0]) := KR0.out.below hb2
  have KO3 : Hid (Bk w2 (w.heap.size + 2) #[.int .i64 cy, .int .i64 kd, .int .i64 at_, .int .i64 hd, .slice none 0 0]) := KO0.out.below hb2
  have HGB : Hid (GSegL 1 (w.heap.size + 3) w2 (some ⟨V2.heap.size, 0, none⟩) wn (unX p.ws)) := hgb.segL _ HZ0.out
  clear hb2 hgb HB0 KR0 KO0 HZ0
  generalize V2.heap.size = N2 at HGB ⊢
  have HB4 : Hid (Below w.heap.size w (setAll (setAll w2 (w.heap.size + 2) 4 [.slice (some ⟨N2, 0, none⟩) wn wn]) (w.heap.size + 1) 0 [.int .i64 cy, .int .i64 kd, .int .i64 at_, .int .i64 hd, .slice (some ⟨N2, 0, none⟩) wn wn])) := setAll_below (by omega) _ _ (setAll_below (by omega) _ _ HB3.out)
  have HG4 : Hid (GSegL 1 (w.heap.size + 3) (setAll (setAll w2 (w.heap.size + 2) 4 [.slice (some ⟨N2, 0, none⟩) wn wn]) (w.heap.size + 1) 0 [.int .i64 cy, .int .i64 kd, .int .i64 at_, .int .i64 hd, .slice (some ⟨N2, 0, none⟩) wn wn]) (some ⟨N2, 0, none⟩) wn (unX p.ws)) := (HGB.out.setAll _ (by omega)).setAll _ (by omega)
  have KO4 : Bk (w2.setCell ⟨w.heap.size + 2, 4, none⟩ (.slice (some ⟨N2, 0, none⟩) wn wn)) (w.heap.size + 2) #[.int .i64 cy, .int .i64 kd, .int .i64 at_, .int .i64 hd, .slice (some ⟨N2, 0, none⟩) wn wn] := KO3.out.set 4 _ (by simp) rfl
  have KR4 : Bk (w2.setCell ⟨w.heap.size + 2, 4, none⟩ (.slice (some ⟨N2, 0, none⟩) wn wn)) (w.heap.size + 1) #[.int .i64 0, .int .i64 0, .int .i64 0, .int .i64 0, .slice none 0 0] := KR3.out.other _ _ _ (by omega)
  have HK : Hid (CellsAt (setAll (setAll w2 (w.heap.size + 2) 4 [.slice (some ⟨N2, 0, none⟩) wn wn]) (w.heap.size + 1) 0 [.int .i64 cy, .int .i64 kd, .int .i64 at_, .int .i64 hd, .slice (some ⟨N2, 0, none⟩) wn wn]) (w.heap.size + 1) 0 [.int .i64 cy, .int .i64 kd, .int .i64 at_, .int .i64 hd, .slice (some ⟨N2, 0, none⟩) wn wn]) := setAll_cells _ _ _ _ (fun j hj => by
    rw [Nat.zero_add]
    have hj' : j < 5 := hj
    match j, hj' with
    | 0, _ => exact ⟨_, KR4.cell 0 _ rfl⟩
    | 1, _ => exact ⟨_, KR4.cell 1 _ rfl⟩
    | 2, _ => exact ⟨_, KR4.cell 2 _ rfl⟩
    | 3, _ => exact ⟨_, KR4.cell 3 _ rfl⟩
    | 4, _ => exact ⟨_, KR4.cell 4 _ rfl⟩)
  have r4 : w2.cell? ⟨w.heap.size + 2, 4, none⟩ = some (.slice none 0 0) := KO3.out.cell 4 _ rfl
  have rf := KO3.out.free
  have t0 := KO4.cell 0 _ rfl
  have t1 := KO4.cell 1 _ rfl
  have t2 := KO4.cell 2 _ rfl
  have t3 := KO4.cell 3 _ rfl
  have t4 := KO4.cell 4 _ rfl
  have z0 := KR4.cell 0 _ rfl
  have z1 := KR4.cell 1 _ rfl
  have z2 := KR4.cell 2 _ rfl
  have z3 := KR4.cell 3 _ rfl
  have z4 := KR4.cell 4 _ rfl
  have zf := KR4.free
  clear KO4 KR4 KO3 KR3 HB3 HGB
  go_wp2
  clear t0 t1 t2 t3 t4 z0 z1 z2 z3 z4 zf r4 rf
  have k9 := HK.out
  have hb9 := HB4.out
  have hg9 := HG4.out
  clear HK HB4 HG4
  simp only [setAll] at k9 hb9 hg9
  revert k9 hb9 hg9
  generalize (((((w2.setCell ⟨w.heap.size + 2, 4, none⟩ (.slice (some ⟨N2, 0, none⟩) wn wn)).setCell ⟨w.heap.size + 1, 0, none⟩ (.int .i64 cy)).setCell ⟨w.heap.size + 1, 1, none⟩ (.int .i64 kd)).setCell ⟨w.heap.size + 1, 2, none⟩ (.int .i64 at_)).setCell ⟨w.heap.size + 1, 3, none⟩ (.int .i64 hd)).setCell ⟨w.heap.size + 1, 4, none⟩ (.slice (some ⟨N2, 0, none⟩) wn wn) = Wf
  intro k9 hb9 hg9
  have q0 : Wf.cell? ⟨w.heap.size + 1, 0, none⟩ = some (.int .i64 cy) := k9 0 _ rfl
  have q1 : Wf.cell? ⟨w.heap.size + 1, 1, none⟩ = some (.int .i64 kd) := k9 1 _ rfl
  have q2 : Wf.cell? ⟨w.heap.size + 1, 2, none⟩ = some (.int .i64 at_) := k9 2 _ rfl
  have q3 : Wf.cell? ⟨w.heap.size + 1, 3, none⟩ = some (.int .i64 hd) := k9 3 _ rfl
  have q4 : Wf.cell? ⟨w.heap.size + 1, 4, none⟩ = some (.slice (some ⟨N2, 0, none⟩) wn wn) := k9 4 _ rfl
  exact bodyPost_ret (v := frV ⟨cy, kd, at_, hd, some ⟨N2, 0, none⟩, wn, wn⟩) (by simp [results, Tryz.results32, go_sem, q0, q1, q2, q3, q4]) rfl
    ⟨⟨cy, kd, at_, hd, some ⟨N2, 0, none⟩, wn, wn⟩, rfl, hb9, HG.out.cy, HG.out.kd, HG.out.at_, HG.out.hd, HG.out.ln, Nat.le_refl _, hg9.wide (by omega)⟩
theorem fr_info : (Tryz.prog.info? 67).map (fun i => (i.zero, i.size, i.bytes)) = some (some (.agg #[.int .i64 0, .int .i64 0, .int .i64 0, .int .i64 0, .slice none 0 0]), 5, 56) := by kernel_rfl
theorem fr_make (n : Nat) (hn : n ≤ 1048576) (w : World) : (Instr.makeSlice 44 (.int .i64 (n : Int)) (.int .i64 (n : Int))).run Tryz.prog w = .ok (.slice (some ⟨w.heap.size, 0, none⟩) n n) (w.alloc (.cells (madeCells #[.int .i64 0, .int .i64 0, .int .i64 0, .int .i64 0, .slice none 0 0] (n * 5)) 67)) := by
  obtain ⟨i, hi, hzz⟩ := Option.map_eq_some_iff.1 fr_info
  simp only [Prod.mk.injEq] at hzz
  obtain ⟨hz, hs, hb⟩ := hzz
  have := run_make (P := Tryz.prog) w 44 67 i _ Tryz.underlying44 hi hz .i64 .i64 n n (by omega) (Int.le_refl _) (by rw [hb]; omega) (by omega)
  rw [hs, Int.toNat_natCast] at this
  exact this
/-- The cells of the first m partitions, and of one more. -/
def fmore (Y : Nat → Fr) (m : Nat) (y : Fr) : Nat → Fr := fun i => if i = m then y else Y i
theorem fmore_at (Y : Nat → Fr) (m : Nat) (y : Fr) : fmore Y m y m = y := by simp [fmore]
theorem fmore_lt (Y : Nat → Fr) (m : Nat) (y : Fr) (i : Nat) (h : i < m) : fmore Y m y i = Y i := by unfold fmore; rw [if_neg (by omega)]
set_option maxRecDepth 20000 in
set_option maxHeartbeats 4000000 in
theorem to_feeds (a : Option Addr) (cap n : Nat) (ps : List Fd) (Y : Nat → Fr) (w : World) (hs : FSegL 0 w a n ps Y) (hn : n ≤ 1048576) (hw : ∀ i, i < n → (Y i).wn ≤ 1048576) :
    Calls Tryz.prog 9 #[.slice a n cap] w fun e w' => e = .returned (.slice (some ⟨w.heap.size, 0, none⟩) n n) ∧ Below w.heap.size w w' ∧ ∃ Y', FSegL w.heap.size w' (some ⟨w.heap.size, 0, none⟩) n ps Y' := by
  have hmk := fr_make n hn
  have HS : Hid (FSegL 0 w a n ps Y) := hs
  have HW : Hid (∀ i, i < n → (Y i).wn ≤ 1048576) := hw
  clear hs hw
  go_enter Tryz.func9, Tryz.ntmps9
  go_wp2
  go_loopw [4] (fun i wr => ∃ k : Nat, k ≤ n ∧ i = .int .i64 k ∧ Hid (Below w.heap.size w wr ∧ ∃ Z : Nat → Fr, GBlk 5 wr w.heap.size n k (fun i => frL (Z i)) ∧ ∀ i, i < k → FGood (w.heap.size + 1) wr (Z i) (ps.getD i fd0))) (fun i _ => n - (intOf i).toNat)
  case atStart => exact ⟨0, by omega, rfl, (Below.refl _ _).alloc (Nat.le_refl _) _, Y, GBlk.made 5 w n 67 _ _ rfl, fun i hi => absurd hi (by omega)⟩
  case round =>
    obtain ⟨k, hk, rfl, HB⟩ := hrel
    by_cases hlt : k < n
    · have hlt' : (k : Int) < (n : Int) := by omega
      obtain ⟨b1, o1, rfl, hbl1, p1⟩ := HS.out.1.seg.at k hlt
      obtain ⟨hb, Z, hZ, hgd⟩ := HB.out
      replace p1 := p1.of (w' := wr) (fun i => hb.cell (p := ⟨b1, i, none⟩) hbl1)
      have HTP : Hid (∀ X, Below w.heap.size w X → Calls Tryz.prog 32 #[frV (Y k)] X fun e w' => ∃ y', e = .returned (frV y') ∧ Below X.heap.size X w' ∧ FGood X.heap.size w' y' (ps.getD k fd0)) := fun X hX => to_feed (Y k) (ps.getD k fd0) X ((HS.out.2 k hlt).below hX) (HW.out k hlt)
      obtain ⟨c0, c1, c2, c3, c4⟩ := fr_cells p1
      generalize Y k = y at c0 c1 c2 c3 c4 HTP
      obtain ⟨cy, kd, at_, hd, wa, wn, wc⟩ := y
      simp only [frV] at c0 c1 c2 c3 c4 HTP
      have HZ : Hid (GBlk 5 wr w.heap.size n k (fun i => frL (Z i)) ∧ ∀ i, i < k → FGood (w.heap.size + 1) wr (Z i) (ps.getD i fd0)) := ⟨hZ, hgd⟩
      have HBB : Hid (Below w.heap.size w wr) := hb
      clear hbl1 p1 hZ hgd hb HB
      go_wp2_with fail
      refine (HTP.out _ HBB.out).mono ?_
      rintro u w2 ⟨y', rfl, hbb, hgy⟩
      obtain ⟨cy, kd, at_, hd, wa, wn, wc⟩ := y'
      have hp2 := HZ.out.1.below hbb
      have hb2 := HBB.out.trans (hbb.mono HBB.out.size)
      obtain ⟨u1, hu1⟩ := hp2.room k hlt 0 (by omega)
      obtain ⟨u2, hu2⟩ := hp2.room k hlt 1 (by omega)
      obtain ⟨u3, hu3⟩ := hp2.room k hlt 2 (by omega)
      obtain ⟨u4, hu4⟩ := hp2.room k hlt 3 (by omega)
      obtain ⟨u5, hu5⟩ := hp2.room k hlt 4 (by omega)
      have hf := hp2.free
      have hsz : w.heap.size + 1 ≤ wr.heap.size := HZ.out.1.lt
      have HB3 : Hid (Below w.heap.size w (setAll w2 w.heap.size (k * 5) [.int .i64 cy, .int .i64 kd, .int .i64 at_, .int .i64 hd, .slice wa wn wc]) ∧ ∃ Z' : Nat → Fr, GBlk 5 (setAll w2 w.heap.size (k * 5) [.int .i64 cy, .int .i64 kd, .int .i64 at_, .int .i64 hd, .slice wa wn wc]) w.heap.size n (k + 1) (fun i => frL (Z' i)) ∧ ∀ i, i < k + 1 → FGood (w.heap.size + 1) (setAll w2 w.heap.size (k * 5) [.int .i64 cy, .int .i64 kd, .int .i64 at_, .int .i64 hd, .slice wa wn wc]) (Z' i) (ps.getD i fd0)) := by
        refine ⟨setAll_below (Nat.le_refl _) _ _ hb2, fmore Z k ⟨cy, kd, at_, hd, wa, wn, wc⟩, ?_, fun i hi => ?_⟩
        · exact (hp2.congr (Y := fun i => frL (fmore Z k ⟨cy, kd, at_, hd, wa, wn, wc⟩ i)) (fun i hi => by simp only [fmore_lt Z k _ i hi])).put hlt [.int .i64 cy, .int .i64 kd, .int .i64 at_, .int .i64 hd, .slice wa wn wc] rfl (by simp only [fmore_at]; rfl) (fun _ _ => rfl)
        · by_cases e : i = k
          · subst e
            rw [fmore_at]
            exact (hgy.wide hsz).setAll _ (by omega)
          · rw [fmore_lt _ _ _ _ (by omega)]
            exact ((HZ.out.2 i (by omega)).below hbb).setAll _ (by omega)
      rw [Nat.add_zero] at hu1
      have hv2 : (w2.setCell ⟨w.heap.size, k * 5, none⟩ (.int .i64 cy)).cell? ⟨w.heap.size, k * 5 + 1, none⟩ = some u2 := by rw [World.cell?_setCell_other _ _ _ _ (by simp)]; exact hu2
      have hv3 : ((w2.setCell ⟨w.heap.size, k * 5, none⟩ (.int .i64 cy)).setCell ⟨w.heap.size, k * 5 + 1, none⟩ (.int .i64 kd)).cell? ⟨w.heap.size, k * 5 + 2, none⟩ = some u3 := by rw [World.cell?_setCell_other _ _ _ _ (by simp), World.cell?_setCell_other _ _ _ _ (by simp)]; exact hu3
      have hv4 : (((w2.setCell ⟨w.heap.size, k * 5, none⟩ (.int .i64 cy)).setCell ⟨w.heap.size, k * 5 + 1, none⟩ (.int .i64 kd)).setCell ⟨w.heap.size, k * 5 + 2, none⟩ (.int .i64 at_)).cell? ⟨w.heap.size, k * 5 + 3, none⟩ = some u4 := by rw [World.cell?_setCell_other _ _ _ _ (by simp), World.cell?_setCell_other _ _ _ _ (by simp), World.cell?_setCell_other _ _ _ _ (by simp)]; exact hu4
      have hv5 : ((((w2.setCell ⟨w.heap.size, k * 5, none⟩ (.int .i64 cy)).setCell ⟨w.heap.size, k * 5 + 1, none⟩ (.int .i64 kd)).setCell ⟨w.heap.size, k * 5 + 2, none⟩ (.int .i64 at_)).setCell ⟨w.heap.size, k * 5 + 3, none⟩ (.int .i64 hd)).cell? ⟨w.heap.size, k * 5 + 4, none⟩ = some u5 := by rw [World.cell?_setCell_other _ _ _ _ (by simp), World.cell?_setCell_other _ _ _ _ (by simp), World.cell?_setCell_other _ _ _ _ (by simp), World.cell?_setCell_other _ _ _ _ (by simp)]; exact hu5
      clear hbb hp2 hb2 HZ HBB HTP c0 c1 c2 c3 c4 hgy
      go_wp2
      go_roundw
      case rel => exact ⟨k + 1, by omega, by go_num, HB3⟩
      case measure => simp [intOf]; omega
    · obtain rfl : k = n := by omega
      go_wp2
      go_ret
      obtain ⟨hb, Z, hZ, hgd⟩ := HB.out
      exact ⟨rfl, hb, Z, hZ.segL _ (Nat.le_refl _), fun i hi => FGood.wide (lo' := w.heap.size) (hgd i hi) (by omega)⟩
set_option maxRecDepth 20000 in
set_option maxHeartbeats 4000000 in
theorem eq_feed (y z : Fr) (p : Fd) (w : World) (hy : FGood 0 w y p) (hz : FGood 0 w z p) (hn : y.wn ≤ 1048576) :
    Calls Tryz.prog 46 #[frV y, frV z] w fun e w' => e = .returned (.bool true) ∧ Below w.heap.size w w' := by
  obtain ⟨cy, kd, at_, hd, wa, wn, wc⟩ := y
  obtain ⟨cy', kd', at_', hd', va, vn, vc⟩ := z
  have e1 : cy' = cy := hz.cy.trans hy.cy.symm
  have e2 : kd' = kd := hz.kd.trans hy.kd.symm
  have e3 : at_' = at_ := hz.at_.trans hy.at_.symm
  have e4 : hd' = hd := hz.hd.trans hy.hd.symm
  have e5 : vn = wn := by have h1 : p.ws.length = vn := hz.ln; have h2 : p.ws.length = wn := hy.ln; omega
  subst e1 e2 e3 e4 e5
  simp only [frV]
  have HT : Hid (∀ X, Below w.heap.size w X → Calls Tryz.prog 79 #[.slice wa vn wc, .slice va vn vc] X fun e w' => e = .returned (.bool true) ∧ Below X.heap.size X w') := fun X hX => un_eqs wa va wc vc vn p.ws X (hy.sg.below hX).seg (hz.sg.below hX).seg hn
  clear hy hz hn
  have HB0 : Hid (Below w.heap.size w ((w.alloc (.cells #[.int .i64 cy', .int .i64 kd', .int .i64 at_', .int .i64 hd', .slice wa vn wc] 67)).alloc (.cells #[.int .i64 cy', .int .i64 kd', .int .i64 at_', .int .i64 hd', .slice va vn vc] 67))) := ((Below.refl _ _).alloc (Nat.le_refl _) _).alloc (by simp) _
  go_enter Tryz.func46, Tryz.ntmps46
  go_wp2_with fail
  refine (HT.out _ HB0.out).mono ?_
  rintro e2 w2 ⟨rfl, hb2⟩
  have HB2 : Hid (Below w.heap.size w w2) := HB0.out.trans (hb2.mono HB0.out.size)
  clear hb2 HB0
  go_wp2
  go_ret
  exact ⟨rfl, HB2.out⟩
set_option maxRecDepth 20000 in
set_option maxHeartbeats 4000000 in
theorem eq_feeds (a b : Option Addr) (ca cb n : Nat) (ps : List Fd) (Y Z : Nat → Fr) (w : World) (ha : FSegL 0 w a n ps Y) (hb : FSegL 0 w b n ps Z) (hn : n ≤ 1048576) (hw : ∀ i, i < n → (Y i).wn ≤ 1048576) :
    Calls Tryz.prog 12 #[.slice a n ca, .slice b n cb] w fun e w' => e = .returned (.bool true) ∧ Below w.heap.size w w' := by
  have HA : Hid (FSegL 0 w a n ps Y ∧ FSegL 0 w b n ps Z) := And.intro ha hb
  have HW : Hid (∀ i, i < n → (Y i).wn ≤ 1048576) := hw
  clear ha hb hw
  go_enter Tryz.func12, Tryz.ntmps12
  go_wp2
  go_loopw [5] (fun i wr => ∃ k : Nat, k ≤ n ∧ i = .int .i64 k ∧ Hid (Below w.heap.size w wr)) (fun i _ => n - (intOf i).toNat)
  case atStart => exact ⟨0, by omega, rfl, Below.refl _ _⟩
  case round =>
    obtain ⟨k, hk, rfl, HB⟩ := hrel
    by_cases hlt : k < n
    · have hlt' : (k : Int) < (n : Int) := by omega
      obtain ⟨b1, o1, rfl, hbl1, p1⟩ := HA.out.1.1.seg.at k hlt
      obtain ⟨b2, o2, rfl, hbl2, p2⟩ := HA.out.2.1.seg.at k hlt
      have hb := HB.out
      replace p1 := p1.of (w' := wr) (fun i => hb.cell (p := ⟨b1, i, none⟩) hbl1)
      replace p2 := p2.of (w' := wr) (fun i => hb.cell (p := ⟨b2, i, none⟩) hbl2)
      have HE : Hid (∀ X, Below w.heap.size w X → Calls Tryz.prog 46 #[frV (Y k), frV (Z k)] X fun e w' => e = .returned (.bool true) ∧ Below X.heap.size X w') := fun X hX => eq_feed (Y k) (Z k) (ps.getD k fd0) X ((HA.out.1.2 k hlt).below hX) ((HA.out.2.2 k hlt).below hX) (HW.out k hlt)
      obtain ⟨c0, c1, c2, c3, c4⟩ := fr_cells p1
      obtain ⟨d0, d1, d2, d3, d4⟩ := fr_cells p2
      generalize Y k = y at c0 c1 c2 c3 c4 HE
      generalize Z k = z at d0 d1 d2 d3 d4 HE
      obtain ⟨cy, kd, at_, hd, wa, wn, wc⟩ := y
      obtain ⟨cy', kd', at_', hd', va, vn, vc⟩ := z
      simp only [frV] at c0 c1 c2 c3 c4 d0 d1 d2 d3 d4 HE
      replace hb : Hid (Below w.heap.size w wr) := hb
      have HE2 : Hid (∀ x : Gr wr, Calls Tryz.prog 46 #[.agg #[.int .i64 cy, .int .i64 kd, .int .i64 at_, .int .i64 hd, .slice wa wn wc], .agg #[.int .i64 cy', .int .i64 kd', .int .i64 at_', .int .i64 hd', .slice va vn vc]] x.w fun e w' => e = .returned (.bool true) ∧ Below x.w.heap.size x.w w') := fun x => HE.out _ (hb.out.trans (x.h.mono hb.out.size))
      clear hbl1 hbl2 HB p1 p2 HE
      replace c0 := fun X => gr_cell c0 X
      replace c1 := fun X => gr_cell c1 X
      replace c2 := fun X => gr_cell c2 X
      replace c3 := fun X => gr_cell c3 X
      replace c4 := fun X => gr_cell c4 X
      replace d0 := fun X => gr_cell d0 X
      replace d1 := fun X => gr_cell d1 X
      replace d2 := fun X => gr_cell d2 X
      replace d3 := fun X => gr_cell d3 X
      replace d4 := fun X => gr_cell d4 X
      go_wp2
      have hgr := gr_some wr
      refine region_alike (by kernel_rfl) (by kernel_rfl) ?_
      repeat (go_big_quiet_step (first | (go_at_call 46; exact gr_call (HE2.out _))))
      refine wpQuiet_nil ?_
      intro _ hw'
      obtain ⟨X1, rfl⟩ := hw'
      have hb2 := X1.h
      generalize X1.w = W1 at hb2 ⊢
      have HB2 : Hid (Below w.heap.size w W1) := hb.out.trans (hb2.mono hb.out.size)
      clear hb2 c0 c1 c2 c3 c4 d0 d1 d2 d3 d4
      go_wp2
      go_roundw
      case rel => exact ⟨k + 1, by omega, by go_num, HB2⟩
      case measure => simp [intOf]; omega
    · go_wp2
      go_ret
      exact ⟨rfl, HB.out⟩
set_option maxRecDepth 20000 in
theorem sz_feed (y : Fr) (L : Nat) (w : World) (hn : y.wn ≤ 9223372036854775807) (hL : L ≤ 1048576) :
    Calls Tryz.prog 22 #[frV y, .int .i64 (L : Int)] w fun e w' => (∃ r : Int, e = .returned (.int .i64 r) ∧ (r = -1 ∨ ∃ d : Nat, r = (d : Int) ∧ d ≤ L ∧ y.wn ≤ L)) ∧ Below w.heap.size w w' := by
  obtain ⟨cy, kd, at_, hd, wa, wn, wc⟩ := y
  simp only [frV] at hn ⊢
  have HB : Hid (Below w.heap.size w (w.alloc (.cells #[.int .i64 cy, .int .i64 kd, .int .i64 at_, .int .i64 hd, .slice wa wn wc] 63))) := (Below.refl _ _).alloc (Nat.le_refl _) _
  go_enter Tryz.func22, Tryz.ntmps22
  go_wp2_with fail
  refine (un_sz wa wc wn L _ hn hL).mono ?_
  rintro e1 w1 ⟨⟨r, rfl, hr⟩, rfl⟩
  rcases hr with rfl | ⟨hr, hle⟩
  · go_wp2
    go_ret
    exact ⟨⟨_, rfl, .inl rfl⟩, HB.out⟩
  · have hr0 : ¬ (r < 0) := by omega
    have HR : Hid (∃ d' : Nat, r = (d' : Int) ∧ d' ≤ L ∧ wn ≤ L) := ⟨L - wn, hr, by omega, by omega⟩
    clear hr
    go_wp2
    go_ret
    exact ⟨⟨_, rfl, .inr HR.out⟩, HB.out⟩
set_option maxRecDepth 20000 in
set_option maxHeartbeats 4000000 in
theorem sz_feeds (a : Option Addr) (cap n L : Nat) (Y : Nat → Fr) (w : World) (hs : GSeg 5 w a n (fun i => frL (Y i))) (hn : n ≤ 9223372036854775807) (hL : L ≤ 1048576) (hw : ∀ i, i < n → (Y i).wn ≤ 9223372036854775807) :
    Calls Tryz.prog 6 #[.slice a n cap, .int .i64 (L : Int)] w fun e w' => (∃ r : Int, e = .returned (.int .i64 r) ∧ (r = -1 ∨ ∃ d : Nat, r = (d : Int) ∧ d ≤ 1048576 ∧ n ≤ 1048576 ∧ ∀ i, i < n → (Y i).wn ≤ 1048576)) ∧ Below w.heap.size w w' := by
  have HS : Hid (GSeg 5 w a n (fun i => frL (Y i))) := hs
  have HW : Hid (∀ i, i < n → (Y i).wn ≤ 9223372036854775807) := hw
  clear hs hw
  by_cases h : n ≤ L
  rotate_left
  · have hw : IntKind.i64.wrap ((L : Int) - (n : Int)) = (L : Int) - (n : Int) := by rw [IntKind.wrap_i64]; omega
    have h0 : (L : Int) - (n : Int) < 0 := by omega
    go_enter Tryz.func6, Tryz.ntmps6
    go_wp2
    go_ret
    exact ⟨⟨_, rfl, .inl rfl⟩, Below.refl _ _⟩
  obtain ⟨d, rfl⟩ : ∃ d, L = n + d := ⟨L - n, by omega⟩
  have hw : IntKind.i64.wrap (((n + d : Nat) : Int) - (n : Int)) = (d : Int) := by rw [show ((n + d : Nat) : Int) - (n : Int) = (d : Int) by omega, IntKind.wrap_i64]; omega
  have h0 : ¬ ((d : Int) < 0) := by omega
  go_enter Tryz.func6, Tryz.ntmps6
  go_wp2
  go_loopw [1, 5] (fun t i wr => ∃ k D : Nat, k ≤ n ∧ D ≤ 1048576 ∧ i = .int .i64 k ∧ t = .int .i64 (D : Int) ∧ Hid (Below w.heap.size w wr ∧ ∀ i, i < k → (Y i).wn ≤ 1048576)) (fun _ i _ => n - (intOf i).toNat)
  case atStart => exact ⟨0, d, by omega, by omega, rfl, congrArg (Value.int .i64) (by omega), Below.refl _ _, fun i hi => absurd hi (by omega)⟩
  case round =>
    obtain ⟨k, D, hk, hD, rfl, rfl, HB⟩ := hrel
    by_cases hlt : k < n
    · have hlt' : (k : Int) < (n : Int) := by omega
      obtain ⟨b1, o1, rfl, hbl1, p1⟩ := HS.out.at k hlt
      have hb := HB.out.1
      replace p1 := p1.of (w' := wr) (fun i => hb.cell (p := ⟨b1, i, none⟩) hbl1)
      have HZ : Hid _ := fun X => sz_feed (Y k) D X (HW.out k hlt) hD
      have HM : Hid (∀ q1, (Y k).wn = q1 → q1 ≤ 1048576 → ∀ i, i < k + 1 → (Y i).wn ≤ 1048576) := fun q1 e1 g1 i hi => by
        by_cases e : i = k
        · subst e; rw [e1]; exact g1
        · exact HB.out.2 i (by omega)
      obtain ⟨c0, c1, c2, c3, c4⟩ := fr_cells p1
      generalize Y k = y at c0 c1 c2 c3 c4 HZ HM
      obtain ⟨cy, kd, at_, hd, wa, wn, wc⟩ := y
      simp only [frV] at c0 c1 c2 c3 c4 HZ HM
      have HBB : Hid (Below w.heap.size w wr) := hb
      clear hbl1 p1 hb HB
      go_wp2_with fail
      refine (HZ.out _).mono ?_
      rintro e1 w1 ⟨⟨r, rfl, hr⟩, hb1⟩
      have HB1 : Hid (Below w.heap.size w w1) := HBB.out.trans (hb1.mono HBB.out.size)
      clear hb1 HBB HZ c0 c1 c2 c3 c4
      rcases hr with rfl | ⟨d', rfl, hd2, hwn⟩
      · go_wp2
        go_ret
        exact ⟨⟨_, rfl, .inl rfl⟩, HB1.out⟩
      · have hr0 : ¬ ((d' : Int) < 0) := by omega
        have HM2 : Hid _ := HM.out wn rfl (by omega)
        clear HM hwn
        go_wp2
        go_roundw
        case rel => exact ⟨k + 1, d', by omega, by omega, by go_num, rfl, HB1.out, HM2.out⟩
        case measure => simp [intOf]; omega
    · obtain rfl : k = n := by omega
      go_wp2
      go_ret
      exact ⟨⟨_, rfl, .inr ⟨D, rfl, hD, by omega, HB.out.2⟩⟩, HB.out.1⟩
theorem fd_list5 {α : Type} {cs : List α} (h : cs.length = 5) : ∃ c0 c1 c2 c3 c4, cs = [c0, c1, c2, c3, c4] := by
  match cs, h with
  | [c0, c1, c2, c3, c4], _ => exact ⟨c0, c1, c2, c3, c4, rfl⟩
theorem fd_lcells : Tryz.prog.cellsOf 63 = 5 := by kernel_rfl
theorem fd_cellsW : Tryz.prog.cellsOf 61 = 1 := by kernel_rfl
end Go.Proofs.YtiheojmknhgjfaaGreatDoor
