
/-
  Lists of spans in memory: copies, likeness, the measure; how a list that came in is read. Conditions: lengths are at most 1048576 where a copy is made.
-/
import Derived.Test.YtphdijkpjjokaaaGreatDoorBas
import Derived.Test.YtphdijkpjjokaaaGreatDoorGen
import Derived.Deep.RegionHeld3
import Derived.Deep.RegionHeldLaw
import Derived.Deep.QuietTactic
import Derived.BigQuiet
import Derived.Deep.SlicePairs
import Derived.OwnWalk
import Derived.Lib.SmallJoins
namespace Go.Proofs.YtphdijkpjjokaaaGreatDoor
open Go.ChangeShapes Go.WideShapes Go.ChangeAt Go.RowKit Go.Deep Go.Joins
set_option linter.unusedVariables false

abbrev saT := Int × Int × Int × Int
abbrev sa0 : saT := (0, 0, 0, 0)
def saL (x : saT) : List Value := [.int .i64 x.1, .int .i64 x.2.1, .int .i64 x.2.2.1, .int .i64 x.2.2.2]
def saX (xs : List saT) : Nat → List Value := fun i => saL (xs.getD i sa0)
abbrev saV (x : saT) : Value := .agg #[.int .i64 x.1, .int .i64 x.2.1, .int .i64 x.2.2.1, .int .i64 x.2.2.2]
theorem sa_list4 {α : Type} {cs : List α} (h : cs.length = 4) : ∃ c0 c1 c2 c3, cs = [c0, c1, c2, c3] := by
  match cs, h with
  | [c0, c1, c2, c3], _ => exact ⟨c0, c1, c2, c3, rfl⟩
theorem to_cm (x1 x2 x3 x4 : Int) (w : World) : Calls Tryz.prog 49 #[.agg #[.int .i64 x1, .int .i64 x2, .int .i64 x3, .int .i64 x4]] w fun x w' => x = .returned (.agg #[.int .i64 x1, .int .i64 x2, .int .i64 x3, .int .i64 x4]) ∧ Below w.heap.size w w' := by
  go_enter Tryz.func49, Tryz.ntmps49
  go_wp2
  exact bodyPost_ret (v := .agg #[.int .i64 x1, .int .i64 x2, .int .i64 x3, .int .i64 x4]) (by simp [results, Tryz.results49, go_sem]) rfl ⟨rfl, (((Below.refl _ _).alloc (Nat.le_refl _) _).alloc (by simp) _).alloc (by simp; omega) _⟩
theorem sa_eq1 (x : saT) (w : World) : Calls Tryz.prog 38 #[saV x, saV x] w fun e w' => e = .returned (.bool true) ∧ Below w.heap.size w w' := by
  obtain ⟨x1, x2, x3, x4⟩ := x
  simp only [saV]
  go_enter Tryz.func38, Tryz.ntmps38
  go_wp2
  go_ret
  exact ⟨rfl, ((Below.refl _ _).alloc (Nat.le_refl _) _).alloc (by simp) _⟩
theorem sa_cells {w : World} {b o : Nat} {x : saT} (h : CellsAt w b o (saL x)) : w.cell? ⟨b, o, none⟩ = some (.int .i64 x.1) ∧ w.cell? ⟨b, o + 1, none⟩ = some (.int .i64 x.2.1) ∧ w.cell? ⟨b, o + 2, none⟩ = some (.int .i64 x.2.2.1) ∧ w.cell? ⟨b, o + 3, none⟩ = some (.int .i64 x.2.2.2) :=
  ⟨h 0 _ rfl, h 1 _ rfl, h 2 _ rfl, h 3 _ rfl⟩
theorem sa_info : (Tryz.prog.info? 64).map (fun i => (i.zero, i.size, i.bytes)) = some (some (.agg #[.int .i64 0, .int .i64 0, .int .i64 0, .int .i64 0]), 4, 32) := by kernel_rfl
theorem sa_make (n : Nat) (hn : n ≤ 1048576) (w : World) : (Instr.makeSlice 33 (.int .i64 (n : Int)) (.int .i64 (n : Int))).run Tryz.prog w = .ok (.slice (some ⟨w.heap.size, 0, none⟩) n n) (w.alloc (.cells (madeCells #[.int .i64 0, .int .i64 0, .int .i64 0, .int .i64 0] (n * 4)) 64)) := by
  obtain ⟨i, hi, hzz⟩ := Option.map_eq_some_iff.1 sa_info
  simp only [Prod.mk.injEq] at hzz
  obtain ⟨hz, hs, hb⟩ := hzz
  have := run_make (P := Tryz.prog) w 33 64 i _ Tryz.underlying33 hi hz .i64 .i64 n n (by omega) (Int.le_refl _) (by rw [hb]; omega) (by omega)
  rw [hs, Int.toNat_natCast] at this
  exact this
set_option maxHeartbeats 2000000 in
theorem sa_eqs (a b : Option Addr) (ca cb n : Nat) (xs : List saT) (w : World) (ha : GSeg 4 w a n (saX xs)) (hb : GSeg 4 w b n (saX xs)) (hn : n ≤ 1048576) :
    Calls Tryz.prog 10 #[.slice a n ca, .slice b n cb] w fun e w' => e = .returned (.bool true) ∧ Below w.heap.size w w' := by
  have HA : Hid (GSeg 4 w a n (saX xs) ∧ GSeg 4 w b n (saX xs)) := And.intro ha hb
  clear ha hb
  go_enter Tryz.func10, Tryz.ntmps10
  go_wp2
  go_loopw [5] (fun i wr => ∃ k : Nat, k ≤ n ∧ i = .int .i64 k ∧ Hid (Below w.heap.size w wr)) (fun i _ => n - (intOf i).toNat)
  case atStart => exact ⟨0, by omega, rfl, Below.refl _ _⟩
  case round =>
    obtain ⟨k, hk, rfl, HB⟩ := hrel
    by_cases hlt : k < n
    · have hlt' : (k : Int) < (n : Int) := by omega
      obtain ⟨b1, o1, rfl, hbl1, p1⟩ := HA.out.1.at k hlt
      obtain ⟨b2, o2, rfl, hbl2, p2⟩ := HA.out.2.at k hlt
      have hb := HB.out
      replace p1 := p1.of (w' := wr) (fun i => hb.cell (p := ⟨b1, i, none⟩) hbl1)
      replace p2 := p2.of (w' := wr) (fun i => hb.cell (p := ⟨b2, i, none⟩) hbl2)
      simp only [saX] at p1 p2
      generalize xs.getD k sa0 = x at p1 p2
      obtain ⟨c0, c1, c2, c3⟩ := sa_cells p1
      obtain ⟨d0, d1, d2, d3⟩ := sa_cells p2
      have HE : Hid _ := fun X => sa_eq1 x X
      obtain ⟨x1, x2, x3, x4⟩ := x
      simp only [saV] at c0 c1 c2 c3 d0 d1 d2 d3 HE
      replace hb : Hid (Below w.heap.size w wr) := hb
      clear hbl1 hbl2 HB p1 p2
      replace c0 := fun X => gr_cell c0 X
      replace c1 := fun X => gr_cell c1 X
      replace c2 := fun X => gr_cell c2 X
      replace c3 := fun X => gr_cell c3 X
      replace d0 := fun X => gr_cell d0 X
      replace d1 := fun X => gr_cell d1 X
      replace d2 := fun X => gr_cell d2 X
      replace d3 := fun X => gr_cell d3 X
      go_wp2
      have hgr := gr_some wr
      refine region_alike (by kernel_rfl) (by kernel_rfl) ?_
      repeat (go_big_quiet_step (first | (go_at_call 38; exact gr_call (HE.out _))))
      refine wpQuiet_nil ?_
      intro _ hw'
      obtain ⟨X1, rfl⟩ := hw'
      have hb2 := X1.h
      generalize X1.w = W1 at hb2 ⊢
      have HB2 : Hid (Below w.heap.size w W1) := hb.out.trans (hb2.mono hb.out.size)
      clear hb2 c0 c1 c2 c3 d0 d1 d2 d3
      go_wp2
      go_roundw
      case rel => exact ⟨k + 1, by omega, by go_num, HB2⟩
      case measure => simp [intOf]; omega
    · go_wp2
      go_ret
      exact ⟨rfl, HB.out⟩
set_option maxHeartbeats 2000000 in
theorem sa_tos (a : Option Addr) (cap n : Nat) (xs : List saT) (w : World) (hs : GSeg 4 w a n (saX xs)) (hn : n ≤ 1048576) :
    Calls Tryz.prog 17 #[.slice a n cap] w fun e w' => e = .returned (.slice (some ⟨w.heap.size, 0, none⟩) n n) ∧ Below w.heap.size w w' ∧ GBlk 4 w' w.heap.size n n (saX xs) := by
  have hmk := sa_make n hn
  have HS : Hid (GSeg 4 w a n (saX xs)) := hs
  clear hs
  go_enter Tryz.func17, Tryz.ntmps17
  go_wp2
  go_loopw [4] (fun i wr => ∃ k : Nat, k ≤ n ∧ i = .int .i64 k ∧ Hid (Below w.heap.size w wr ∧ GBlk 4 wr w.heap.size n k (saX xs))) (fun i _ => n - (intOf i).toNat)
  case atStart => exact ⟨0, by omega, rfl, (Below.refl _ _).alloc (Nat.le_refl _) _, GBlk.made 4 w n 64 _ _ rfl⟩
  case round =>
    obtain ⟨k, hk, rfl, HB⟩ := hrel
    by_cases hlt : k < n
    · have hlt' : (k : Int) < (n : Int) := by omega
      obtain ⟨b1, o1, rfl, hbl1, p1⟩ := HS.out.at k hlt
      have hb := HB.out.1
      replace p1 := p1.of (w' := wr) (fun i => hb.cell (p := ⟨b1, i, none⟩) hbl1)
      obtain ⟨x, HP⟩ : ∃ p, Hid (xs.getD k sa0 = p) := ⟨_, rfl⟩
      have HX : Hid (saX xs k = saL x) := by show _ = _; unfold saX; rw [HP.out]
      rw [HX.out] at p1
      obtain ⟨c0, c1, c2, c3⟩ := sa_cells p1
      obtain ⟨x1, x2, x3, x4⟩ := x
      simp only at c0 c1 c2 c3
      clear hbl1 p1
      go_wp2_with fail
      refine (to_cm x1 x2 x3 x4 _).mono ?_
      rintro u w2 ⟨rfl, hbb⟩
      have hp2 := HB.out.2.below hbb
      have hb2 := hb.trans (hbb.mono hb.size)
      obtain ⟨u1, hu1⟩ := hp2.room k hlt 0 (by omega)
      obtain ⟨u2, hu2⟩ := hp2.room k hlt 1 (by omega)
      obtain ⟨u3, hu3⟩ := hp2.room k hlt 2 (by omega)
      obtain ⟨u4, hu4⟩ := hp2.room k hlt 3 (by omega)
      have hf := hp2.free
      have HB3 : Hid (Below w.heap.size w ((((w2.setCell ⟨w.heap.size, k * 4, none⟩ (.int .i64 x1)).setCell ⟨w.heap.size, k * 4 + 1, none⟩ (.int .i64 x2)).setCell ⟨w.heap.size, k * 4 + 2, none⟩ (.int .i64 x3)).setCell ⟨w.heap.size, k * 4 + 3, none⟩ (.int .i64 x4)) ∧ GBlk 4 ((((w2.setCell ⟨w.heap.size, k * 4, none⟩ (.int .i64 x1)).setCell ⟨w.heap.size, k * 4 + 1, none⟩ (.int .i64 x2)).setCell ⟨w.heap.size, k * 4 + 2, none⟩ (.int .i64 x3)).setCell ⟨w.heap.size, k * 4 + 3, none⟩ (.int .i64 x4)) w.heap.size n (k + 1) (saX xs)) :=
        ⟨setAll_below (Nat.le_refl _) [.int .i64 x1, .int .i64 x2, .int .i64 x3, .int .i64 x4] (k * 4) hb2, hp2.put hlt [.int .i64 x1, .int .i64 x2, .int .i64 x3, .int .i64 x4] rfl HX.out (fun _ _ => rfl)⟩
      rw [Nat.add_zero] at hu1
      have hv2 : (w2.setCell ⟨w.heap.size, k * 4, none⟩ (.int .i64 x1)).cell? ⟨w.heap.size, k * 4 + 1, none⟩ = some u2 := by rw [World.cell?_setCell_other _ _ _ _ (by simp)]; exact hu2
      have hv3 : ((w2.setCell ⟨w.heap.size, k * 4, none⟩ (.int .i64 x1)).setCell ⟨w.heap.size, k * 4 + 1, none⟩ (.int .i64 x2)).cell? ⟨w.heap.size, k * 4 + 2, none⟩ = some u3 := by rw [World.cell?_setCell_other _ _ _ _ (by simp), World.cell?_setCell_other _ _ _ _ (by simp)]; exact hu3
      have hv4 : (((w2.setCell ⟨w.heap.size, k * 4, none⟩ (.int .i64 x1)).setCell ⟨w.heap.size, k * 4 + 1, none⟩ (.int .i64 x2)).setCell ⟨w.heap.size, k * 4 + 2, none⟩ (.int .i64 x3)).cell? ⟨w.heap.size, k * 4 + 3, none⟩ = some u4 := by rw [World.cell?_setCell_other _ _ _ _ (by simp), World.cell?_setCell_other _ _ _ _ (by simp), World.cell?_setCell_other _ _ _ _ (by simp)]; exact hu4
      clear hbb hp2 hb2 HB hb c0 c1 c2 c3
      go_wp2
      go_roundw
      case rel => exact ⟨k + 1, by omega, by go_num, HB3⟩
      case measure => simp [intOf]; omega
    · obtain rfl : k = n := by omega
      go_wp2
      go_ret
      exact ⟨rfl, HB.out.1, HB.out.2⟩
theorem sa_sz (a : Option Addr) (cap n L : Nat) (w : World) (hn : n ≤ 9223372036854775807) (hL : L ≤ 1048576) :
    Calls Tryz.prog 15 #[.slice a n cap, .int .i64 (L : Int)] w fun e w' => (∃ r : Int, e = .returned (.int .i64 r) ∧ (r = -1 ∨ (r = ((L - n : Nat) : Int) ∧ n ≤ L))) ∧ w' = w := by
  by_cases h : n ≤ L
  · obtain ⟨d, rfl⟩ : ∃ d, L = n + d := ⟨L - n, by omega⟩
    have hw : IntKind.i64.wrap (((n + d : Nat) : Int) - (n : Int)) = (d : Int) := by rw [show ((n + d : Nat) : Int) - (n : Int) = (d : Int) by omega, IntKind.wrap_i64]; omega
    have h0 : ¬ ((d : Int) < 0) := by omega
    go_enter Tryz.func15, Tryz.ntmps15
    go_wp2
    go_ret
    exact ⟨⟨_, rfl, by omega⟩, rfl⟩
  · have hw : IntKind.i64.wrap ((L : Int) - (n : Int)) = (L : Int) - (n : Int) := by rw [IntKind.wrap_i64]; omega
    have h0 : (L : Int) - (n : Int) < 0 := by omega
    go_enter Tryz.func15, Tryz.ntmps15
    go_wp2
    go_ret
    exact ⟨⟨_, rfl, .inl rfl⟩, rfl⟩
theorem sa_lcells : Tryz.prog.cellsOf 87 = 4 := by kernel_rfl
theorem sa_cellsU : Tryz.prog.cellsOf 195 = 1 := by kernel_rfl
set_option maxRecDepth 100000 in
theorem sa_open {H : Type} {enc : TypeId × Value → H} {W : World} {base : Nat} {spare : Nat → Bool} {held : Bool} {fuel : Nat} {cs : List Value} {x : DataW H × List MemPlace}
    (h : DataW.trod enc Tryz.prog W base spare held fuel 48 cs = some x) : ∃ a n c xs, cs = [.slice a n c] ∧ GSeg 4 W a n (saX xs) ∧ xs.length = n ∧ n ≤ 9223372036854775807 := by
  rcases open_slice (P := Tryz.prog) Tryz.underlying48 h with ⟨rfl, _⟩ | ⟨a, len, cap, m, n, D, Pl, rfl, hb, hl, hm, hmm, rfl, hx⟩
  · exact ⟨none, 0, 0, [], rfl, fun h => absurd h (by simp), rfl, by simp⟩
  · have hlm : len ≤ m := by rw [hmm]; split <;> omega
    obtain ⟨Z, hZ⟩ := choose_lt (α := saT) (n := len) (p := fun i z => (W.cell? (a.add (i * 4)) = some (.int .i64 z.1) ∧ W.cell? (a.add (i * 4 + 1)) = some (.int .i64 z.2.1) ∧ W.cell? (a.add (i * 4 + 2)) = some (.int .i64 z.2.2.1) ∧ W.cell? (a.add (i * 4 + 3)) = some (.int .i64 z.2.2.2))) (fun i hi => by
      obtain ⟨cs', h1, h2⟩ := hx i (by omega)
      rw [sa_lcells] at h1
      obtain ⟨_, hlen, hcell⟩ := World.cells?_some h1
      obtain ⟨xs, k, hk, hxy, _, hxl, hfs⟩ := DataW.trod_struct Tryz.underlying87 h2
      obtain ⟨y0, y1, y2, y3, rfl⟩ := sa_list4 hxl
      obtain ⟨v0, v1, v2, v3, rfl⟩ := sa_list4 hlen
      have g0 := hfs 0 _ rfl
      have g1 := hfs 1 _ rfl
      have g2 := hfs 2 _ rfl
      have g3 := hfs 3 _ rfl
      simp [cells3] at g0 g1 g2 g3
      obtain ⟨b0, e0, rfl, w0⟩ := DataW.trod_int Tryz.underlying3 g0
      obtain ⟨b1, e1, rfl, w1⟩ := DataW.trod_int Tryz.underlying3 g1
      obtain ⟨b2, e2, rfl, w2⟩ := DataW.trod_int Tryz.underlying3 g2
      obtain ⟨b3, e3, rfl, w3⟩ := DataW.trod_int Tryz.underlying3 g3
      injection e0 with e0
      injection e1 with e1
      injection e2 with e2
      injection e3 with e3
      have c0 := hcell 0 (by omega)
      have c1 := hcell 1 (by omega)
      have c2 := hcell 2 (by omega)
      have c3 := hcell 3 (by omega)
      rw [add_add] at c0 c1 c2 c3
      refine ⟨(b0, b1, b2, b3), ?_, ?_, ?_, ?_⟩
      · simpa [e0] using c0
      · simpa [e1] using c1
      · simpa [e2] using c2
      · simpa [e3] using c3)
    have hg : ∀ i, i < len → ((List.range len).map Z).getD i sa0 = Z i := fun i hi => by simp [List.getD, hi]
    refine ⟨some a, len, cap, (List.range len).map Z, rfl, fun h0 => ?_, by simp, by have : maxLen = 9223372036854775807 := rfl; omega⟩
    obtain ⟨b, off, rfl, hlt⟩ := addr_of (hZ 0 h0).1 (by omega)
    refine ⟨b, off, rfl, hlt, fun i hi => ?_⟩
    have := hZ i hi
    rw [add_plain, add_plain, add_plain, add_plain, ← Nat.add_assoc, ← Nat.add_assoc, ← Nat.add_assoc] at this
    intro j v hj
    simp only [saX, hg i hi, saL] at hj
    match j, hj with
    | 0, hj => injection hj with hj; subst hj; exact this.1
    | 1, hj => injection hj with hj; subst hj; exact this.2.1
    | 2, hj => injection hj with hj; subst hj; exact this.2.2.1
    | 3, hj => injection hj with hj; subst hj; exact this.2.2.2
    | j + 4, hj => simp at hj
end Go.Proofs.YtphdijkpjjokaaaGreatDoor
