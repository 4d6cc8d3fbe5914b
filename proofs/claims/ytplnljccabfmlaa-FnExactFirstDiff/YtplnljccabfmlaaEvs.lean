
/-
  Lists of events in memory: copies, likeness, the measure; how a list that came in is read. Conditions: lengths are at most 1048576 where a copy is made.
-/
import Derived.Test.YtplnljccabfmlaaBas
import Derived.Test.YtplnljccabfmlaaGen
import Derived.Test.YtplnljccabfmlaaAlk
import Derived.Deep.RegionHeld3
import Derived.Deep.RegionHeldLaw
import Derived.Deep.QuietTactic
import Derived.BigQuiet
import Derived.Deep.SlicePairs
import Derived.OwnWalk
import Derived.Lib.SmallJoins
namespace Go.Proofs.Ytplnljccabfmlaa
open Go.ChangeShapes Go.WideShapes Go.ChangeAt Go.RowKit Go.Deep Go.Joins
set_option linter.unusedVariables false

abbrev evT := Int × Int × Int × Int × Int × Int × Int
abbrev ev0 : evT := (0, 0, 0, 0, 0, 0, 0)
def evL (x : evT) : List Value := [.int .i64 x.1, .int .i64 x.2.1, .int .u32 x.2.2.1, .int .i64 x.2.2.2.1, .int .i64 x.2.2.2.2.1, .int .i64 x.2.2.2.2.2.1, .int .u32 x.2.2.2.2.2.2]
def evX (xs : List evT) : Nat → List Value := fun i => evL (xs.getD i ev0)
abbrev evV (x : evT) : Value := .agg #[.int .i64 x.1, .int .i64 x.2.1, .int .u32 x.2.2.1, .int .i64 x.2.2.2.1, .int .i64 x.2.2.2.2.1, .int .i64 x.2.2.2.2.2.1, .int .u32 x.2.2.2.2.2.2]
theorem ev_list7 {α : Type} {cs : List α} (h : cs.length = 7) : ∃ c0 c1 c2 c3 c4 c5 c6, cs = [c0, c1, c2, c3, c4, c5, c6] := by
  match cs, h with
  | [c0, c1, c2, c3, c4, c5, c6], _ => exact ⟨c0, c1, c2, c3, c4, c5, c6, rfl⟩
theorem to_ev (x1 x2 x3 x4 x5 x6 x7 : Int) (w : World) : Calls Try.prog 9 #[.agg #[.int .i64 x1, .int .i64 x2, .int .u32 x3, .int .i64 x4, .int .i64 x5, .int .i64 x6, .int .u32 x7]] w fun x w' => x = .returned (.agg #[.int .i64 x1, .int .i64 x2, .int .u32 x3, .int .i64 x4, .int .i64 x5, .int .i64 x6, .int .u32 x7]) ∧ Below w.heap.size w w' := by
  go_enter Try.func9, Try.ntmps9
  go_wp2
  exact bodyPost_ret (v := .agg #[.int .i64 x1, .int .i64 x2, .int .u32 x3, .int .i64 x4, .int .i64 x5, .int .i64 x6, .int .u32 x7]) (by simp [results, Try.results9, go_sem]) rfl ⟨rfl, (((Below.refl _ _).alloc (Nat.le_refl _) _).alloc (by simp) _).alloc (by simp; omega) _⟩
theorem ev_eq1 (x : evT) (w : World) : Calls Try.prog 10 #[evV x, evV x] w fun e w' => e = .returned (.bool true) ∧ Below w.heap.size w w' := by
  obtain ⟨x1, x2, x3, x4, x5, x6, x7⟩ := x
  simp only [evV]
  go_enter Try.func10, Try.ntmps10
  go_wp2
  go_ret
  exact ⟨rfl, ((Below.refl _ _).alloc (Nat.le_refl _) _).alloc (by simp) _⟩
theorem ev_cells {w : World} {b o : Nat} {x : evT} (h : CellsAt w b o (evL x)) : w.cell? ⟨b, o, none⟩ = some (.int .i64 x.1) ∧ w.cell? ⟨b, o + 1, none⟩ = some (.int .i64 x.2.1) ∧ w.cell? ⟨b, o + 2, none⟩ = some (.int .u32 x.2.2.1) ∧ w.cell? ⟨b, o + 3, none⟩ = some (.int .i64 x.2.2.2.1) ∧ w.cell? ⟨b, o + 4, none⟩ = some (.int .i64 x.2.2.2.2.1) ∧ w.cell? ⟨b, o + 5, none⟩ = some (.int .i64 x.2.2.2.2.2.1) ∧ w.cell? ⟨b, o + 6, none⟩ = some (.int .u32 x.2.2.2.2.2.2) :=
  ⟨h 0 _ rfl, h 1 _ rfl, h 2 _ rfl, h 3 _ rfl, h 4 _ rfl, h 5 _ rfl, h 6 _ rfl⟩
theorem ev_info : (Try.prog.info? 31).map (fun i => (i.zero, i.size, i.bytes)) = some (some (.agg #[.int .i64 0, .int .i64 0, .int .u32 0, .int .i64 0, .int .i64 0, .int .i64 0, .int .u32 0]), 7, 56) := by kernel_rfl
theorem ev_make (n : Nat) (hn : n ≤ 1048576) (w : World) : (Instr.makeSlice 25 (.int .i64 (n : Int)) (.int .i64 (n : Int))).run Try.prog w = .ok (.slice (some ⟨w.heap.size, 0, none⟩) n n) (w.alloc (.cells (madeCells #[.int .i64 0, .int .i64 0, .int .u32 0, .int .i64 0, .int .i64 0, .int .i64 0, .int .u32 0] (n * 7)) 31)) := by
  obtain ⟨i, hi, hzz⟩ := Option.map_eq_some_iff.1 ev_info
  simp only [Prod.mk.injEq] at hzz
  obtain ⟨hz, hs, hb⟩ := hzz
  have := run_make (P := Try.prog) w 25 31 i _ Try.underlying25 hi hz .i64 .i64 n n (by omega) (Int.le_refl _) (by rw [hb]; omega) (by omega)
  rw [hs, Int.toNat_natCast] at this
  exact this
set_option maxHeartbeats 2000000 in
theorem ev_eqs (a b : Option Addr) (ca cb n : Nat) (xs : List evT) (w : World) (ha : GSeg 7 w a n (evX xs)) (hb : GSeg 7 w b n (evX xs)) (hn : n ≤ 1048576) :
    Calls Try.prog 8 #[.slice a n ca, .slice b n cb] w fun e w' => e = .returned (.bool true) ∧ Below w.heap.size w w' := by
  have HA : Hid (GSeg 7 w a n (evX xs) ∧ GSeg 7 w b n (evX xs)) := And.intro ha hb
  clear ha hb
  go_enter Try.func8, Try.ntmps8
  go_wp2
  go_loopw [5] (fun i wr => ∃ k : Nat, k ≤ n ∧ i = .int .i64 k ∧ Hid (Below w.heap.size w wr)) (fun i _ => n - (intOf i).toNat)
  case atStart => exact ⟨0, by omega, rfl, Below.refl _ _⟩
  case round =>
    obtain ⟨k, hk, rfl, HB⟩ := hrel
    by_cases hlt : k < n
    · have hlt' : (k : Int) < (n : Int) := by omega
      obtain ⟨b1, o1, rfl, hbl1, p1⟩ := HA.out.1.at k hlt
      obtain ⟨b2, o2, rfl, hbl2, p2⟩ := HA.out.2.at k hlt
      have hb := HB.out
      replace p1 := p1.of (w' := wr) (fun i => hb.cell (p := ⟨b1, i, none⟩) hbl1)
      replace p2 := p2.of (w' := wr) (fun i => hb.cell (p := ⟨b2, i, none⟩) hbl2)
      simp only [evX] at p1 p2
      generalize xs.getD k ev0 = x at p1 p2
      obtain ⟨c0, c1, c2, c3, c4, c5, c6⟩ := ev_cells p1
      obtain ⟨d0, d1, d2, d3, d4, d5, d6⟩ := ev_cells p2
      have HE : Hid _ := fun X => ev_eq1 x X
      obtain ⟨x1, x2, x3, x4, x5, x6, x7⟩ := x
      simp only [evV] at c0 c1 c2 c3 c4 c5 c6 d0 d1 d2 d3 d4 d5 d6 HE
      replace hb : Hid (Below w.heap.size w wr) := hb
      clear hbl1 hbl2 HB p1 p2
      replace c0 := fun X => gr_cell c0 X
      replace c1 := fun X => gr_cell c1 X
      replace c2 := fun X => gr_cell c2 X
      replace c3 := fun X => gr_cell c3 X
      replace c4 := fun X => gr_cell c4 X
      replace c5 := fun X => gr_cell c5 X
      replace c6 := fun X => gr_cell c6 X
      replace d0 := fun X => gr_cell d0 X
      replace d1 := fun X => gr_cell d1 X
      replace d2 := fun X => gr_cell d2 X
      replace d3 := fun X => gr_cell d3 X
      replace d4 := fun X => gr_cell d4 X
      replace d5 := fun X => gr_cell d5 X
      replace d6 := fun X => gr_cell d6 X
      go_wp2
      have hgr := gr_some wr
      refine region_alike (by kernel_rfl) (by kernel_rfl) ?_
      repeat (go_big_quiet_step (first | (go_at_call 10; exact gr_call (HE.out _))))
      refine wpQuiet_nil ?_
      intro _ hw'
      obtain ⟨X1, rfl⟩ := hw'
      have hb2 := X1.h
      generalize X1.w = W1 at hb2 ⊢
      have HB2 : Hid (Below w.heap.size w W1) := hb.out.trans (hb2.mono hb.out.size)
      clear hb2 c0 c1 c2 c3 c4 c5 c6 d0 d1 d2 d3 d4 d5 d6
      go_wp2
      go_roundw
      case rel => exact ⟨k + 1, by omega, by go_num, HB2⟩
      case measure => simp [intOf]; omega
    · go_wp2
      go_ret
      exact ⟨rfl, HB.out⟩
set_option maxHeartbeats 2000000 in
theorem ev_tos (a : Option Addr) (cap n : Nat) (xs : List evT) (w : World) (hs : GSeg 7 w a n (evX xs)) (hn : n ≤ 1048576) :
    Calls Try.prog 6 #[.slice a n cap] w fun e w' => e = .returned (.slice (some ⟨w.heap.size, 0, none⟩) n n) ∧ Below w.heap.size w w' ∧ GBlk 7 w' w.heap.size n n (evX xs) := by
  have hmk := ev_make n hn
  have HS : Hid (GSeg 7 w a n (evX xs)) := hs
  clear hs
  go_enter Try.func6, Try.ntmps6
  go_wp2
  go_loopw [4] (fun i wr => ∃ k : Nat, k ≤ n ∧ i = .int .i64 k ∧ Hid (Below w.heap.size w wr ∧ GBlk 7 wr w.heap.size n k (evX xs))) (fun i _ => n - (intOf i).toNat)
  case atStart => exact ⟨0, by omega, rfl, (Below.refl _ _).alloc (Nat.le_refl _) _, GBlk.made 7 w n 31 _ _ rfl⟩
  case round =>
    obtain ⟨k, hk, rfl, HB⟩ := hrel
    by_cases hlt : k < n
    · have hlt' : (k : Int) < (n : Int) := by omega
      obtain ⟨b1, o1, rfl, hbl1, p1⟩ := HS.out.at k hlt
      have hb := HB.out.1
      replace p1 := p1.of (w' := wr) (fun i => hb.cell (p := ⟨b1, i, none⟩) hbl1)
      obtain ⟨x, HP⟩ : ∃ p, Hid (xs.getD k ev0 = p) := ⟨_, rfl⟩
      have HX : Hid (evX xs k = evL x) := by show _ = _; unfold evX; rw [HP.out]
      rw [HX.out] at p1
      obtain ⟨c0, c1, c2, c3, c4, c5, c6⟩ := ev_cells p1
      obtain ⟨x1, x2, x3, x4, x5, x6, x7⟩ := x
      simp only at c0 c1 c2 c3 c4 c5 c6
      clear hbl1 p1
      go_wp2_with fail
      refine (to_ev x1 x2 x3 x4 x5 x6 x7 _).mono ?_
      rintro u w2 ⟨rfl, hbb⟩
      have hp2 := HB.out.2.below hbb
      have hb2 := hb.trans (hbb.mono hb.size)
      obtain ⟨u1, hu1⟩ := hp2.room k hlt 0 (by omega)
      obtain ⟨u2, hu2⟩ := hp2.room k hlt 1 (by omega)
      obtain ⟨u3, hu3⟩ := hp2.room k hlt 2 (by omega)
      obtain ⟨u4, hu4⟩ := hp2.room k hlt 3 (by omega)
      obtain ⟨u5, hu5⟩ := hp2.room k hlt 4 (by omega)
      obtain ⟨u6, hu6⟩ := hp2.room k hlt 5 (by omega)
      obtain ⟨u7, hu7⟩ := hp2.room k hlt 6 (by omega)
      have hf := hp2.free
      have HB3 : Hid (Below w.heap.size w (((((((w2.setCell ⟨w.heap.size, k * 7, none⟩ (.int .i64 x1)).setCell ⟨w.heap.size, k * 7 + 1, none⟩ (.int .i64 x2)).setCell ⟨w.heap.size, k * 7 + 2, none⟩ (.int .u32 x3)).setCell ⟨w.heap.size, k * 7 + 3, none⟩ (.int .i64 x4)).setCell ⟨w.heap.size, k * 7 + 4, none⟩ (.int .i64 x5)).setCell ⟨w.heap.size, k * 7 + 5, none⟩ (.int .i64 x6)).setCell ⟨w.heap.size, k * 7 + 6, none⟩ (.int .u32 x7)) ∧ GBlk 7 (((((((w2.setCell ⟨w.heap.size, k * 7, none⟩ (.int .i64 x1)).setCell ⟨w.heap.size, k * 7 + 1, none⟩ (.int .i64 x2)).setCell ⟨w.heap.size, k * 7 + 2, none⟩ (.int .u32 x3)).setCell ⟨w.heap.size, k * 7 + 3, none⟩ (.int .i64 x4)).setCell ⟨w.heap.size, k * 7 + 4, none⟩ (.int .i64 x5)).setCell ⟨w.heap.size, k * 7 + 5, none⟩ (.int .i64 x6)).setCell ⟨w.heap.size, k * 7 + 6, none⟩ (.int .u32 x7)) w.heap.size n (k + 1) (evX xs)) :=
        ⟨setAll_below (Nat.le_refl _) [.int .i64 x1, .int .i64 x2, .int .u32 x3, .int .i64 x4, .int .i64 x5, .int .i64 x6, .int .u32 x7] (k * 7) hb2, hp2.put hlt [.int .i64 x1, .int .i64 x2, .int .u32 x3, .int .i64 x4, .int .i64 x5, .int .i64 x6, .int .u32 x7] rfl HX.out (fun _ _ => rfl)⟩
      rw [Nat.add_zero] at hu1
      have hv2 : (w2.setCell ⟨w.heap.size, k * 7, none⟩ (.int .i64 x1)).cell? ⟨w.heap.size, k * 7 + 1, none⟩ = some u2 := by rw [World.cell?_setCell_other _ _ _ _ (by simp)]; exact hu2
      have hv3 : ((w2.setCell ⟨w.heap.size, k * 7, none⟩ (.int .i64 x1)).setCell ⟨w.heap.size, k * 7 + 1, none⟩ (.int .i64 x2)).cell? ⟨w.heap.size, k * 7 + 2, none⟩ = some u3 := by rw [World.cell?_setCell_other _ _ _ _ (by simp), World.cell?_setCell_other _ _ _ _ (by simp)]; exact hu3
      have hv4 : (((w2.setCell ⟨w.heap.size, k * 7, none⟩ (.int .i64 x1)).setCell ⟨w.heap.size, k * 7 + 1, none⟩ (.int .i64 x2)).setCell ⟨w.heap.size, k * 7 + 2, none⟩ (.int .u32 x3)).cell? ⟨w.heap.size, k * 7 + 3, none⟩ = some u4 := by rw [World.cell?_setCell_other _ _ _ _ (by simp), World.cell?_setCell_other _ _ _ _ (by simp), World.cell?_setCell_other _ _ _ _ (by simp)]; exact hu4
      have hv5 : ((((w2.setCell ⟨w.heap.size, k * 7, none⟩ (.int .i64 x1)).setCell ⟨w.heap.size, k * 7 + 1, none⟩ (.int .i64 x2)).setCell ⟨w.heap.size, k * 7 + 2, none⟩ (.int .u32 x3)).setCell ⟨w.heap.size, k * 7 + 3, none⟩ (.int .i64 x4)).cell? ⟨w.heap.size, k * 7 + 4, none⟩ = some u5 := by rw [World.cell?_setCell_other _ _ _ _ (by simp), World.cell?_setCell_other _ _ _ _ (by simp), World.cell?_setCell_other _ _ _ _ (by simp), World.cell?_setCell_other _ _ _ _ (by simp)]; exact hu5
      have hv6 : (((((w2.setCell ⟨w.heap.size, k * 7, none⟩ (.int .i64 x1)).setCell ⟨w.heap.size, k * 7 + 1, none⟩ (.int .i64 x2)).setCell ⟨w.heap.size, k * 7 + 2, none⟩ (.int .u32 x3)).setCell ⟨w.heap.size, k * 7 + 3, none⟩ (.int .i64 x4)).setCell ⟨w.heap.size, k * 7 + 4, none⟩ (.int .i64 x5)).cell? ⟨w.heap.size, k * 7 + 5, none⟩ = some u6 := by rw [World.cell?_setCell_other _ _ _ _ (by simp), World.cell?_setCell_other _ _ _ _ (by simp), World.cell?_setCell_other _ _ _ _ (by simp), World.cell?_setCell_other _ _ _ _ (by simp), World.cell?_setCell_other _ _ _ _ (by simp)]; exact hu6
      have hv7 : ((((((w2.setCell ⟨w.heap.size, k * 7, none⟩ (.int .i64 x1)).setCell ⟨w.heap.size, k * 7 + 1, none⟩ (.int .i64 x2)).setCell ⟨w.heap.size, k * 7 + 2, none⟩ (.int .u32 x3)).setCell ⟨w.heap.size, k * 7 + 3, none⟩ (.int .i64 x4)).setCell ⟨w.heap.size, k * 7 + 4, none⟩ (.int .i64 x5)).setCell ⟨w.heap.size, k * 7 + 5, none⟩ (.int .i64 x6)).cell? ⟨w.heap.size, k * 7 + 6, none⟩ = some u7 := by rw [World.cell?_setCell_other _ _ _ _ (by simp), World.cell?_setCell_other _ _ _ _ (by simp), World.cell?_setCell_other _ _ _ _ (by simp), World.cell?_setCell_other _ _ _ _ (by simp), World.cell?_setCell_other _ _ _ _ (by simp), World.cell?_setCell_other _ _ _ _ (by simp)]; exact hu7
      clear hbb hp2 hb2 HB hb c0 c1 c2 c3 c4 c5 c6
      go_wp2
      go_roundw
      case rel => exact ⟨k + 1, by omega, by go_num, HB3⟩
      case measure => simp [intOf]; omega
    · obtain rfl : k = n := by omega
      go_wp2
      go_ret
      exact ⟨rfl, HB.out.1, HB.out.2⟩
theorem ev_sz (a : Option Addr) (cap n L : Nat) (w : World) (hn : n ≤ 9223372036854775807) (hL : L ≤ 1048576) :
    Calls Try.prog 4 #[.slice a n cap, .int .i64 (L : Int)] w fun e w' => (∃ r : Int, e = .returned (.int .i64 r) ∧ (r = -1 ∨ (r = ((L - n : Nat) : Int) ∧ n ≤ L))) ∧ w' = w := by
  by_cases h : n ≤ L
  · obtain ⟨d, rfl⟩ : ∃ d, L = n + d := ⟨L - n, by omega⟩
    have hw : IntKind.i64.wrap (((n + d : Nat) : Int) - (n : Int)) = (d : Int) := by rw [show ((n + d : Nat) : Int) - (n : Int) = (d : Int) by omega, IntKind.wrap_i64]; omega
    have h0 : ¬ ((d : Int) < 0) := by omega
    go_enter Try.func4, Try.ntmps4
    go_wp2
    go_ret
    exact ⟨⟨_, rfl, by omega⟩, rfl⟩
  · have hw : IntKind.i64.wrap ((L : Int) - (n : Int)) = (L : Int) - (n : Int) := by rw [IntKind.wrap_i64]; omega
    have h0 : (L : Int) - (n : Int) < 0 := by omega
    go_enter Try.func4, Try.ntmps4
    go_wp2
    go_ret
    exact ⟨⟨_, rfl, .inl rfl⟩, rfl⟩
theorem ev_lcells : Try.prog.cellsOf 33 = 7 := by kernel_rfl
theorem ev_cellsU : Try.prog.cellsOf 29 = 1 := by kernel_rfl
set_option maxRecDepth 100000 in
theorem ev_open {H : Type} {enc : TypeId × Value → H} {W : World} {base : Nat} {spare : Nat → Bool} {held : Bool} {fuel : Nat} {cs : List Value} {x : DataW H × List MemPlace}
    (h : DataW.trod enc Try.prog W base spare held fuel 22 cs = some x) : ∃ a n c xs, cs = [.slice a n c] ∧ GSeg 7 W a n (evX xs) ∧ xs.length = n ∧ n ≤ 9223372036854775807 := by
  rcases open_slice (P := Try.prog) Try.underlying22 h with ⟨rfl, _⟩ | ⟨a, len, cap, m, n, D, Pl, rfl, hb, hl, hm, hmm, rfl, hx⟩
  · exact ⟨none, 0, 0, [], rfl, fun h => absurd h (by simp), rfl, by simp⟩
  · have hlm : len ≤ m := by rw [hmm]; split <;> omega
    obtain ⟨Z, hZ⟩ := choose_lt (α := evT) (n := len) (p := fun i z => (W.cell? (a.add (i * 7)) = some (.int .i64 z.1) ∧ W.cell? (a.add (i * 7 + 1)) = some (.int .i64 z.2.1) ∧ W.cell? (a.add (i * 7 + 2)) = some (.int .u32 z.2.2.1) ∧ W.cell? (a.add (i * 7 + 3)) = some (.int .i64 z.2.2.2.1) ∧ W.cell? (a.add (i * 7 + 4)) = some (.int .i64 z.2.2.2.2.1) ∧ W.cell? (a.add (i * 7 + 5)) = some (.int .i64 z.2.2.2.2.2.1) ∧ W.cell? (a.add (i * 7 + 6)) = some (.int .u32 z.2.2.2.2.2.2))) (fun i hi => by
      obtain ⟨cs', h1, h2⟩ := hx i (by omega)
      rw [ev_lcells] at h1
      obtain ⟨_, hlen, hcell⟩ := World.cells?_some h1
      obtain ⟨xs, k, hk, hxy, _, hxl, hfs⟩ := DataW.trod_struct Try.underlying33 h2
      obtain ⟨y0, y1, y2, y3, y4, y5, y6, rfl⟩ := ev_list7 hxl
      obtain ⟨v0, v1, v2, v3, v4, v5, v6, rfl⟩ := ev_list7 hlen
      have g0 := hfs 0 _ rfl
      have g1 := hfs 1 _ rfl
      have g2 := hfs 2 _ rfl
      have g3 := hfs 3 _ rfl
      have g4 := hfs 4 _ rfl
      have g5 := hfs 5 _ rfl
      have g6 := hfs 6 _ rfl
      simp [cells3, ev_cellsU] at g0 g1 g2 g3 g4 g5 g6
      obtain ⟨b0, e0, rfl, w0⟩ := DataW.trod_int Try.underlying3 g0
      obtain ⟨b1, e1, rfl, w1⟩ := DataW.trod_int Try.underlying3 g1
      obtain ⟨b2, e2, rfl, w2⟩ := DataW.trod_int Try.underlying29 g2
      obtain ⟨b3, e3, rfl, w3⟩ := DataW.trod_int Try.underlying3 g3
      obtain ⟨b4, e4, rfl, w4⟩ := DataW.trod_int Try.underlying3 g4
      obtain ⟨b5, e5, rfl, w5⟩ := DataW.trod_int Try.underlying3 g5
      obtain ⟨b6, e6, rfl, w6⟩ := DataW.trod_int Try.underlying29 g6
      injection e0 with e0
      injection e1 with e1
      injection e2 with e2
      injection e3 with e3
      injection e4 with e4
      injection e5 with e5
      injection e6 with e6
      have c0 := hcell 0 (by omega)
      have c1 := hcell 1 (by omega)
      have c2 := hcell 2 (by omega)
      have c3 := hcell 3 (by omega)
      have c4 := hcell 4 (by omega)
      have c5 := hcell 5 (by omega)
      have c6 := hcell 6 (by omega)
      rw [add_add] at c0 c1 c2 c3 c4 c5 c6
      refine ⟨(b0, b1, b2, b3, b4, b5, b6), ?_, ?_, ?_, ?_, ?_, ?_, ?_⟩
      · simpa [e0] using c0
      · simpa [e1] using c1
      · simpa [e2] using c2
      · simpa [e3] using c3
      · simpa [e4] using c4
      · simpa [e5] using c5
      · simpa [e6] using c6)
    have hg : ∀ i, i < len → ((List.range len).map Z).getD i ev0 = Z i := fun i hi => by simp [List.getD, hi]
    refine ⟨some a, len, cap, (List.range len).map Z, rfl, fun h0 => ?_, by simp, by have : maxLen = 9223372036854775807 := rfl; omega⟩
    obtain ⟨b, off, rfl, hlt⟩ := addr_of (hZ 0 h0).1 (by omega)
    refine ⟨b, off, rfl, hlt, fun i hi => ?_⟩
    have := hZ i hi
    rw [add_plain, add_plain, add_plain, add_plain, add_plain, add_plain, add_plain, ← Nat.add_assoc, ← Nat.add_assoc, ← Nat.add_assoc, ← Nat.add_assoc, ← Nat.add_assoc, ← Nat.add_assoc] at this
    intro j v hj
    simp only [evX, hg i hi, evL] at hj
    match j, hj with
    | 0, hj => injection hj with hj; subst hj; exact this.1
    | 1, hj => injection hj with hj; subst hj; exact this.2.1
    | 2, hj => injection hj with hj; subst hj; exact this.2.2.1
    | 3, hj => injection hj with hj; subst hj; exact this.2.2.2.1
    | 4, hj => injection hj with hj; subst hj; exact this.2.2.2.2.1
    | 5, hj => injection hj with hj; subst hj; exact this.2.2.2.2.2.1
    | 6, hj => injection hj with hj; subst hj; exact this.2.2.2.2.2.2
    | j + 7, hj => simp at hj
end Go.Proofs.Ytplnljccabfmlaa
