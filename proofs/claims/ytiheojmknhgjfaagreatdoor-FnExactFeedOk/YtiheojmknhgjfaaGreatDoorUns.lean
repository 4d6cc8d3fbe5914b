
/-
  Lists of words of 32 bits in memory: copies, likeness, the measure; how a list that came in is read. Conditions: lengths are at most 1048576 where a copy is made.
-/
import Derived.Test.YtiheojmknhgjfaaGreatDoorBas
import Derived.Test.YtiheojmknhgjfaaGreatDoorGen
import Derived.BigQuiet
import Derived.Lib.SmallJoins
namespace Go.Proofs.YtiheojmknhgjfaaGreatDoor
open Go.ChangeShapes Go.WideShapes Go.ChangeAt Go.RowKit Go.Deep Go.Joins
set_option linter.unusedVariables false

def unX (zs : List Int) : Nat → List Value := fun i => [.int .u32 (zs.getD i 0)]
theorem un_cell {w : World} {b o : Nat} {z : Int} (h : CellsAt w b o [.int .u32 z]) : w.cell? ⟨b, o, none⟩ = some (.int .u32 z) := h 0 _ rfl
theorem un_info : (Tryz.prog.info? 87).map (fun i => (i.zero, i.size, i.bytes)) = some (some (.int .u32 0), 1, 4) := by kernel_rfl
theorem un_make (n : Nat) (hn : n ≤ 1048576) (w : World) : (Instr.makeSlice 61 (.int .i64 (n : Int)) (.int .i64 (n : Int))).run Tryz.prog w = .ok (.slice (some ⟨w.heap.size, 0, none⟩) n n) (w.alloc (.cells (madeCells #[.int .u32 0] n) 87)) := by
  obtain ⟨i, hi, hzz⟩ := Option.map_eq_some_iff.1 un_info
  simp only [Prod.mk.injEq] at hzz
  obtain ⟨hz, hs, hb⟩ := hzz
  have := run_make (P := Tryz.prog) w 61 87 i _ Tryz.underlying61 hi hz .i64 .i64 n n (by omega) (Int.le_refl _) (by rw [hb]; omega) (by omega)
  rw [hs, Int.toNat_natCast, Nat.mul_one] at this
  exact this
set_option maxHeartbeats 2000000 in
theorem un_eqs (a b : Option Addr) (ca cb n : Nat) (zs : List Int) (w : World) (ha : GSeg 1 w a n (unX zs)) (hb : GSeg 1 w b n (unX zs)) (hn : n ≤ 1048576) :
    Calls Tryz.prog 79 #[.slice a n ca, .slice b n cb] w fun e w' => e = .returned (.bool true) ∧ Below w.heap.size w w' := by
  have HA : Hid (GSeg 1 w a n (unX zs) ∧ GSeg 1 w b n (unX zs)) := And.intro ha hb
  clear ha hb
  go_enter Tryz.func79, Tryz.ntmps79
  go_wp2
  go_loopw [5] (fun i wr => ∃ k : Nat, k ≤ n ∧ i = .int .i64 k ∧ Hid (Below w.heap.size w wr)) (fun i _ => n - (intOf i).toNat)
  case atStart => exact ⟨0, by omega, rfl, Below.refl _ _⟩
  case round =>
    obtain ⟨k, hk, rfl, HB⟩ := hrel
    by_cases hlt : k < n
    · have hlt' : (k : Int) < (n : Int) := by omega
      obtain ⟨b1, o1, rfl, hbl1, p1⟩ := HA.out.1.at k hlt
      obtain ⟨b2, o2, rfl, hbl2, p2⟩ := HA.out.2.at k hlt
      have hb := HB.out
      replace p1 := p1.of (w' := wr) (fun i => hb.cell (p := ⟨b1, i, none⟩) hbl1)
      replace p2 := p2.of (w' := wr) (fun i => hb.cell (p := ⟨b2, i, none⟩) hbl2)
      rw [Nat.mul_one] at p1 p2
      have c0 := un_cell p1
      have d0 := un_cell p2
      generalize zs.getD k 0 = z at c0 d0
      have hzz : (z != z) = false := by simp
      replace hb : Hid (Below w.heap.size w wr) := hb
      clear hbl1 hbl2 HB p1 p2
      replace c0 := fun X => gr_cell c0 X
      replace d0 := fun X => gr_cell d0 X
      go_wp2
      have hgr := gr_some wr
      refine region_alike (by kernel_rfl) (by kernel_rfl) ?_
      repeat (go_big_quiet_step (fail))
      refine wpQuiet_nil ?_
      intro _ hw'
      obtain ⟨X1, rfl⟩ := hw'
      have hb2 := X1.h
      generalize X1.w = W1 at hb2 ⊢
      have HB2 : Hid (Below w.heap.size w W1) := hb.out.trans (hb2.mono hb.out.size)
      clear hb2 c0 d0
      go_wp2
      go_roundw
      case rel => exact ⟨k + 1, by omega, by go_num, HB2⟩
      case measure => simp [intOf]; omega
    · go_wp2
      go_ret
      exact ⟨rfl, HB.out⟩
set_option maxHeartbeats 1000000 in
theorem un_tos (a : Option Addr) (cap n : Nat) (zs : List Int) (w : World) (hs : GSeg 1 w a n (unX zs)) (hn : n ≤ 1048576) :
    Calls Tryz.prog 66 #[.slice a n cap] w fun e w' => e = .returned (.slice (some ⟨w.heap.size, 0, none⟩) n n) ∧ Below w.heap.size w w' ∧ GBlk 1 w' w.heap.size n n (unX zs) := by
  have hmk := un_make n hn
  have HS : Hid (GSeg 1 w a n (unX zs)) := hs
  clear hs
  have HM : Hid (GBlk 1 (w.alloc (.cells (madeCells #[.int .u32 0] n) 87)) w.heap.size n 0 (unX zs)) := by
    have := GBlk.made 1 w n 87 #[.int .u32 0] (unX zs) rfl
    rw [Nat.mul_one] at this
    exact this
  go_enter Tryz.func66, Tryz.ntmps66
  go_wp2
  go_loopw [4] (fun i wr => ∃ k : Nat, k ≤ n ∧ i = .int .i64 k ∧ Hid (Below w.heap.size w wr ∧ GBlk 1 wr w.heap.size n k (unX zs))) (fun i _ => n - (intOf i).toNat)
  case atStart => exact ⟨0, by omega, rfl, (Below.refl _ _).alloc (Nat.le_refl _) _, HM.out⟩
  case round =>
    obtain ⟨k, hk, rfl, HB⟩ := hrel
    by_cases hlt : k < n
    · have hlt' : (k : Int) < (n : Int) := by omega
      obtain ⟨b1, o1, rfl, hbl1, p1⟩ := HS.out.at k hlt
      have hb := HB.out.1
      have hp := HB.out.2
      replace p1 := p1.of (w' := wr) (fun i => hb.cell (p := ⟨b1, i, none⟩) hbl1)
      obtain ⟨z, HP⟩ : ∃ p, Hid (zs.getD k 0 = p) := ⟨_, rfl⟩
      have HX : Hid (unX zs k = [.int .u32 z]) := by show _ = _; unfold unX; rw [HP.out]
      rw [HX.out, Nat.mul_one] at p1
      have c0 := un_cell p1
      obtain ⟨u1, hu1⟩ := hp.room k hlt 0 (by omega)
      have hf := hp.free
      have hput := hp.put hlt [.int .u32 z] rfl HX.out (fun _ _ => rfl)
      have hbl := setAll_below (n := w.heap.size) (B := w.heap.size) (Nat.le_refl _) [.int .u32 z] (k * 1) hb
      rw [Nat.mul_one] at hput hbl hu1
      rw [Nat.add_zero] at hu1
      have HB3 : Hid (Below w.heap.size w (wr.setCell ⟨w.heap.size, k, none⟩ (.int .u32 z)) ∧ GBlk 1 (wr.setCell ⟨w.heap.size, k, none⟩ (.int .u32 z)) w.heap.size n (k + 1) (unX zs)) := ⟨hbl, hput⟩
      clear hbl1 p1 hput hbl hb hp HB
      go_wp2
      go_roundw
      case rel => exact ⟨k + 1, by omega, by go_num, HB3⟩
      case measure => simp [intOf]; omega
    · obtain rfl : k = n := by omega
      go_wp2
      go_ret
      exact ⟨rfl, HB.out.1, HB.out.2⟩
theorem un_sz (a : Option Addr) (cap n L : Nat) (w : World) (hn : n ≤ 9223372036854775807) (hL : L ≤ 1048576) :
    Calls Tryz.prog 57 #[.slice a n cap, .int .i64 (L : Int)] w fun e w' => (∃ r : Int, e = .returned (.int .i64 r) ∧ (r = -1 ∨ (r = ((L - n : Nat) : Int) ∧ n ≤ L))) ∧ w' = w := by
  by_cases h : n ≤ L
  · obtain ⟨d, rfl⟩ : ∃ d, L = n + d := ⟨L - n, by omega⟩
    have hw : IntKind.i64.wrap (((n + d : Nat) : Int) - (n : Int)) = (d : Int) := by rw [show ((n + d : Nat) : Int) - (n : Int) = (d : Int) by omega, IntKind.wrap_i64]; omega
    have h0 : ¬ ((d : Int) < 0) := by omega
    go_enter Tryz.func57, Tryz.ntmps57
    go_wp2
    go_ret
    exact ⟨⟨_, rfl, by omega⟩, rfl⟩
  · have hw : IntKind.i64.wrap ((L : Int) - (n : Int)) = (L : Int) - (n : Int) := by rw [IntKind.wrap_i64]; omega
    have h0 : (L : Int) - (n : Int) < 0 := by omega
    go_enter Tryz.func57, Tryz.ntmps57
    go_wp2
    go_ret
    exact ⟨⟨_, rfl, .inl rfl⟩, rfl⟩
theorem un_cellsU : Tryz.prog.cellsOf 87 = 1 := by kernel_rfl
theorem un_open {H : Type} {enc : TypeId × Value → H} {W : World} {base : Nat} {held : Bool} {fuel : Nat} {cs : List Value} {x : DataW H × List MemPlace}
    (h : DataW.trod enc Tryz.prog W base (fun _ => true) held fuel 61 cs = some x) : ∃ a n c zs, cs = [.slice a n c] ∧ GSeg 1 W a n (unX zs) ∧ zs.length = n ∧ n ≤ 9223372036854775807 := by
  rcases open_ints Tryz.underlying61 Tryz.underlying87 un_cellsU h with ⟨rfl, _⟩ | ⟨a, l, c, zs, rfl, _, hl, hm, hz, _, hcell, hwz⟩
  · exact ⟨none, 0, 0, [], rfl, fun h => absurd h (by simp), rfl, by simp⟩
  · obtain ⟨ys, hy1, hy2, hy3⟩ := seg_of_row (k := .u32) (w := W) (a := some a) (len := l) (cap := c) (zs := zs) (.inr ⟨a, rfl, hl, hm, by simpa using hz, hcell, hwz⟩)
    have : maxLen = 9223372036854775807 := rfl
    refine ⟨some a, l, c, ys, rfl, fun h0 => ?_, hy1, by omega⟩
    obtain ⟨b, off, e, hlt, hc⟩ := hy2 (by omega)
    refine ⟨b, off, e, hlt, fun i hi j v hj => ?_⟩
    rw [Nat.mul_one]
    match j, hj with
    | 0, hj => injection hj with hj; subst hj; exact hc i (by omega)
    | j + 1, hj => simp [unX] at hj
end Go.Proofs.YtiheojmknhgjfaaGreatDoor
