
/-
  Lists of integers in memory: copies, likeness, the measure, whether a test holds of every one; how a list that came in is read. Conditions: lengths are at most 1048576 where a copy is made.
-/
import Derived.Test.YtphdijkpjjokaaaGreatDoorBas
import Derived.Test.YtphdijkpjjokaaaGreatDoorGen
import Derived.BigQuiet
import Derived.Lib.SmallJoins
namespace Go.Proofs.YtphdijkpjjokaaaGreatDoor
open Go.ChangeShapes Go.WideShapes Go.ChangeAt Go.RowKit Go.Deep Go.Joins
set_option linter.unusedVariables false

def inX (zs : List Int) : Nat → List Value := fun i => [.int .i64 (zs.getD i 0)]
theorem in_cell {w : World} {b o : Nat} {z : Int} (h : CellsAt w b o [.int .i64 z]) : w.cell? ⟨b, o, none⟩ = some (.int .i64 z) := h 0 _ rfl
theorem in_info : (Tryz.prog.info? 3).map (fun i => (i.zero, i.size, i.bytes)) = some (some (.int .i64 0), 1, 8) := by kernel_rfl
theorem in_make (n : Nat) (hn : n ≤ 1048576) (w : World) : (Instr.makeSlice 27 (.int .i64 (n : Int)) (.int .i64 (n : Int))).run Tryz.prog w = .ok (.slice (some ⟨w.heap.size, 0, none⟩) n n) (w.alloc (.cells (madeCells #[.int .i64 0] n) 3)) := by
  obtain ⟨i, hi, hzz⟩ := Option.map_eq_some_iff.1 in_info
  simp only [Prod.mk.injEq] at hzz
  obtain ⟨hz, hs, hb⟩ := hzz
  have := run_make (P := Tryz.prog) w 27 3 i _ Tryz.underlying27 hi hz .i64 .i64 n n (by omega) (Int.le_refl _) (by rw [hb]; omega) (by omega)
  rw [hs, Int.toNat_natCast, Nat.mul_one] at this
  exact this
set_option maxHeartbeats 2000000 in
theorem in_eqs (a b : Option Addr) (ca cb n : Nat) (zs : List Int) (w : World) (ha : GSeg 1 w a n (inX zs)) (hb : GSeg 1 w b n (inX zs)) (hn : n ≤ 1048576) :
    Calls Tryz.prog 42 #[.slice a n ca, .slice b n cb] w fun e w' => e = .returned (.bool true) ∧ Below w.heap.size w w' := by
  have HA : Hid (GSeg 1 w a n (inX zs) ∧ GSeg 1 w b n (inX zs)) := And.intro ha hb
  clear ha hb
  go_enter Tryz.func42, Tryz.ntmps42
  go_wp2
  go_loopw [5] (fun i wr => ∃ k : Nat, k ≤ n ∧ i = .int .i64 k ∧ Hid (Below w.heap.size w wr)) (fun i _ => n - (intOf i).toNat)
  case atStart => exact ⟨0, by omega, rfl, Below.refl _ _⟩
  case round =>
    obtain ⟨k, hk, rfl, HB⟩ := hrel
    by_cases hlt : k < n
    · have hlt' : (k : Int) < (n : Int) := by omega
      obtain ⟨b1, o1, rfl, hbl1, p1⟩ := HA.out.1.at k hlt
      obtain ⟨b2, o2, rfl, hbl2, p2⟩ := HA.out.2.at k hlt
      have hb := HB.out
      replace p1 := p1.of (w' := wr) (fun i => hb.cell (p := ⟨b1, i, none⟩) hbl1)
      replace p2 := p2.of (w' := wr) (fun i => hb.cell (p := ⟨b2, i, none⟩) hbl2)
      rw [Nat.mul_one] at p1 p2
      have c0 := in_cell p1
      have d0 := in_cell p2
      generalize zs.getD k 0 = z at c0 d0
      have hzz : (z != z) = false := by simp
      replace hb : Hid (Below w.heap.size w wr) := hb
      clear hbl1 hbl2 HB p1 p2
      replace c0 := fun X => gr_cell c0 X
      replace d0 := fun X => gr_cell d0 X
      go_wp2
      have hgr := gr_some wr
      refine region_alike (by kernel_rfl) (by kernel_rfl) ?_
      repeat (go_big_quiet_step (fail))
      refine wpQuiet_nil ?_
      intro _ hw'
      obtain ⟨X1, rfl⟩ := hw'
      have hb2 := X1.h
      generalize X1.w = W1 at hb2 ⊢
      have HB2 : Hid (Below w.heap.size w W1) := hb.out.trans (hb2.mono hb.out.size)
      clear hb2 c0 d0
      go_wp2
      go_roundw
      case rel => exact ⟨k + 1, by omega, by go_num, HB2⟩
      case measure => simp [intOf]; omega
    · go_wp2
      go_ret
      exact ⟨rfl, HB.out⟩
set_option maxHeartbeats 1000000 in
theorem in_tos (a : Option Addr) (cap n : Nat) (zs : List Int) (w : World) (hs : GSeg 1 w a n (inX zs)) (hn : n ≤ 1048576) :
    Calls Tryz.prog 32 #[.slice a n cap] w fun e w' => e = .returned (.slice (some ⟨w.heap.size, 0, none⟩) n n) ∧ Below w.heap.size w w' ∧ GBlk 1 w' w.heap.size n n (inX zs) := by
  have hmk := in_make n hn
  have HS : Hid (GSeg 1 w a n (inX zs)) := hs
  clear hs
  have HM : Hid (GBlk 1 (w.alloc (.cells (madeCells #[.int .i64 0] n) 3)) w.heap.size n 0 (inX zs)) := by
    have := GBlk.made 1 w n 3 #[.int .i64 0] (inX zs) rfl
    rw [Nat.mul_one] at this
    exact this
  go_enter Tryz.func32, Tryz.ntmps32
  go_wp2
  go_loopw [4] (fun i wr => ∃ k : Nat, k ≤ n ∧ i = .int .i64 k ∧ Hid (Below w.heap.size w wr ∧ GBlk 1 wr w.heap.size n k (inX zs))) (fun i _ => n - (intOf i).toNat)
  case atStart => exact ⟨0, by omega, rfl, (Below.refl _ _).alloc (Nat.le_refl _) _, HM.out⟩
  case round =>
    obtain ⟨k, hk, rfl, HB⟩ := hrel
    by_cases hlt : k < n
    · have hlt' : (k : Int) < (n : Int) := by omega
      obtain ⟨b1, o1, rfl, hbl1, p1⟩ := HS.out.at k hlt
      have hb := HB.out.1
      have hp := HB.out.2
      replace p1 := p1.of (w' := wr) (fun i => hb.cell (p := ⟨b1, i, none⟩) hbl1)
      obtain ⟨z, HP⟩ : ∃ p, Hid (zs.getD k 0 = p) := ⟨_, rfl⟩
      have HX : Hid (inX zs k = [.int .i64 z]) := by show _ = _; unfold inX; rw [HP.out]
      rw [HX.out, Nat.mul_one] at p1
      have c0 := in_cell p1
      obtain ⟨u1, hu1⟩ := hp.room k hlt 0 (by omega)
      have hf := hp.free
      have hput := hp.put hlt [.int .i64 z] rfl HX.out (fun _ _ => rfl)
      have hbl := setAll_below (n := w.heap.size) (B := w.heap.size) (Nat.le_refl _) [.int .i64 z] (k * 1) hb
      rw [Nat.mul_one] at hput hbl hu1
      rw [Nat.add_zero] at hu1
      have HB3 : Hid (Below w.heap.size w (wr.setCell ⟨w.heap.size, k, none⟩ (.int .i64 z)) ∧ GBlk 1 (wr.setCell ⟨w.heap.size, k, none⟩ (.int .i64 z)) w.heap.size n (k + 1) (inX zs)) := ⟨hbl, hput⟩
      clear hbl1 p1 hput hbl hb hp HB
      go_wp2
      go_roundw
      case rel => exact ⟨k + 1, by omega, by go_num, HB3⟩
      case measure => simp [intOf]; omega
    · obtain rfl : k = n := by omega
      go_wp2
      go_ret
      exact ⟨rfl, HB.out.1, HB.out.2⟩
theorem in_sz (a : Option Addr) (cap n L : Nat) (w : World) (hn : n ≤ 9223372036854775807) (hL : L ≤ 1048576) :
    Calls Tryz.prog 22 #[.slice a n cap, .int .i64 (L : Int)] w fun e w' => (∃ r : Int, e = .returned (.int .i64 r) ∧ (r = -1 ∨ (r = ((L - n : Nat) : Int) ∧ n ≤ L))) ∧ w' = w := by
  by_cases h : n ≤ L
  · obtain ⟨d, rfl⟩ : ∃ d, L = n + d := ⟨L - n, by omega⟩
    have hw : IntKind.i64.wrap (((n + d : Nat) : Int) - (n : Int)) = (d : Int) := by rw [show ((n + d : Nat) : Int) - (n : Int) = (d : Int) by omega, IntKind.wrap_i64]; omega
    have h0 : ¬ ((d : Int) < 0) := by omega
    go_enter Tryz.func22, Tryz.ntmps22
    go_wp2
    go_ret
    exact ⟨⟨_, rfl, by omega⟩, rfl⟩
  · have hw : IntKind.i64.wrap ((L : Int) - (n : Int)) = (L : Int) - (n : Int) := by rw [IntKind.wrap_i64]; omega
    have h0 : (L : Int) - (n : Int) < 0 := by omega
    go_enter Tryz.func22, Tryz.ntmps22
    go_wp2
    go_ret
    exact ⟨⟨_, rfl, .inl rfl⟩, rfl⟩
set_option maxRecDepth 20000 in
set_option maxHeartbeats 1000000 in
theorem in_every (a : Option Addr) (cap n : Nat) (zs : List Int) (P : Nat → Bool) (q : Bool) (fid : Nat) (pre caps : Array Value) (w : World) (hs : GSeg 1 w a n (inX zs)) (hn : n ≤ 9223372036854775807) (hen : ∀ args (v : World), (callFunc fid args).run Tryz.prog v = .ok (.enter fid args) v)
    (hf : ∀ i, i < n → ∀ X, Below w.heap.size w X → Calls Tryz.prog fid (pre.push (.int .i64 (zs.getD i 0)) ++ caps) X fun e w' => e = .returned (.bool (P i)) ∧ Below X.heap.size X w')
    (hq : q = true ↔ ∀ i, i < n → P i = true) :
    Calls Tryz.prog 61 #[.slice a n cap, .func (.func fid) pre caps] w fun e w' => e = .returned (.bool q) ∧ Below w.heap.size w w' := by
  have HQ : Hid (q = true ↔ ∀ i, i < n → P i = true) := hq
  have HS : Hid (GSeg 1 w a n (inX zs)) := hs
  have HF : Hid (∀ i, i < n → ∀ X, Below w.heap.size w X → Calls Tryz.prog fid (pre.push (.int .i64 (zs.getD i 0)) ++ caps) X fun e w' => e = .returned (.bool (P i)) ∧ Below X.heap.size X w') := hf
  clear hq hs hf
  go_enter Tryz.func61, Tryz.ntmps61
  go_wp2
  go_loopw [9] (fun i wr => ∃ m : Nat, m ≤ n ∧ i = .int .i64 m ∧ Hid (Below w.heap.size w wr ∧ ∀ j, j < m → P j = true)) (fun i _ => n - (intOf i).toNat)
  case atStart => exact ⟨0, by omega, rfl, Below.refl _ _, fun i hi => absurd hi (by omega)⟩
  case round =>
    obtain ⟨m, hm, rfl, HR⟩ := hrel
    by_cases hmn : m < n
    rotate_left
    · obtain rfl : m = n := by omega
      have HT : Hid (q = true) := HQ.out.2 HR.out.2
      go_wp2
      go_ret
      exact ⟨ret_bool HT.out.symm, HR.out.1⟩
    have hmn' : (m : Int) < (n : Int) := by omega
    obtain ⟨b1, o1, rfl, hbl1, p1⟩ := HS.out.at m hmn
    replace p1 := p1.of (w' := wr) (fun j => HR.out.1.cell (p := ⟨b1, j, none⟩) hbl1)
    have HFm : Hid _ := HF.out m hmn
    have HPm : Hid (P m = false → q = false) := fun h => not_true HQ.out (fun g => by rw [g m hmn] at h; cases h)
    have HPt : Hid (P m = true → ∀ j, j < m + 1 → P j = true) := fun h j hj => by
      by_cases e : j = m
      · subst e; exact h
      · exact HR.out.2 j (by omega)
    rw [Nat.mul_one] at p1
    have c0 := in_cell p1
    generalize zs.getD m 0 = z at c0 HFm
    generalize P m = pm at HFm HPm HPt
    have hb0 : Hid (Below w.heap.size w wr) := HR.out.1
    clear p1 hbl1
    go_wp2_with fail
    refine (HFm.out _ hb0.out).mono ?_
    rintro u w1 ⟨rfl, hb1⟩
    have HB1 : Hid (Below w.heap.size w w1) := hb0.out.trans (hb1.mono hb0.out.size)
    clear hb1 hb0 c0
    cases pm
    · have HT : Hid (q = false) := HPm.out (by trivial)
      go_wp2
      go_ret
      exact ⟨ret_bool HT.out.symm, HB1.out⟩
    · have HT : Hid _ := HPt.out (by trivial)
      go_wp2
      go_roundw
      case rel => exact ⟨m + 1, by omega, by go_num, HB1.out, HT.out⟩
      case measure => simp [intOf]; omega
theorem in_open {H : Type} {enc : TypeId × Value → H} {W : World} {base : Nat} {held : Bool} {fuel : Nat} {cs : List Value} {x : DataW H × List MemPlace}
    (h : DataW.trod enc Tryz.prog W base (fun _ => true) held fuel 27 cs = some x) : ∃ a n c zs, cs = [.slice a n c] ∧ GSeg 1 W a n (inX zs) ∧ zs.length = n ∧ n ≤ 9223372036854775807 := by
  rcases open_ints Tryz.underlying27 Tryz.underlying3 cells3 h with ⟨rfl, _⟩ | ⟨a, l, c, zs, rfl, _, hl, hm, hz, _, hcell, hwz⟩
  · exact ⟨none, 0, 0, [], rfl, fun h => absurd h (by simp), rfl, by simp⟩
  · obtain ⟨ys, hy1, hy2, hy3⟩ := seg_of_row (k := .i64) (w := W) (a := some a) (len := l) (cap := c) (zs := zs) (.inr ⟨a, rfl, hl, hm, by simpa using hz, hcell, hwz⟩)
    have : maxLen = 9223372036854775807 := rfl
    refine ⟨some a, l, c, ys, rfl, fun h0 => ?_, hy1, by omega⟩
    obtain ⟨b, off, e, hlt, hc⟩ := hy2 (by omega)
    refine ⟨b, off, e, hlt, fun i hi j v hj => ?_⟩
    rw [Nat.mul_one]
    match j, hj with
    | 0, hj => injection hj with hj; subst hj; exact hc i (by omega)
    | j + 1, hj => simp [inX] at hj
end Go.Proofs.YtphdijkpjjokaaaGreatDoor
