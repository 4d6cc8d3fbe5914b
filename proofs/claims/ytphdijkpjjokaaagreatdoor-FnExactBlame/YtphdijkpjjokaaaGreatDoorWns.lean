/-
  Lists of slots in memory: copies, likeness, the measure, whether a test holds of every one; how a list that came in is read. Conditions: lengths are at most 1048576 where a copy is made.
  Lists of windows in memory: copies, likeness, the measure, whether a test holds of every one; how a list that came in is read. Conditions: lengths are at most 1048576 where a copy is made.
-/
import Derived.Test.YtphdijkpjjokaaaGreatDoorBas
import Derived.Test.YtphdijkpjjokaaaGreatDoorGen
import Derived.Deep.RegionHeld3
import Derived.Deep.RegionHeldLaw
import Derived.Deep.QuietTactic
import Derived.BigQuiet
import Derived.Deep.SlicePairs
import Derived.OwnWalk
import Derived.Lib.SmallJoins
import Derived.Test.YtphdijkpjjokaaaGreatDoorCrs
namespace Go.Proofs.YtphdijkpjjokaaaGreatDoor
open Go.ChangeShapes Go.WideShapes Go.ChangeAt Go.RowKit Go.Deep Go.Joins
set_option linter.unusedVariables false

abbrev slT := Int × Int × Int
abbrev sl0 : slT := (0, 0, 0)
def slL (x : slT) : List Value := [.int .i64 x.1, .int .i64 x.2.1, .int .i64 x.2.2]
def slX (xs : List slT) : Nat → List Value := fun i => slL (xs.getD i sl0)
abbrev slV (x : slT) : Value := .agg #[.int .i64 x.1, .int .i64 x.2.1, .int .i64 x.2.2]
theorem to_slot (a b c : Int) (w : World) : Calls Tryz.prog 60 #[.agg #[.int .i64 a, .int .i64 b, .int .i64 c]] w fun x w' => x = .returned (.agg #[.int .i64 a, .int .i64 b, .int .i64 c]) ∧ Below w.heap.size w w' := by
  go_enter Tryz.func60, Tryz.ntmps60
  go_wp2
  exact bodyPost_ret (v := .agg #[.int .i64 a, .int .i64 b, .int .i64 c]) (by simp [results, Tryz.results60, go_sem]) rfl ⟨rfl, (((Below.refl _ _).alloc (Nat.le_refl _) _).alloc (by simp) _).alloc (by simp; omega) _⟩
theorem sl_eq1 (x : slT) (w : World) : Calls Tryz.prog 67 #[slV x, slV x] w fun e w' => e = .returned (.bool true) ∧ Below w.heap.size w w' := by
  obtain ⟨x1, x2, x3⟩ := x
  simp only [slV]
  go_enter Tryz.func67, Tryz.ntmps67
  go_wp2
  go_ret
  exact ⟨rfl, ((Below.refl _ _).alloc (Nat.le_refl _) _).alloc (by simp) _⟩
theorem sl_cells {w : World} {b o : Nat} {x : slT} (h : CellsAt w b o (slL x)) : w.cell? ⟨b, o, none⟩ = some (.int .i64 x.1) ∧ w.cell? ⟨b, o + 1, none⟩ = some (.int .i64 x.2.1) ∧ w.cell? ⟨b, o + 2, none⟩ = some (.int .i64 x.2.2) :=
  ⟨h 0 _ rfl, h 1 _ rfl, h 2 _ rfl⟩
theorem sl_info : (Tryz.prog.info? 98).map (fun i => (i.zero, i.size, i.bytes)) = some (some (.agg #[.int .i64 0, .int .i64 0, .int .i64 0]), 3, 24) := by kernel_rfl
theorem sl_make (n : Nat) (hn : n ≤ 1048576) (w : World) : (Instr.makeSlice 39 (.int .i64 (n : Int)) (.int .i64 (n : Int))).run Tryz.prog w = .ok (.slice (some ⟨w.heap.size, 0, none⟩) n n) (w.alloc (.cells (madeCells #[.int .i64 0, .int .i64 0, .int .i64 0] (n * 3)) 98)) := by
  obtain ⟨i, hi, hzz⟩ := Option.map_eq_some_iff.1 sl_info
  simp only [Prod.mk.injEq] at hzz
  obtain ⟨hz, hs, hb⟩ := hzz
  have := run_make (P := Tryz.prog) w 39 98 i _ Tryz.underlying39 hi hz .i64 .i64 n n (by omega) (Int.le_refl _) (by rw [hb]; omega) (by omega)
  rw [hs, Int.toNat_natCast] at this
  exact this
set_option maxHeartbeats 2000000 in
theorem sl_eqs (a b : Option Addr) (ca cb n : Nat) (xs : List slT) (w : World) (ha : GSeg 3 w a n (slX xs)) (hb : GSeg 3 w b n (slX xs)) (hn : n ≤ 1048576) :
    Calls Tryz.prog 44 #[.slice a n ca, .slice b n cb] w fun e w' => e = .returned (.bool true) ∧ Below w.heap.size w w' := by
  have HA : Hid (GSeg 3 w a n (slX xs) ∧ GSeg 3 w b n (slX xs)) := And.intro ha hb
  clear ha hb
  go_enter Tryz.func44, Tryz.ntmps44
  go_wp2
  go_loopw [5] (fun i wr => ∃ k : Nat, k ≤ n ∧ i = .int .i64 k ∧ Hid (Below w.heap.size w wr)) (fun i _ => n - (intOf i).toNat)
  case atStart => exact ⟨0, by omega, rfl, Below.refl _ _⟩
  case round =>
    obtain ⟨k, hk, rfl, HB⟩ := hrel
    by_cases hlt : k < n
    · have hlt' : (k : Int) < (n : Int) := by omega
      obtain ⟨b1, o1, rfl, hbl1, p1⟩ := HA.out.1.at k hlt
      obtain ⟨b2, o2, rfl, hbl2, p2⟩ := HA.out.2.at k hlt
      have hb := HB.out
      replace p1 := p1.of (w' := wr) (fun i => hb.cell (p := ⟨b1, i, none⟩) hbl1)
      replace p2 := p2.of (w' := wr) (fun i => hb.cell (p := ⟨b2, i, none⟩) hbl2)
      simp only [slX] at p1 p2
      generalize xs.getD k sl0 = x at p1 p2
      obtain ⟨c0, c1, c2⟩ := sl_cells p1
      obtain ⟨d0, d1, d2⟩ := sl_cells p2
      have HE : Hid _ := fun X => sl_eq1 x X
      obtain ⟨x1, x2, x3⟩ := x
      simp only [slV] at c0 c1 c2 d0 d1 d2 HE
      replace hb : Hid (Below w.heap.size w wr) := hb
      clear hbl1 hbl2 HB p1 p2
      replace c0 := fun X => gr_cell c0 X
      replace c1 := fun X => gr_cell c1 X
      replace c2 := fun X => gr_cell c2 X
      replace d0 := fun X => gr_cell d0 X
      replace d1 := fun X => gr_cell d1 X
      replace d2 := fun X => gr_cell d2 X
      go_wp2
      have hgr := gr_some wr
      refine region_alike (by kernel_rfl) (by kernel_rfl) ?_
      repeat (go_big_quiet_step (first | (go_at_call 67; exact gr_call (HE.out _))))
      refine wpQuiet_nil ?_
      intro _ hw'
      obtain ⟨X1, rfl⟩ := hw'
      have hb2 := X1.h
      generalize X1.w = W1 at hb2 ⊢
      have HB2 : Hid (Below w.heap.size w W1) := hb.out.trans (hb2.mono hb.out.size)
      clear hb2 c0 c1 c2 d0 d1 d2
      go_wp2
      go_roundw
      case rel => exact ⟨k + 1, by omega, by go_num, HB2⟩
      case measure => simp [intOf]; omega
    · go_wp2
      go_ret
      exact ⟨rfl, HB.out⟩
set_option maxHeartbeats 1000000 in
theorem sl_tos (a : Option Addr) (cap n : Nat) (xs : List slT) (w : World) (hs : GSeg 3 w a n (slX xs)) (hn : n ≤ 1048576) :
    Calls Tryz.prog 34 #[.slice a n cap] w fun e w' => e = .returned (.slice (some ⟨w.heap.size, 0, none⟩) n n) ∧ Below w.heap.size w w' ∧ GBlk 3 w' w.heap.size n n (slX xs) := by
  have hmk := sl_make n hn
  have HS : Hid (GSeg 3 w a n (slX xs)) := hs
  clear hs
  go_enter Tryz.func34, Tryz.ntmps34
  go_wp2
  go_loopw [4] (fun i wr => ∃ k : Nat, k ≤ n ∧ i = .int .i64 k ∧ Hid (Below w.heap.size w wr ∧ GBlk 3 wr w.heap.size n k (slX xs))) (fun i _ => n - (intOf i).toNat)
  case atStart => exact ⟨0, by omega, rfl, (Below.refl _ _).alloc (Nat.le_refl _) _, GBlk.made 3 w n 98 _ _ rfl⟩
  case round =>
    obtain ⟨k, hk, rfl, HB⟩ := hrel
    by_cases hlt : k < n
    · have hlt' : (k : Int) < (n : Int) := by omega
      obtain ⟨b1, o1, rfl, hbl1, p1⟩ := HS.out.at k hlt
      have hb := HB.out.1
      replace p1 := p1.of (w' := wr) (fun i => hb.cell (p := ⟨b1, i, none⟩) hbl1)
      obtain ⟨x, HP⟩ : ∃ p, Hid (xs.getD k sl0 = p) := ⟨_, rfl⟩
      have HX : Hid (slX xs k = slL x) := by show _ = _; unfold slX; rw [HP.out]
      rw [HX.out] at p1
      obtain ⟨c0, c1, c2⟩ := sl_cells p1
      obtain ⟨x1, x2, x3⟩ := x
      simp only at c0 c1 c2
      clear hbl1 p1
      go_wp2_with fail
      refine (to_slot x1 x2 x3 _).mono ?_
      rintro u w2 ⟨rfl, hbb⟩
      have hp2 := HB.out.2.below hbb
      have hb2 := hb.trans (hbb.mono hb.size)
      obtain ⟨u1, hu1⟩ := hp2.room k hlt 0 (by omega)
      obtain ⟨u2, hu2⟩ := hp2.room k hlt 1 (by omega)
      obtain ⟨u3, hu3⟩ := hp2.room k hlt 2 (by omega)
      have hf := hp2.free
      have HB3 : Hid (Below w.heap.size w (((w2.setCell ⟨w.heap.size, k * 3, none⟩ (.int .i64 x1)).setCell ⟨w.heap.size, k * 3 + 1, none⟩ (.int .i64 x2)).setCell ⟨w.heap.size, k * 3 + 2, none⟩ (.int .i64 x3)) ∧ GBlk 3 (((w2.setCell ⟨w.heap.size, k * 3, none⟩ (.int .i64 x1)).setCell ⟨w.heap.size, k * 3 + 1, none⟩ (.int .i64 x2)).setCell ⟨w.heap.size, k * 3 + 2, none⟩ (.int .i64 x3)) w.heap.size n (k + 1) (slX xs)) :=
        ⟨setAll_below (Nat.le_refl _) [.int .i64 x1, .int .i64 x2, .int .i64 x3] (k * 3) hb2, hp2.put hlt [.int .i64 x1, .int .i64 x2, .int .i64 x3] rfl HX.out (fun _ _ => rfl)⟩
      rw [Nat.add_zero] at hu1
      have hv2 : (w2.setCell ⟨w.heap.size, k * 3, none⟩ (.int .i64 x1)).cell? ⟨w.heap.size, k * 3 + 1, none⟩ = some u2 := by rw [World.cell?_setCell_other _ _ _ _ (by simp)]; exact hu2
      have hv3 : ((w2.setCell ⟨w.heap.size, k * 3, none⟩ (.int .i64 x1)).setCell ⟨w.heap.size, k * 3 + 1, none⟩ (.int .i64 x2)).cell? ⟨w.heap.size, k * 3 + 2, none⟩ = some u3 := by rw [World.cell?_setCell_other _ _ _ _ (by simp), World.cell?_setCell_other _ _ _ _ (by simp)]; exact hu3
      clear hbb hp2 hb2 HB hb c0 c1 c2
      go_wp2
      go_roundw
      case rel => exact ⟨k + 1, by omega, by go_num, HB3⟩
      case measure => simp [intOf]; omega
    · obtain rfl : k = n := by omega
      go_wp2
      go_ret
      exact ⟨rfl, HB.out.1, HB.out.2⟩
theorem sl_sz (a : Option Addr) (cap n L : Nat) (w : World) (hn : n ≤ 9223372036854775807) (hL : L ≤ 1048576) :
    Calls Tryz.prog 24 #[.slice a n cap, .int .i64 (L : Int)] w fun e w' => (∃ r : Int, e = .returned (.int .i64 r) ∧ (r = -1 ∨ (r = ((L - n : Nat) : Int) ∧ n ≤ L))) ∧ w' = w := by
  by_cases h : n ≤ L
  · obtain ⟨d, rfl⟩ : ∃ d, L = n + d := ⟨L - n, by omega⟩
    have hw : IntKind.i64.wrap (((n + d : Nat) : Int) - (n : Int)) = (d : Int) := by rw [show ((n + d : Nat) : Int) - (n : Int) = (d : Int) by omega, IntKind.wrap_i64]; omega
    have h0 : ¬ ((d : Int) < 0) := by omega
    go_enter Tryz.func24, Tryz.ntmps24
    go_wp2
    go_ret
    exact ⟨⟨_, rfl, by omega⟩, rfl⟩
  · have hw : IntKind.i64.wrap ((L : Int) - (n : Int)) = (L : Int) - (n : Int) := by rw [IntKind.wrap_i64]; omega
    have h0 : (L : Int) - (n : Int) < 0 := by omega
    go_enter Tryz.func24, Tryz.ntmps24
    go_wp2
    go_ret
    exact ⟨⟨_, rfl, .inl rfl⟩, rfl⟩
set_option maxRecDepth 20000 in
set_option maxHeartbeats 1000000 in
theorem sl_every (a : Option Addr) (cap n : Nat) (xs : List slT) (P : Nat → Bool) (q : Bool) (fid : Nat) (caps : Array Value) (w : World) (hs : GSeg 3 w a n (slX xs)) (hn : n ≤ 9223372036854775807) (hen : ∀ args (v : World), (callFunc fid args).run Tryz.prog v = .ok (.enter fid args) v)
    (hf : ∀ i, i < n → ∀ X, Below w.heap.size w X → Calls Tryz.prog fid (#[slV (xs.getD i sl0)] ++ caps) X fun e w' => e = .returned (.bool (P i)) ∧ Below X.heap.size X w')
    (hq : q = true ↔ ∀ i, i < n → P i = true) :
    Calls Tryz.prog 169 #[.slice a n cap, .func (.func fid) #[] caps] w fun e w' => e = .returned (.bool q) ∧ Below w.heap.size w w' := by
  have HQ : Hid (q = true ↔ ∀ i, i < n → P i = true) := hq
  have HS : Hid (GSeg 3 w a n (slX xs)) := hs
  have HF : Hid (∀ i, i < n → ∀ X, Below w.heap.size w X → Calls Tryz.prog fid (#[slV (xs.getD i sl0)] ++ caps) X fun e w' => e = .returned (.bool (P i)) ∧ Below X.heap.size X w') := hf
  clear hq hs hf
  go_enter Tryz.func169, Tryz.ntmps169
  go_wp2
  go_loopw [9] (fun i wr => ∃ m : Nat, m ≤ n ∧ i = .int .i64 m ∧ Hid (Below w.heap.size w wr ∧ ∀ j, j < m → P j = true)) (fun i _ => n - (intOf i).toNat)
  case atStart => exact ⟨0, by omega, rfl, Below.refl _ _, fun i hi => absurd hi (by omega)⟩
  case round =>
    obtain ⟨m, hm, rfl, HR⟩ := hrel
    by_cases hmn : m < n
    rotate_left
    · obtain rfl : m = n := by omega
      have HT : Hid (q = true) := HQ.out.2 HR.out.2
      go_wp2
      go_ret
      exact ⟨ret_bool HT.out.symm, HR.out.1⟩
    have hmn' : (m : Int) < (n : Int) := by omega
    obtain ⟨b1, o1, rfl, hbl1, p1⟩ := HS.out.at m hmn
    replace p1 := p1.of (w' := wr) (fun j => HR.out.1.cell (p := ⟨b1, j, none⟩) hbl1)
    have HFm : Hid _ := HF.out m hmn
    have HPm : Hid (P m = false → q = false) := fun h => not_true HQ.out (fun g => by rw [g m hmn] at h; cases h)
    have HPt : Hid (P m = true → ∀ j, j < m + 1 → P j = true) := fun h j hj => by
      by_cases e : j = m
      · subst e; exact h
      · exact HR.out.2 j (by omega)
    simp only [slX] at p1
    generalize xs.getD m sl0 = x at p1 HFm
    generalize P m = pm at HFm HPm HPt
    obtain ⟨c0, c1, c2⟩ := sl_cells p1
    obtain ⟨x1, x2, x3⟩ := x
    simp only [slV] at c0 c1 c2 HFm
    have hb0 : Hid (Below w.heap.size w (wr.alloc (.cells #[.int .i64 x1, .int .i64 x2, .int .i64 x3] 98))) := HR.out.1.alloc HR.out.1.size _
    clear p1 hbl1
    go_wp2_with fail
    refine (HFm.out _ hb0.out).mono ?_
    rintro u w1 ⟨rfl, hb1⟩
    have HB1 : Hid (Below w.heap.size w w1) := hb0.out.trans (hb1.mono hb0.out.size)
    clear hb1 hb0 c0 c1 c2
    cases pm
    · have HT : Hid (q = false) := HPm.out (by trivial)
      go_wp2
      go_ret
      exact ⟨ret_bool HT.out.symm, HB1.out⟩
    · have HT : Hid _ := HPt.out (by trivial)
      go_wp2
      go_roundw
      case rel => exact ⟨m + 1, by omega, by go_num, HB1.out, HT.out⟩
      case measure => simp [intOf]; omega
theorem sl_lcells : Tryz.prog.cellsOf 109 = 3 := by kernel_rfl
set_option maxRecDepth 100000 in
theorem sl_open {H : Type} {enc : TypeId × Value → H} {W : World} {base : Nat} {spare : Nat → Bool} {held : Bool} {fuel : Nat} {cs : List Value} {x : DataW H × List MemPlace}
    (h : DataW.trod enc Tryz.prog W base spare held fuel 29 cs = some x) : ∃ a n c xs, cs = [.slice a n c] ∧ GSeg 3 W a n (slX xs) ∧ xs.length = n ∧ n ≤ 9223372036854775807 ∧ ∀ i, i < n → ((xs.getD i sl0).1 ≤ 9223372036854775807 ∧ -9223372036854775808 ≤ (xs.getD i sl0).1) ∧ ((xs.getD i sl0).2.1 ≤ 9223372036854775807 ∧ -9223372036854775808 ≤ (xs.getD i sl0).2.1) ∧ ((xs.getD i sl0).2.2 ≤ 9223372036854775807 ∧ -9223372036854775808 ≤ (xs.getD i sl0).2.2) := by
  rcases open_slice (P := Tryz.prog) Tryz.underlying29 h with ⟨rfl, _⟩ | ⟨a, len, cap, m, n, D, Pl, rfl, hb, hl, hm, hmm, rfl, hx⟩
  · exact ⟨none, 0, 0, [], rfl, fun h => absurd h (by simp), rfl, by simp, fun i hi => absurd hi (by simp)⟩
  · have hlm : len ≤ m := by rw [hmm]; split <;> omega
    obtain ⟨Z, hZ⟩ := choose_lt (α := slT) (n := len) (p := fun i z => (W.cell? (a.add (i * 3)) = some (.int .i64 z.1) ∧ W.cell? (a.add (i * 3 + 1)) = some (.int .i64 z.2.1) ∧ W.cell? (a.add (i * 3 + 2)) = some (.int .i64 z.2.2)) ∧ ((z.1 ≤ 9223372036854775807 ∧ -9223372036854775808 ≤ z.1) ∧ (z.2.1 ≤ 9223372036854775807 ∧ -9223372036854775808 ≤ z.2.1) ∧ (z.2.2 ≤ 9223372036854775807 ∧ -9223372036854775808 ≤ z.2.2))) (fun i hi => by
      obtain ⟨cs', h1, h2⟩ := hx i (by omega)
      rw [sl_lcells] at h1
      obtain ⟨_, hlen, hcell⟩ := World.cells?_some h1
      obtain ⟨xs, k, hk, hxy, _, hxl, hfs⟩ := DataW.trod_struct Tryz.underlying109 h2
      obtain ⟨y0, y1, y2, rfl⟩ := list3 hxl
      obtain ⟨v0, v1, v2, rfl⟩ := list3 hlen
      have g0 := hfs 0 _ rfl
      have g1 := hfs 1 _ rfl
      have g2 := hfs 2 _ rfl
      simp [cells3] at g0 g1 g2
      obtain ⟨b0, e0, rfl, w0⟩ := DataW.trod_int Tryz.underlying3 g0
      obtain ⟨b1, e1, rfl, w1⟩ := DataW.trod_int Tryz.underlying3 g1
      obtain ⟨b2, e2, rfl, w2⟩ := DataW.trod_int Tryz.underlying3 g2
      injection e0 with e0
      injection e1 with e1
      injection e2 with e2
      have c0 := hcell 0 (by omega)
      have c1 := hcell 1 (by omega)
      have c2 := hcell 2 (by omega)
      rw [add_add] at c0 c1 c2
      refine ⟨(b0, b1, b2), ⟨?_, ?_, ?_⟩, ⟨fit2 w0, fit2 w1, fit2 w2⟩⟩
      · simpa [e0] using c0
      · simpa [e1] using c1
      · simpa [e2] using c2)
    have hg : ∀ i, i < len → ((List.range len).map Z).getD i sl0 = Z i := fun i hi => by simp [List.getD, hi]
    refine ⟨some a, len, cap, (List.range len).map Z, rfl, fun h0 => ?_, by simp, by have : maxLen = 9223372036854775807 := rfl; omega, fun i hi => ?_⟩
    · obtain ⟨b, off, rfl, hlt⟩ := addr_of (hZ 0 h0).1.1 (by omega)
      refine ⟨b, off, rfl, hlt, fun i hi => ?_⟩
      have := (hZ i hi).1
      rw [add_plain, add_plain, add_plain, ← Nat.add_assoc, ← Nat.add_assoc] at this
      intro j v hj
      simp only [slX, hg i hi, slL] at hj
      match j, hj with
      | 0, hj => injection hj with hj; subst hj; exact this.1
      | 1, hj => injection hj with hj; subst hj; exact this.2.1
      | 2, hj => injection hj with hj; subst hj; exact this.2.2
      | j + 3, hj => simp at hj
    · rw [hg i hi]
      exact (hZ i hi).2
end Go.Proofs.YtphdijkpjjokaaaGreatDoor
namespace Go.Proofs.YtphdijkpjjokaaaGreatDoor
open Go.ChangeShapes Go.WideShapes Go.ChangeAt Go.RowKit Go.Deep Go.Joins
set_option linter.unusedVariables false

abbrev wiT := Int × Int × Int
abbrev wi0 : wiT := (0, 0, 0)
def wiL (x : wiT) : List Value := [.int .i64 x.1, .int .i64 x.2.1, .int .i64 x.2.2]
def wiX (xs : List wiT) : Nat → List Value := fun i => wiL (xs.getD i wi0)
abbrev wiV (x : wiT) : Value := .agg #[.int .i64 x.1, .int .i64 x.2.1, .int .i64 x.2.2]
theorem to_wn (a b c : Int) (w : World) : Calls Tryz.prog 95 #[.agg #[.int .i64 a, .int .i64 b, .int .i64 c]] w fun x w' => x = .returned (.agg #[.int .i64 a, .int .i64 b, .int .i64 c]) ∧ Below w.heap.size w w' := by
  go_enter Tryz.func95, Tryz.ntmps95
  go_wp2
  exact bodyPost_ret (v := .agg #[.int .i64 a, .int .i64 b, .int .i64 c]) (by simp [results, Tryz.results95, go_sem]) rfl ⟨rfl, (((Below.refl _ _).alloc (Nat.le_refl _) _).alloc (by simp) _).alloc (by simp; omega) _⟩
theorem wi_eq1 (x : wiT) (w : World) : Calls Tryz.prog 99 #[wiV x, wiV x] w fun e w' => e = .returned (.bool true) ∧ Below w.heap.size w w' := by
  obtain ⟨x1, x2, x3⟩ := x
  simp only [wiV]
  go_enter Tryz.func99, Tryz.ntmps99
  go_wp2
  go_ret
  exact ⟨rfl, ((Below.refl _ _).alloc (Nat.le_refl _) _).alloc (by simp) _⟩
theorem wi_cells {w : World} {b o : Nat} {x : wiT} (h : CellsAt w b o (wiL x)) : w.cell? ⟨b, o, none⟩ = some (.int .i64 x.1) ∧ w.cell? ⟨b, o + 1, none⟩ = some (.int .i64 x.2.1) ∧ w.cell? ⟨b, o + 2, none⟩ = some (.int .i64 x.2.2) :=
  ⟨h 0 _ rfl, h 1 _ rfl, h 2 _ rfl⟩
theorem wi_info : (Tryz.prog.info? 131).map (fun i => (i.zero, i.size, i.bytes)) = some (some (.agg #[.int .i64 0, .int .i64 0, .int .i64 0]), 3, 24) := by kernel_rfl
theorem wi_make (n : Nat) (hn : n ≤ 1048576) (w : World) : (Instr.makeSlice 100 (.int .i64 (n : Int)) (.int .i64 (n : Int))).run Tryz.prog w = .ok (.slice (some ⟨w.heap.size, 0, none⟩) n n) (w.alloc (.cells (madeCells #[.int .i64 0, .int .i64 0, .int .i64 0] (n * 3)) 131)) := by
  obtain ⟨i, hi, hzz⟩ := Option.map_eq_some_iff.1 wi_info
  simp only [Prod.mk.injEq] at hzz
  obtain ⟨hz, hs, hb⟩ := hzz
  have := run_make (P := Tryz.prog) w 100 131 i _ Tryz.underlying100 hi hz .i64 .i64 n n (by omega) (Int.le_refl _) (by rw [hb]; omega) (by omega)
  rw [hs, Int.toNat_natCast] at this
  exact this
set_option maxHeartbeats 2000000 in
theorem wi_eqs (a b : Option Addr) (ca cb n : Nat) (xs : List wiT) (w : World) (ha : GSeg 3 w a n (wiX xs)) (hb : GSeg 3 w b n (wiX xs)) (hn : n ≤ 1048576) :
    Calls Tryz.prog 86 #[.slice a n ca, .slice b n cb] w fun e w' => e = .returned (.bool true) ∧ Below w.heap.size w w' := by
  have HA : Hid (GSeg 3 w a n (wiX xs) ∧ GSeg 3 w b n (wiX xs)) := And.intro ha hb
  clear ha hb
  go_enter Tryz.func86, Tryz.ntmps86
  go_wp2
  go_loopw [5] (fun i wr => ∃ k : Nat, k ≤ n ∧ i = .int .i64 k ∧ Hid (Below w.heap.size w wr)) (fun i _ => n - (intOf i).toNat)
  case atStart => exact ⟨0, by omega, rfl, Below.refl _ _⟩
  case round =>
    obtain ⟨k, hk, rfl, HB⟩ := hrel
    by_cases hlt : k < n
    · have hlt' : (k : Int) < (n : Int) := by omega
      obtain ⟨b1, o1, rfl, hbl1, p1⟩ := HA.out.1.at k hlt
      obtain ⟨b2, o2, rfl, hbl2, p2⟩ := HA.out.2.at k hlt
      have hb := HB.out
      replace p1 := p1.of (w' := wr) (fun i => hb.cell (p := ⟨b1, i, none⟩) hbl1)
      replace p2 := p2.of (w' := wr) (fun i => hb.cell (p := ⟨b2, i, none⟩) hbl2)
      simp only [wiX] at p1 p2
      generalize xs.getD k wi0 = x at p1 p2
      obtain ⟨c0, c1, c2⟩ := wi_cells p1
      obtain ⟨d0, d1, d2⟩ := wi_cells p2
      have HE : Hid _ := fun X => wi_eq1 x X
      obtain ⟨x1, x2, x3⟩ := x
      simp only [wiV] at c0 c1 c2 d0 d1 d2 HE
      replace hb : Hid (Below w.heap.size w wr) := hb
      clear hbl1 hbl2 HB p1 p2
      replace c0 := fun X => gr_cell c0 X
      replace c1 := fun X => gr_cell c1 X
      replace c2 := fun X => gr_cell c2 X
      replace d0 := fun X => gr_cell d0 X
      replace d1 := fun X => gr_cell d1 X
      replace d2 := fun X => gr_cell d2 X
      go_wp2
      have hgr := gr_some wr
      refine region_alike (by kernel_rfl) (by kernel_rfl) ?_
      repeat (go_big_quiet_step (first | (go_at_call 99; exact gr_call (HE.out _))))
      refine wpQuiet_nil ?_
      intro _ hw'
      obtain ⟨X1, rfl⟩ := hw'
      have hb2 := X1.h
      generalize X1.w = W1 at hb2 ⊢
      have HB2 : Hid (Below w.heap.size w W1) := hb.out.trans (hb2.mono hb.out.size)
      clear hb2 c0 c1 c2 d0 d1 d2
      go_wp2
      go_roundw
      case rel => exact ⟨k + 1, by omega, by go_num, HB2⟩
      case measure => simp [intOf]; omega
    · go_wp2
      go_ret
      exact ⟨rfl, HB.out⟩
set_option maxHeartbeats 1000000 in
theorem wi_tos (a : Option Addr) (cap n : Nat) (xs : List wiT) (w : World) (hs : GSeg 3 w a n (wiX xs)) (hn : n ≤ 1048576) :
    Calls Tryz.prog 78 #[.slice a n cap] w fun e w' => e = .returned (.slice (some ⟨w.heap.size, 0, none⟩) n n) ∧ Below w.heap.size w w' ∧ GBlk 3 w' w.heap.size n n (wiX xs) := by
  have hmk := wi_make n hn
  have HS : Hid (GSeg 3 w a n (wiX xs)) := hs
  clear hs
  go_enter Tryz.func78, Tryz.ntmps78
  go_wp2
  go_loopw [4] (fun i wr => ∃ k : Nat, k ≤ n ∧ i = .int .i64 k ∧ Hid (Below w.heap.size w wr ∧ GBlk 3 wr w.heap.size n k (wiX xs))) (fun i _ => n - (intOf i).toNat)
  case atStart => exact ⟨0, by omega, rfl, (Below.refl _ _).alloc (Nat.le_refl _) _, GBlk.made 3 w n 131 _ _ rfl⟩
  case round =>
    obtain ⟨k, hk, rfl, HB⟩ := hrel
    by_cases hlt : k < n
    · have hlt' : (k : Int) < (n : Int) := by omega
      obtain ⟨b1, o1, rfl, hbl1, p1⟩ := HS.out.at k hlt
      have hb := HB.out.1
      replace p1 := p1.of (w' := wr) (fun i => hb.cell (p := ⟨b1, i, none⟩) hbl1)
      obtain ⟨x, HP⟩ : ∃ p, Hid (xs.getD k wi0 = p) := ⟨_, rfl⟩
      have HX : Hid (wiX xs k = wiL x) := by show _ = _; unfold wiX; rw [HP.out]
      rw [HX.out] at p1
      obtain ⟨c0, c1, c2⟩ := wi_cells p1
      obtain ⟨x1, x2, x3⟩ := x
      simp only at c0 c1 c2
      clear hbl1 p1
      go_wp2_with fail
      refine (to_wn x1 x2 x3 _).mono ?_
      rintro u w2 ⟨rfl, hbb⟩
      have hp2 := HB.out.2.below hbb
      have hb2 := hb.trans (hbb.mono hb.size)
      obtain ⟨u1, hu1⟩ := hp2.room k hlt 0 (by omega)
      obtain ⟨u2, hu2⟩ := hp2.room k hlt 1 (by omega)
      obtain ⟨u3, hu3⟩ := hp2.room k hlt 2 (by omega)
      have hf := hp2.free
      have HB3 : Hid (Below w.heap.size w (((w2.setCell ⟨w.heap.size, k * 3, none⟩ (.int .i64 x1)).setCell ⟨w.heap.size, k * 3 + 1, none⟩ (.int .i64 x2)).setCell ⟨w.heap.size, k * 3 + 2, none⟩ (.int .i64 x3)) ∧ GBlk 3 (((w2.setCell ⟨w.heap.size, k * 3, none⟩ (.int .i64 x1)).setCell ⟨w.heap.size, k * 3 + 1, none⟩ (.int .i64 x2)).setCell ⟨w.heap.size, k * 3 + 2, none⟩ (.int .i64 x3)) w.heap.size n (k + 1) (wiX xs)) :=
        ⟨setAll_below (Nat.le_refl _) [.int .i64 x1, .int .i64 x2, .int .i64 x3] (k * 3) hb2, hp2.put hlt [.int .i64 x1, .int .i64 x2, .int .i64 x3] rfl HX.out (fun _ _ => rfl)⟩
      rw [Nat.add_zero] at hu1
      have hv2 : (w2.setCell ⟨w.heap.size, k * 3, none⟩ (.int .i64 x1)).cell? ⟨w.heap.size, k * 3 + 1, none⟩ = some u2 := by rw [World.cell?_setCell_other _ _ _ _ (by simp)]; exact hu2
      have hv3 : ((w2.setCell ⟨w.heap.size, k * 3, none⟩ (.int .i64 x1)).setCell ⟨w.heap.size, k * 3 + 1, none⟩ (.int .i64 x2)).cell? ⟨w.heap.size, k * 3 + 2, none⟩ = some u3 := by rw [World.cell?_setCell_other _ _ _ _ (by simp), World.cell?_setCell_other _ _ _ _ (by simp)]; exact hu3
      clear hbb hp2 hb2 HB hb c0 c1 c2
      go_wp2
      go_roundw
      case rel => exact ⟨k + 1, by omega, by go_num, HB3⟩
      case measure => simp [intOf]; omega
    · obtain rfl : k = n := by omega
      go_wp2
      go_ret
      exact ⟨rfl, HB.out.1, HB.out.2⟩
theorem wi_sz (a : Option Addr) (cap n L : Nat) (w : World) (hn : n ≤ 9223372036854775807) (hL : L ≤ 1048576) :
    Calls Tryz.prog 76 #[.slice a n cap, .int .i64 (L : Int)] w fun e w' => (∃ r : Int, e = .returned (.int .i64 r) ∧ (r = -1 ∨ (r = ((L - n : Nat) : Int) ∧ n ≤ L))) ∧ w' = w := by
  by_cases h : n ≤ L
  · obtain ⟨d, rfl⟩ : ∃ d, L = n + d := ⟨L - n, by omega⟩
    have hw : IntKind.i64.wrap (((n + d : Nat) : Int) - (n : Int)) = (d : Int) := by rw [show ((n + d : Nat) : Int) - (n : Int) = (d : Int) by omega, IntKind.wrap_i64]; omega
    have h0 : ¬ ((d : Int) < 0) := by omega
    go_enter Tryz.func76, Tryz.ntmps76
    go_wp2
    go_ret
    exact ⟨⟨_, rfl, by omega⟩, rfl⟩
  · have hw : IntKind.i64.wrap ((L : Int) - (n : Int)) = (L : Int) - (n : Int) := by rw [IntKind.wrap_i64]; omega
    have h0 : (L : Int) - (n : Int) < 0 := by omega
    go_enter Tryz.func76, Tryz.ntmps76
    go_wp2
    go_ret
    exact ⟨⟨_, rfl, .inl rfl⟩, rfl⟩
set_option maxRecDepth 20000 in
set_option maxHeartbeats 1000000 in
theorem wi_every (a : Option Addr) (cap n : Nat) (xs : List wiT) (P : Nat → Bool) (q : Bool) (fid : Nat) (caps : Array Value) (w : World) (hs : GSeg 3 w a n (wiX xs)) (hn : n ≤ 9223372036854775807) (hen : ∀ args (v : World), (callFunc fid args).run Tryz.prog v = .ok (.enter fid args) v)
    (hf : ∀ i, i < n → ∀ X, Below w.heap.size w X → Calls Tryz.prog fid (#[wiV (xs.getD i wi0)] ++ caps) X fun e w' => e = .returned (.bool (P i)) ∧ Below X.heap.size X w')
    (hq : q = true ↔ ∀ i, i < n → P i = true) :
    Calls Tryz.prog 146 #[.slice a n cap, .func (.func fid) #[] caps] w fun e w' => e = .returned (.bool q) ∧ Below w.heap.size w w' := by
  have HQ : Hid (q = true ↔ ∀ i, i < n → P i = true) := hq
  have HS : Hid (GSeg 3 w a n (wiX xs)) := hs
  have HF : Hid (∀ i, i < n → ∀ X, Below w.heap.size w X → Calls Tryz.prog fid (#[wiV (xs.getD i wi0)] ++ caps) X fun e w' => e = .returned (.bool (P i)) ∧ Below X.heap.size X w') := hf
  clear hq hs hf
  go_enter Tryz.func146, Tryz.ntmps146
  go_wp2
  go_loopw [9] (fun i wr => ∃ m : Nat, m ≤ n ∧ i = .int .i64 m ∧ Hid (Below w.heap.size w wr ∧ ∀ j, j < m → P j = true)) (fun i _ => n - (intOf i).toNat)
  case atStart => exact ⟨0, by omega, rfl, Below.refl _ _, fun i hi => absurd hi (by omega)⟩
  case round =>
    obtain ⟨m, hm, rfl, HR⟩ := hrel
    by_cases hmn : m < n
    rotate_left
    · obtain rfl : m = n := by omega
      have HT : Hid (q = true) := HQ.out.2 HR.out.2
      go_wp2
      go_ret
      exact ⟨ret_bool HT.out.symm, HR.out.1⟩
    have hmn' : (m : Int) < (n : Int) := by omega
    obtain ⟨b1, o1, rfl, hbl1, p1⟩ := HS.out.at m hmn
    replace p1 := p1.of (w' := wr) (fun j => HR.out.1.cell (p := ⟨b1, j, none⟩) hbl1)
    have HFm : Hid _ := HF.out m hmn
    have HPm : Hid (P m = false → q = false) := fun h => not_true HQ.out (fun g => by rw [g m hmn] at h; cases h)
    have HPt : Hid (P m = true → ∀ j, j < m + 1 → P j = true) := fun h j hj => by
      by_cases e : j = m
      · subst e; exact h
      · exact HR.out.2 j (by omega)
    simp only [wiX] at p1
    generalize xs.getD m wi0 = x at p1 HFm
    generalize P m = pm at HFm HPm HPt
    obtain ⟨c0, c1, c2⟩ := wi_cells p1
    obtain ⟨x1, x2, x3⟩ := x
    simp only [wiV] at c0 c1 c2 HFm
    have hb0 : Hid (Below w.heap.size w (wr.alloc (.cells #[.int .i64 x1, .int .i64 x2, .int .i64 x3] 131))) := HR.out.1.alloc HR.out.1.size _
    clear p1 hbl1
    go_wp2_with fail
    refine (HFm.out _ hb0.out).mono ?_
    rintro u w1 ⟨rfl, hb1⟩
    have HB1 : Hid (Below w.heap.size w w1) := hb0.out.trans (hb1.mono hb0.out.size)
    clear hb1 hb0 c0 c1 c2
    cases pm
    · have HT : Hid (q = false) := HPm.out (by trivial)
      go_wp2
      go_ret
      exact ⟨ret_bool HT.out.symm, HB1.out⟩
    · have HT : Hid _ := HPt.out (by trivial)
      go_wp2
      go_roundw
      case rel => exact ⟨m + 1, by omega, by go_num, HB1.out, HT.out⟩
      case measure => simp [intOf]; omega
theorem wi_lcells : Tryz.prog.cellsOf 144 = 3 := by kernel_rfl
set_option maxRecDepth 100000 in
theorem wi_open {H : Type} {enc : TypeId × Value → H} {W : World} {base : Nat} {spare : Nat → Bool} {held : Bool} {fuel : Nat} {cs : List Value} {x : DataW H × List MemPlace}
    (h : DataW.trod enc Tryz.prog W base spare held fuel 94 cs = some x) : ∃ a n c xs, cs = [.slice a n c] ∧ GSeg 3 W a n (wiX xs) ∧ xs.length = n ∧ n ≤ 9223372036854775807 ∧ ∀ i, i < n → ((xs.getD i wi0).1 ≤ 9223372036854775807 ∧ -9223372036854775808 ≤ (xs.getD i wi0).1) ∧ ((xs.getD i wi0).2.1 ≤ 9223372036854775807 ∧ -9223372036854775808 ≤ (xs.getD i wi0).2.1) ∧ ((xs.getD i wi0).2.2 ≤ 9223372036854775807 ∧ -9223372036854775808 ≤ (xs.getD i wi0).2.2) := by
  rcases open_slice (P := Tryz.prog) Tryz.underlying94 h with ⟨rfl, _⟩ | ⟨a, len, cap, m, n, D, Pl, rfl, hb, hl, hm, hmm, rfl, hx⟩
  · exact ⟨none, 0, 0, [], rfl, fun h => absurd h (by simp), rfl, by simp, fun i hi => absurd hi (by simp)⟩
  · have hlm : len ≤ m := by rw [hmm]; split <;> omega
    obtain ⟨Z, hZ⟩ := choose_lt (α := wiT) (n := len) (p := fun i z => (W.cell? (a.add (i * 3)) = some (.int .i64 z.1) ∧ W.cell? (a.add (i * 3 + 1)) = some (.int .i64 z.2.1) ∧ W.cell? (a.add (i * 3 + 2)) = some (.int .i64 z.2.2)) ∧ ((z.1 ≤ 9223372036854775807 ∧ -9223372036854775808 ≤ z.1) ∧ (z.2.1 ≤ 9223372036854775807 ∧ -9223372036854775808 ≤ z.2.1) ∧ (z.2.2 ≤ 9223372036854775807 ∧ -9223372036854775808 ≤ z.2.2))) (fun i hi => by
      obtain ⟨cs', h1, h2⟩ := hx i (by omega)
      rw [wi_lcells] at h1
      obtain ⟨_, hlen, hcell⟩ := World.cells?_some h1
      obtain ⟨xs, k, hk, hxy, _, hxl, hfs⟩ := DataW.trod_struct Tryz.underlying144 h2
      obtain ⟨y0, y1, y2, rfl⟩ := list3 hxl
      obtain ⟨v0, v1, v2, rfl⟩ := list3 hlen
      have g0 := hfs 0 _ rfl
      have g1 := hfs 1 _ rfl
      have g2 := hfs 2 _ rfl
      simp [cells3] at g0 g1 g2
      obtain ⟨b0, e0, rfl, w0⟩ := DataW.trod_int Tryz.underlying3 g0
      obtain ⟨b1, e1, rfl, w1⟩ := DataW.trod_int Tryz.underlying3 g1
      obtain ⟨b2, e2, rfl, w2⟩ := DataW.trod_int Tryz.underlying3 g2
      injection e0 with e0
      injection e1 with e1
      injection e2 with e2
      have c0 := hcell 0 (by omega)
      have c1 := hcell 1 (by omega)
      have c2 := hcell 2 (by omega)
      rw [add_add] at c0 c1 c2
      refine ⟨(b0, b1, b2), ⟨?_, ?_, ?_⟩, ⟨fit2 w0, fit2 w1, fit2 w2⟩⟩
      · simpa [e0] using c0
      · simpa [e1] using c1
      · simpa [e2] using c2)
    have hg : ∀ i, i < len → ((List.range len).map Z).getD i wi0 = Z i := fun i hi => by simp [List.getD, hi]
    refine ⟨some a, len, cap, (List.range len).map Z, rfl, fun h0 => ?_, by simp, by have : maxLen = 9223372036854775807 := rfl; omega, fun i hi => ?_⟩
    · obtain ⟨b, off, rfl, hlt⟩ := addr_of (hZ 0 h0).1.1 (by omega)
      refine ⟨b, off, rfl, hlt, fun i hi => ?_⟩
      have := (hZ i hi).1
      rw [add_plain, add_plain, add_plain, ← Nat.add_assoc, ← Nat.add_assoc] at this
      intro j v hj
      simp only [wiX, hg i hi, wiL] at hj
      match j, hj with
      | 0, hj => injection hj with hj; subst hj; exact this.1
      | 1, hj => injection hj with hj; subst hj; exact this.2.1
      | 2, hj => injection hj with hj; subst hj; exact this.2.2
      | j + 3, hj => simp at hj
    · rw [hg i hi]
      exact (hZ i hi).2
end Go.Proofs.YtphdijkpjjokaaaGreatDoor
