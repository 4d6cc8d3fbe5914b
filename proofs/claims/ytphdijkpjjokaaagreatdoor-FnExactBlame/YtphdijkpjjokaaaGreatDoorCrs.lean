/-
  Rows of channels: right or not, how many words one can hold, by both sides. No conditions.
  Lists of channels in memory: copies, likeness, the measure, whether a test holds of every one; how a list that came in is read. Conditions: lengths are at most 1048576 where a copy is made.
-/
import Derived.Test.YtphdijkpjjokaaaGreatDoorBas
import Derived.Test.YtphdijkpjjokaaaGreatDoorGen
import Derived.WalkKit
import Derived.Deep.QuietTactic
import Derived.Deep.RegionHeldLaw
import Derived.Deep.RegionWith
import Derived.BigRegion
import Derived.BigQuiet
import Derived.Deep.RegionHeld3
import Derived.Deep.SlicePairs
import Derived.OwnWalk
import Derived.Lib.SmallJoins
namespace Go.Proofs.YtphdijkpjjokaaaGreatDoor
open Go.ChangeShapes Go.WideShapes Go.ChangeAt Go.RowKit Go.Deep
set_option linter.unusedVariables false

abbrev crw (k f t d : Int) : Value := .agg #[.int .i64 k, .int .i64 f, .int .i64 t, .int .i64 d]
abbrev chrow (k f t d : Int) : Array Value := #[.int .i64 k, .int .i64 f, .int .i64 t, .int .i64 d]
set_option maxHeartbeats 400000 in
theorem to_row (k f t d : Int) (w : World) : Calls Tryz.prog 59 #[crw k f t d] w fun x w' => x = .returned (crw k f t d) ∧ Below w.heap.size w w' := by
  go_enter Tryz.func59, Tryz.ntmps59
  go_wp2
  exact bodyPost_ret (v := crw k f t d) (by simp [results, Tryz.results59, go_sem]) rfl ⟨rfl, (((Below.refl _ _).alloc (Nat.le_refl _) _).alloc (by simp) _).alloc (by simp; omega) _⟩
/-- A row that is right. -/
def chOk (k f t d : Int) : Bool := inr f 0 5 && (inr t 0 5 && (!(f == t) && ((k == 0 && d == 0) || (k == 1 && inr d 1 8))))
theorem chOk_k {k f t d : Int} (h : chOk k f t d = true) : (k = 0 ∧ d = 0) ∨ (k = 1 ∧ 1 ≤ d ∧ d ≤ 8) := by
  unfold chOk at h
  simp [inr] at h
  omega
set_option maxHeartbeats 1000000 in
theorem spec_chok (k f t d : Int) (q : Bool) (w : World) (HQ : Hid (chOk k f t d = q)) : Calls Tryz.prog 92 #[crw k f t d] w fun e w' => e = .returned (.bool q) ∧ Below w.heap.size w w' := by
  have hb : Below w.heap.size w (w.alloc (.cells (chrow k f t d) 105)) := (Below.refl _ w).alloc (Nat.le_refl _) _
  obtain ⟨qa, HA⟩ : ∃ q, Hid (inr f 0 5 = q) := ⟨_, rfl⟩
  obtain ⟨qb, HB⟩ : ∃ q, Hid (inr t 0 5 = q) := ⟨_, rfl⟩
  obtain ⟨qd, HD⟩ : ∃ q, Hid (inr d 1 8 = q) := ⟨_, rfl⟩
  have A0 : Hid (∀ w, Calls Tryz.prog 26 #[.int .i64 f, .int .i64 0, .int .i64 5] w fun e w' => e = .returned (.bool qa) ∧ w' = w) := fun w => by rw [← HA.out]; exact in_any _ _ _ w
  have A1 : Hid (∀ w, Calls Tryz.prog 26 #[.int .i64 t, .int .i64 0, .int .i64 5] w fun e w' => e = .returned (.bool qb) ∧ w' = w) := fun w => by rw [← HB.out]; exact in_any _ _ _ w
  have A2 : Hid (∀ w, Calls Tryz.prog 26 #[.int .i64 d, .int .i64 1, .int .i64 8] w fun e w' => e = .returned (.bool qd) ∧ w' = w) := fun w => by rw [← HD.out]; exact in_any _ _ _ w
  have HE : Hid ((qa && (qb && (!(f == t) && ((k == 0 && d == 0) || (k == 1 && qd))))) = q) := by rw [← HQ.out]; unfold chOk; rw [HA.out, HB.out, HD.out]; exact rfl
  clear HA HB HD HQ
  go_enter Tryz.func92, Tryz.ntmps92
  go_wp2_with fail
  refine (A0.out _).mono ?_
  rintro x w1 ⟨rfl, h1⟩
  rw [h1]
  clear h1 w1
  cases qa
  · have e : q = false := by rw [← HE.out]; rfl
    subst e
    go_wp2
    go_ret
    exact ⟨rfl, hb⟩
  go_wp2_with fail
  refine (A1.out _).mono ?_
  rintro x w1 ⟨rfl, h1⟩
  rw [h1]
  clear h1 w1
  cases qb
  · have e : q = false := by rw [← HE.out]; rfl
    subst e
    go_wp2
    go_ret
    exact ⟨rfl, hb⟩
  cases hft : (f == t)
  rotate_left
  · have e : q = false := by rw [← HE.out, hft]; rfl
    subst e
    go_wp2
    go_ret
    exact ⟨rfl, hb⟩
  cases hk0 : (k == 0)
  · cases hk1 : (k == 1)
    · have e : q = false := by rw [← HE.out, hft, hk0, hk1]; rfl
      subst e
      go_wp2
      go_ret
      exact ⟨rfl, hb⟩
    · have e : q = qd := by rw [← HE.out, hft, hk0, hk1]; simp
      subst e
      go_wp2_with fail
      refine (A2.out _).mono ?_
      rintro x w1 ⟨rfl, h1⟩
      rw [h1]
      clear h1 w1
      go_wp2
      go_ret
      exact ⟨rfl, hb⟩
  · have hk1 : (k == 1) = false := by
      have : k = 0 := by simpa using hk0
      subst this; rfl
    cases hd0 : (d == 0)
    · have e : q = false := by rw [← HE.out, hft, hk0, hk1, hd0]; rfl
      subst e
      go_wp2
      go_ret
      exact ⟨rfl, hb⟩
    · have e : q = true := by rw [← HE.out, hft, hk0, hd0]; simp
      subst e
      go_wp2
      go_ret
      exact ⟨rfl, hb⟩
theorem part_any (x : Int) (w : World) : Calls Tryz.prog 186 #[.int .i64 x] w fun e w' => e = .returned (.bool (inr x 0 5)) ∧ w' = w := by
  by_cases h1 : 0 ≤ x
  · by_cases h2 : x < 6
    · rw [inr_yes ⟨h1, by omega⟩]
      go_enter Tryz.func186, Tryz.ntmps186
      go_wp2
      go_ret
      exact ⟨rfl, rfl⟩
    · rw [inr_no (fun g => h2 (by omega))]
      go_enter Tryz.func186, Tryz.ntmps186
      go_wp2
      go_ret
      exact ⟨rfl, rfl⟩
  · rw [inr_no (fun g => h1 g.1)]
    go_enter Tryz.func186, Tryz.ntmps186
    go_wp2
    go_ret
    exact ⟨rfl, rfl⟩
/-- A depth that is right for its kind. -/
def depF (k d : Int) : Bool := (k == 0 && d == 0) || (k == 1 && inr d 1 8)
theorem depth_any (k d : Int) (w : World) : Calls Tryz.prog 187 #[.int .i64 k, .int .i64 d] w fun e w' => e = .returned (.bool (depF k d)) ∧ w' = w := by
  cases hk0 : (k == 0)
  · cases hk1 : (k == 1)
    · have e : depF k d = false := by unfold depF; rw [hk0, hk1]; rfl
      rw [e]
      go_enter Tryz.func187, Tryz.ntmps187
      go_wp2
      go_ret
      exact ⟨rfl, rfl⟩
    · have e : depF k d = inr d 1 8 := by unfold depF; rw [hk0, hk1]; simp
      rw [e]
      by_cases h1 : 1 ≤ d
      · by_cases h2 : d ≤ 8
        · rw [inr_yes ⟨h1, h2⟩]
          go_enter Tryz.func187, Tryz.ntmps187
          go_wp2
          go_ret
          exact ⟨rfl, rfl⟩
        · rw [inr_no (fun g => h2 g.2)]
          go_enter Tryz.func187, Tryz.ntmps187
          go_wp2
          go_ret
          exact ⟨rfl, rfl⟩
      · rw [inr_no (fun g => h1 g.1)]
        go_enter Tryz.func187, Tryz.ntmps187
        go_wp2
        go_ret
        exact ⟨rfl, rfl⟩
  · have hk : k = 0 := by simpa using hk0
    subst hk
    have e : depF 0 d = (d == 0) := by unfold depF; simp
    rw [e]
    cases hd : (d == 0)
    · go_enter Tryz.func187, Tryz.ntmps187
      go_wp2
      go_ret
      exact ⟨rfl, rfl⟩
    · go_enter Tryz.func187, Tryz.ntmps187
      go_wp2
      go_ret
      exact ⟨rfl, rfl⟩
set_option maxHeartbeats 1000000 in
theorem impl_chok (k f t d : Int) (q : Bool) (w : World) (HQ : Hid (chOk k f t d = q)) : Calls Tryz.prog 164 #[crw k f t d] w fun e w' => e = .returned (.bool q) ∧ Below w.heap.size w w' := by
  have hb : Below w.heap.size w (w.alloc (.cells (chrow k f t d) 105)) := (Below.refl _ w).alloc (Nat.le_refl _) _
  obtain ⟨qa, HA⟩ : ∃ q, Hid (inr f 0 5 = q) := ⟨_, rfl⟩
  obtain ⟨qb, HB⟩ : ∃ q, Hid (inr t 0 5 = q) := ⟨_, rfl⟩
  obtain ⟨qd, HD⟩ : ∃ q, Hid (depF k d = q) := ⟨_, rfl⟩
  have A0 : Hid (∀ w, Calls Tryz.prog 186 #[.int .i64 f] w fun e w' => e = .returned (.bool qa) ∧ w' = w) := fun w => by rw [← HA.out]; exact part_any _ w
  have A1 : Hid (∀ w, Calls Tryz.prog 186 #[.int .i64 t] w fun e w' => e = .returned (.bool qb) ∧ w' = w) := fun w => by rw [← HB.out]; exact part_any _ w
  have A2 : Hid (∀ w, Calls Tryz.prog 187 #[.int .i64 k, .int .i64 d] w fun e w' => e = .returned (.bool qd) ∧ w' = w) := fun w => by rw [← HD.out]; exact depth_any _ _ w
  have HE : Hid ((qa && (qb && ((f != t) && qd))) = q) := by rw [← HQ.out]; unfold chOk; rw [HA.out, HB.out]; have := HD.out; unfold depF at this; rw [this]; exact rfl
  clear HA HB HD HQ
  go_enter Tryz.func164, Tryz.ntmps164
  go_wp2_with fail
  refine (A0.out _).mono ?_
  rintro x w1 ⟨rfl, h1⟩
  rw [h1]
  clear h1 w1
  cases qa
  · have e : q = false := by rw [← HE.out]; rfl
    subst e
    go_wp2
    go_ret
    exact ⟨rfl, hb⟩
  go_wp2_with fail
  refine (A1.out _).mono ?_
  rintro x w1 ⟨rfl, h1⟩
  rw [h1]
  clear h1 w1
  cases qb
  · have e : q = false := by rw [← HE.out]; rfl
    subst e
    go_wp2
    go_ret
    exact ⟨rfl, hb⟩
  cases hft : (f != t)
  · have e : q = false := by rw [← HE.out, hft]; rfl
    subst e
    go_wp2
    go_ret
    exact ⟨rfl, hb⟩
  have e : q = qd := by rw [← HE.out, hft]; simp
  subst e
  go_wp2_with fail
  refine (A2.out _).mono ?_
  rintro x w1 ⟨rfl, h1⟩
  rw [h1]
  clear h1 w1
  go_wp2
  go_ret
  exact ⟨rfl, hb⟩
set_option maxHeartbeats 1000000 in
theorem impl_queues (k f t d : Int) (q : Bool) (w : World) (HQ : (k == 1) = q) : Calls Tryz.prog 204 #[crw k f t d] w fun e w' => e = .returned (.bool q) ∧ Below w.heap.size w w' := by
  have hb : Below w.heap.size w (w.alloc (.cells (chrow k f t d) 185)) := (Below.refl _ w).alloc (Nat.le_refl _) _
  cases q
  · go_enter Tryz.func204, Tryz.ntmps204
    go_wp2
    go_ret
    exact ⟨rfl, hb⟩
  · go_enter Tryz.func204, Tryz.ntmps204
    go_wp2
    go_ret
    exact ⟨rfl, hb⟩
/-- How many words an end may have. -/
def mostF (k d : Int) : Int := if k = 1 then d else 1
set_option maxHeartbeats 1000000 in
theorem impl_most (k f t d : Int) (m : Int) (w : World) (HM : Hid (mostF k d = m)) : Calls Tryz.prog 198 #[crw k f t d] w fun e w' => e = .returned (.int .i64 m) ∧ Below w.heap.size w w' := by
  have HB : Hid (Below w.heap.size w (w.alloc (.cells (chrow k f t d) 185))) := (Below.refl _ w).alloc (Nat.le_refl _) _
  have HK : Hid (Bk (w.alloc (.cells (chrow k f t d) 185)) w.heap.size (chrow k f t d)) := Bk.new w _ _ _ rfl
  obtain ⟨q, HQ⟩ : ∃ q, Hid ((k == 1) = q) := ⟨_, rfl⟩
  go_enter Tryz.func198, Tryz.ntmps198
  go_wp2_with fail
  refine (impl_queues k f t d q _ HQ.out).mono ?_
  rintro x w1 ⟨rfl, hb1⟩
  have HB1 : Hid (Below w.heap.size w w1) := HB.out.trans (hb1.mono HB.out.size)
  have K1 : Hid (Bk w1 w.heap.size (chrow k f t d)) := HK.out.below hb1
  clear hb1 HB HK
  have c0 := K1.out.cell 0 _ rfl
  have c3 := K1.out.cell 3 _ rfl
  cases q
  · have hk : ¬ k = 1 := by simpa using HQ.out
    have e : m = 1 := by rw [← HM.out]; exact if_neg hk
    subst e
    clear HQ hk
    go_wp2
    go_ret
    exact ⟨rfl, HB1.out⟩
  · have hk : k = 1 := by simpa using HQ.out
    have e : m = d := by rw [← HM.out]; exact if_pos hk
    subst e
    clear HQ hk
    go_wp2
    go_ret
    exact ⟨rfl, HB1.out⟩
end Go.Proofs.YtphdijkpjjokaaaGreatDoor
namespace Go.Proofs.YtphdijkpjjokaaaGreatDoor
open Go.ChangeShapes Go.WideShapes Go.ChangeAt Go.RowKit Go.Deep Go.Joins
set_option linter.unusedVariables false

abbrev chT := Int × Int × Int × Int
abbrev ch0 : chT := (0, 0, 0, 0)
def chL (x : chT) : List Value := [.int .i64 x.1, .int .i64 x.2.1, .int .i64 x.2.2.1, .int .i64 x.2.2.2]
def chX (xs : List chT) : Nat → List Value := fun i => chL (xs.getD i ch0)
abbrev chV (x : chT) : Value := .agg #[.int .i64 x.1, .int .i64 x.2.1, .int .i64 x.2.2.1, .int .i64 x.2.2.2]
theorem fit2 {x : Int} (h : (Lit.int .i64 x).wf = true) : x ≤ 9223372036854775807 ∧ -9223372036854775808 ≤ x := by
  have := bounds_i64 h
  omega
theorem ch_eq1 (x : chT) (w : World) : Calls Tryz.prog 66 #[chV x, chV x] w fun e w' => e = .returned (.bool true) ∧ Below w.heap.size w w' := by
  obtain ⟨x1, x2, x3, x4⟩ := x
  simp only [chV]
  go_enter Tryz.func66, Tryz.ntmps66
  go_wp2
  go_ret
  exact ⟨rfl, ((Below.refl _ _).alloc (Nat.le_refl _) _).alloc (by simp) _⟩
theorem ch_cells {w : World} {b o : Nat} {x : chT} (h : CellsAt w b o (chL x)) : w.cell? ⟨b, o, none⟩ = some (.int .i64 x.1) ∧ w.cell? ⟨b, o + 1, none⟩ = some (.int .i64 x.2.1) ∧ w.cell? ⟨b, o + 2, none⟩ = some (.int .i64 x.2.2.1) ∧ w.cell? ⟨b, o + 3, none⟩ = some (.int .i64 x.2.2.2) :=
  ⟨h 0 _ rfl, h 1 _ rfl, h 2 _ rfl, h 3 _ rfl⟩
theorem ch_info : (Tryz.prog.info? 105).map (fun i => (i.zero, i.size, i.bytes)) = some (some (.agg #[.int .i64 0, .int .i64 0, .int .i64 0, .int .i64 0]), 4, 32) := by kernel_rfl
theorem ch_make (n : Nat) (hn : n ≤ 1048576) (w : World) : (Instr.makeSlice 38 (.int .i64 (n : Int)) (.int .i64 (n : Int))).run Tryz.prog w = .ok (.slice (some ⟨w.heap.size, 0, none⟩) n n) (w.alloc (.cells (madeCells #[.int .i64 0, .int .i64 0, .int .i64 0, .int .i64 0] (n * 4)) 105)) := by
  obtain ⟨i, hi, hzz⟩ := Option.map_eq_some_iff.1 ch_info
  simp only [Prod.mk.injEq] at hzz
  obtain ⟨hz, hs, hb⟩ := hzz
  have := run_make (P := Tryz.prog) w 38 105 i _ Tryz.underlying38 hi hz .i64 .i64 n n (by omega) (Int.le_refl _) (by rw [hb]; omega) (by omega)
  rw [hs, Int.toNat_natCast] at this
  exact this
set_option maxHeartbeats 2000000 in
theorem ch_eqs (a b : Option Addr) (ca cb n : Nat) (xs : List chT) (w : World) (ha : GSeg 4 w a n (chX xs)) (hb : GSeg 4 w b n (chX xs)) (hn : n ≤ 1048576) :
    Calls Tryz.prog 43 #[.slice a n ca, .slice b n cb] w fun e w' => e = .returned (.bool true) ∧ Below w.heap.size w w' := by
  have HA : Hid (GSeg 4 w a n (chX xs) ∧ GSeg 4 w b n (chX xs)) := And.intro ha hb
  clear ha hb
  go_enter Tryz.func43, Tryz.ntmps43
  go_wp2
  go_loopw [5] (fun i wr => ∃ k : Nat, k ≤ n ∧ i = .int .i64 k ∧ Hid (Below w.heap.size w wr)) (fun i _ => n - (intOf i).toNat)
  case atStart => exact ⟨0, by omega, rfl, Below.refl _ _⟩
  case round =>
    obtain ⟨k, hk, rfl, HB⟩ := hrel
    by_cases hlt : k < n
    · have hlt' : (k : Int) < (n : Int) := by omega
      obtain ⟨b1, o1, rfl, hbl1, p1⟩ := HA.out.1.at k hlt
      obtain ⟨b2, o2, rfl, hbl2, p2⟩ := HA.out.2.at k hlt
      have hb := HB.out
      replace p1 := p1.of (w' := wr) (fun i => hb.cell (p := ⟨b1, i, none⟩) hbl1)
      replace p2 := p2.of (w' := wr) (fun i => hb.cell (p := ⟨b2, i, none⟩) hbl2)
      simp only [chX] at p1 p2
      generalize xs.getD k ch0 = x at p1 p2
      obtain ⟨c0, c1, c2, c3⟩ := ch_cells p1
      obtain ⟨d0, d1, d2, d3⟩ := ch_cells p2
      have HE : Hid _ := fun X => ch_eq1 x X
      obtain ⟨x1, x2, x3, x4⟩ := x
      simp only [chV] at c0 c1 c2 c3 d0 d1 d2 d3 HE
      replace hb : Hid (Below w.heap.size w wr) := hb
      clear hbl1 hbl2 HB p1 p2
      replace c0 := fun X => gr_cell c0 X
      replace c1 := fun X => gr_cell c1 X
      replace c2 := fun X => gr_cell c2 X
      replace c3 := fun X => gr_cell c3 X
      replace d0 := fun X => gr_cell d0 X
      replace d1 := fun X => gr_cell d1 X
      replace d2 := fun X => gr_cell d2 X
      replace d3 := fun X => gr_cell d3 X
      go_wp2
      have hgr := gr_some wr
      refine region_alike (by kernel_rfl) (by kernel_rfl) ?_
      repeat (go_big_quiet_step (first | (go_at_call 66; exact gr_call (HE.out _))))
      refine wpQuiet_nil ?_
      intro _ hw'
      obtain ⟨X1, rfl⟩ := hw'
      have hb2 := X1.h
      generalize X1.w = W1 at hb2 ⊢
      have HB2 : Hid (Below w.heap.size w W1) := hb.out.trans (hb2.mono hb.out.size)
      clear hb2 c0 c1 c2 c3 d0 d1 d2 d3
      go_wp2
      go_roundw
      case rel => exact ⟨k + 1, by omega, by go_num, HB2⟩
      case measure => simp [intOf]; omega
    · go_wp2
      go_ret
      exact ⟨rfl, HB.out⟩
set_option maxHeartbeats 1000000 in
theorem ch_tos (a : Option Addr) (cap n : Nat) (xs : List chT) (w : World) (hs : GSeg 4 w a n (chX xs)) (hn : n ≤ 1048576) :
    Calls Tryz.prog 33 #[.slice a n cap] w fun e w' => e = .returned (.slice (some ⟨w.heap.size, 0, none⟩) n n) ∧ Below w.heap.size w w' ∧ GBlk 4 w' w.heap.size n n (chX xs) := by
  have hmk := ch_make n hn
  have HS : Hid (GSeg 4 w a n (chX xs)) := hs
  clear hs
  go_enter Tryz.func33, Tryz.ntmps33
  go_wp2
  go_loopw [4] (fun i wr => ∃ k : Nat, k ≤ n ∧ i = .int .i64 k ∧ Hid (Below w.heap.size w wr ∧ GBlk 4 wr w.heap.size n k (chX xs))) (fun i _ => n - (intOf i).toNat)
  case atStart => exact ⟨0, by omega, rfl, (Below.refl _ _).alloc (Nat.le_refl _) _, GBlk.made 4 w n 105 _ _ rfl⟩
  case round =>
    obtain ⟨k, hk, rfl, HB⟩ := hrel
    by_cases hlt : k < n
    · have hlt' : (k : Int) < (n : Int) := by omega
      obtain ⟨b1, o1, rfl, hbl1, p1⟩ := HS.out.at k hlt
      have hb := HB.out.1
      replace p1 := p1.of (w' := wr) (fun i => hb.cell (p := ⟨b1, i, none⟩) hbl1)
      obtain ⟨x, HP⟩ : ∃ p, Hid (xs.getD k ch0 = p) := ⟨_, rfl⟩
      have HX : Hid (chX xs k = chL x) := by show _ = _; unfold chX; rw [HP.out]
      rw [HX.out] at p1
      obtain ⟨c0, c1, c2, c3⟩ := ch_cells p1
      obtain ⟨x1, x2, x3, x4⟩ := x
      simp only at c0 c1 c2 c3
      clear hbl1 p1
      go_wp2_with fail
      refine (to_row x1 x2 x3 x4 _).mono ?_
      rintro u w2 ⟨rfl, hbb⟩
      have hp2 := HB.out.2.below hbb
      have hb2 := hb.trans (hbb.mono hb.size)
      obtain ⟨u1, hu1⟩ := hp2.room k hlt 0 (by omega)
      obtain ⟨u2, hu2⟩ := hp2.room k hlt 1 (by omega)
      obtain ⟨u3, hu3⟩ := hp2.room k hlt 2 (by omega)
      obtain ⟨u4, hu4⟩ := hp2.room k hlt 3 (by omega)
      have hf := hp2.free
      have HB3 : Hid (Below w.heap.size w ((((w2.setCell ⟨w.heap.size, k * 4, none⟩ (.int .i64 x1)).setCell ⟨w.heap.size, k * 4 + 1, none⟩ (.int .i64 x2)).setCell ⟨w.heap.size, k * 4 + 2, none⟩ (.int .i64 x3)).setCell ⟨w.heap.size, k * 4 + 3, none⟩ (.int .i64 x4)) ∧ GBlk 4 ((((w2.setCell ⟨w.heap.size, k * 4, none⟩ (.int .i64 x1)).setCell ⟨w.heap.size, k * 4 + 1, none⟩ (.int .i64 x2)).setCell ⟨w.heap.size, k * 4 + 2, none⟩ (.int .i64 x3)).setCell ⟨w.heap.size, k * 4 + 3, none⟩ (.int .i64 x4)) w.heap.size n (k + 1) (chX xs)) :=
        ⟨setAll_below (Nat.le_refl _) [.int .i64 x1, .int .i64 x2, .int .i64 x3, .int .i64 x4] (k * 4) hb2, hp2.put hlt [.int .i64 x1, .int .i64 x2, .int .i64 x3, .int .i64 x4] rfl HX.out (fun _ _ => rfl)⟩
      rw [Nat.add_zero] at hu1
      have hv2 : (w2.setCell ⟨w.heap.size, k * 4, none⟩ (.int .i64 x1)).cell? ⟨w.heap.size, k * 4 + 1, none⟩ = some u2 := by rw [World.cell?_setCell_other _ _ _ _ (by simp)]; exact hu2
      have hv3 : ((w2.setCell ⟨w.heap.size, k * 4, none⟩ (.int .i64 x1)).setCell ⟨w.heap.size, k * 4 + 1, none⟩ (.int .i64 x2)).cell? ⟨w.heap.size, k * 4 + 2, none⟩ = some u3 := by rw [World.cell?_setCell_other _ _ _ _ (by simp), World.cell?_setCell_other _ _ _ _ (by simp)]; exact hu3
      have hv4 : (((w2.setCell ⟨w.heap.size, k * 4, none⟩ (.int .i64 x1)).setCell ⟨w.heap.size, k * 4 + 1, none⟩ (.int .i64 x2)).setCell ⟨w.heap.size, k * 4 + 2, none⟩ (.int .i64 x3)).cell? ⟨w.heap.size, k * 4 + 3, none⟩ = some u4 := by rw [World.cell?_setCell_other _ _ _ _ (by simp), World.cell?_setCell_other _ _ _ _ (by simp), World.cell?_setCell_other _ _ _ _ (by simp)]; exact hu4
      clear hbb hp2 hb2 HB hb c0 c1 c2 c3
      go_wp2
      go_roundw
      case rel => exact ⟨k + 1, by omega, by go_num, HB3⟩
      case measure => simp [intOf]; omega
    · obtain rfl : k = n := by omega
      go_wp2
      go_ret
      exact ⟨rfl, HB.out.1, HB.out.2⟩
theorem ch_sz (a : Option Addr) (cap n L : Nat) (w : World) (hn : n ≤ 9223372036854775807) (hL : L ≤ 1048576) :
    Calls Tryz.prog 23 #[.slice a n cap, .int .i64 (L : Int)] w fun e w' => (∃ r : Int, e = .returned (.int .i64 r) ∧ (r = -1 ∨ (r = ((L - n : Nat) : Int) ∧ n ≤ L))) ∧ w' = w := by
  by_cases h : n ≤ L
  · obtain ⟨d, rfl⟩ : ∃ d, L = n + d := ⟨L - n, by omega⟩
    have hw : IntKind.i64.wrap (((n + d : Nat) : Int) - (n : Int)) = (d : Int) := by rw [show ((n + d : Nat) : Int) - (n : Int) = (d : Int) by omega, IntKind.wrap_i64]; omega
    have h0 : ¬ ((d : Int) < 0) := by omega
    go_enter Tryz.func23, Tryz.ntmps23
    go_wp2
    go_ret
    exact ⟨⟨_, rfl, by omega⟩, rfl⟩
  · have hw : IntKind.i64.wrap ((L : Int) - (n : Int)) = (L : Int) - (n : Int) := by rw [IntKind.wrap_i64]; omega
    have h0 : (L : Int) - (n : Int) < 0 := by omega
    go_enter Tryz.func23, Tryz.ntmps23
    go_wp2
    go_ret
    exact ⟨⟨_, rfl, .inl rfl⟩, rfl⟩
set_option maxRecDepth 20000 in
set_option maxHeartbeats 1000000 in
theorem ch_every (a : Option Addr) (cap n : Nat) (xs : List chT) (P : Nat → Bool) (q : Bool) (fid : Nat) (caps : Array Value) (w : World) (hs : GSeg 4 w a n (chX xs)) (hn : n ≤ 9223372036854775807) (hen : ∀ args (v : World), (callFunc fid args).run Tryz.prog v = .ok (.enter fid args) v)
    (hf : ∀ i, i < n → ∀ X, Below w.heap.size w X → Calls Tryz.prog fid (#[chV (xs.getD i ch0)] ++ caps) X fun e w' => e = .returned (.bool (P i)) ∧ Below X.heap.size X w')
    (hq : q = true ↔ ∀ i, i < n → P i = true) :
    Calls Tryz.prog 162 #[.slice a n cap, .func (.func fid) #[] caps] w fun e w' => e = .returned (.bool q) ∧ Below w.heap.size w w' := by
  have HQ : Hid (q = true ↔ ∀ i, i < n → P i = true) := hq
  have HS : Hid (GSeg 4 w a n (chX xs)) := hs
  have HF : Hid (∀ i, i < n → ∀ X, Below w.heap.size w X → Calls Tryz.prog fid (#[chV (xs.getD i ch0)] ++ caps) X fun e w' => e = .returned (.bool (P i)) ∧ Below X.heap.size X w') := hf
  clear hq hs hf
  go_enter Tryz.func162, Tryz.ntmps162
  go_wp2
  go_loopw [9] (fun i wr => ∃ m : Nat, m ≤ n ∧ i = .int .i64 m ∧ Hid (Below w.heap.size w wr ∧ ∀ j, j < m → P j = true)) (fun i _ => n - (intOf i).toNat)
  case atStart => exact ⟨0, by omega, rfl, Below.refl _ _, fun i hi => absurd hi (by omega)⟩
  case round =>
    obtain ⟨m, hm, rfl, HR⟩ := hrel
    by_cases hmn : m < n
    rotate_left
    · obtain rfl : m = n := by omega
      have HT : Hid (q = true) := HQ.out.2 HR.out.2
      go_wp2
      go_ret
      exact ⟨ret_bool HT.out.symm, HR.out.1⟩
    have hmn' : (m : Int) < (n : Int) := by omega
    obtain ⟨b1, o1, rfl, hbl1, p1⟩ := HS.out.at m hmn
    replace p1 := p1.of (w' := wr) (fun j => HR.out.1.cell (p := ⟨b1, j, none⟩) hbl1)
    have HFm : Hid _ := HF.out m hmn
    have HPm : Hid (P m = false → q = false) := fun h => not_true HQ.out (fun g => by rw [g m hmn] at h; cases h)
    have HPt : Hid (P m = true → ∀ j, j < m + 1 → P j = true) := fun h j hj => by
      by_cases e : j = m
      · subst e; exact h
      · exact HR.out.2 j (by omega)
    simp only [chX] at p1
    generalize xs.getD m ch0 = x at p1 HFm
    generalize P m = pm at HFm HPm HPt
    obtain ⟨c0, c1, c2, c3⟩ := ch_cells p1
    obtain ⟨x1, x2, x3, x4⟩ := x
    simp only [chV] at c0 c1 c2 c3 HFm
    have hb0 : Hid (Below w.heap.size w (wr.alloc (.cells #[.int .i64 x1, .int .i64 x2, .int .i64 x3, .int .i64 x4] 105))) := HR.out.1.alloc HR.out.1.size _
    clear p1 hbl1
    go_wp2_with fail
    refine (HFm.out _ hb0.out).mono ?_
    rintro u w1 ⟨rfl, hb1⟩
    have HB1 : Hid (Below w.heap.size w w1) := hb0.out.trans (hb1.mono hb0.out.size)
    clear hb1 hb0 c0 c1 c2 c3
    cases pm
    · have HT : Hid (q = false) := HPm.out (by trivial)
      go_wp2
      go_ret
      exact ⟨ret_bool HT.out.symm, HB1.out⟩
    · have HT : Hid _ := HPt.out (by trivial)
      go_wp2
      go_roundw
      case rel => exact ⟨m + 1, by omega, by go_num, HB1.out, HT.out⟩
      case measure => simp [intOf]; omega
theorem ch_lcells : Tryz.prog.cellsOf 107 = 4 := by kernel_rfl
set_option maxRecDepth 100000 in
theorem ch_open {H : Type} {enc : TypeId × Value → H} {W : World} {base : Nat} {spare : Nat → Bool} {held : Bool} {fuel : Nat} {cs : List Value} {x : DataW H × List MemPlace}
    (h : DataW.trod enc Tryz.prog W base spare held fuel 28 cs = some x) : ∃ a n c xs, cs = [.slice a n c] ∧ GSeg 4 W a n (chX xs) ∧ xs.length = n ∧ n ≤ 9223372036854775807 ∧ ∀ i, i < n → ((xs.getD i ch0).1 ≤ 9223372036854775807 ∧ -9223372036854775808 ≤ (xs.getD i ch0).1) ∧ ((xs.getD i ch0).2.1 ≤ 9223372036854775807 ∧ -9223372036854775808 ≤ (xs.getD i ch0).2.1) ∧ ((xs.getD i ch0).2.2.1 ≤ 9223372036854775807 ∧ -9223372036854775808 ≤ (xs.getD i ch0).2.2.1) ∧ ((xs.getD i ch0).2.2.2 ≤ 9223372036854775807 ∧ -9223372036854775808 ≤ (xs.getD i ch0).2.2.2) := by
  rcases open_slice (P := Tryz.prog) Tryz.underlying28 h with ⟨rfl, _⟩ | ⟨a, len, cap, m, n, D, Pl, rfl, hb, hl, hm, hmm, rfl, hx⟩
  · exact ⟨none, 0, 0, [], rfl, fun h => absurd h (by simp), rfl, by simp, fun i hi => absurd hi (by simp)⟩
  · have hlm : len ≤ m := by rw [hmm]; split <;> omega
    obtain ⟨Z, hZ⟩ := choose_lt (α := chT) (n := len) (p := fun i z => (W.cell? (a.add (i * 4)) = some (.int .i64 z.1) ∧ W.cell? (a.add (i * 4 + 1)) = some (.int .i64 z.2.1) ∧ W.cell? (a.add (i * 4 + 2)) = some (.int .i64 z.2.2.1) ∧ W.cell? (a.add (i * 4 + 3)) = some (.int .i64 z.2.2.2)) ∧ ((z.1 ≤ 9223372036854775807 ∧ -9223372036854775808 ≤ z.1) ∧ (z.2.1 ≤ 9223372036854775807 ∧ -9223372036854775808 ≤ z.2.1) ∧ (z.2.2.1 ≤ 9223372036854775807 ∧ -9223372036854775808 ≤ z.2.2.1) ∧ (z.2.2.2 ≤ 9223372036854775807 ∧ -9223372036854775808 ≤ z.2.2.2))) (fun i hi => by
      obtain ⟨cs', h1, h2⟩ := hx i (by omega)
      rw [ch_lcells] at h1
      obtain ⟨_, hlen, hcell⟩ := World.cells?_some h1
      obtain ⟨xs, k, hk, hxy, _, hxl, hfs⟩ := DataW.trod_struct Tryz.underlying107 h2
      obtain ⟨y0, y1, y2, y3, rfl⟩ := list4 hxl
      obtain ⟨v0, v1, v2, v3, rfl⟩ := list4 hlen
      have g0 := hfs 0 _ rfl
      have g1 := hfs 1 _ rfl
      have g2 := hfs 2 _ rfl
      have g3 := hfs 3 _ rfl
      simp [cells3] at g0 g1 g2 g3
      obtain ⟨b0, e0, rfl, w0⟩ := DataW.trod_int Tryz.underlying3 g0
      obtain ⟨b1, e1, rfl, w1⟩ := DataW.trod_int Tryz.underlying3 g1
      obtain ⟨b2, e2, rfl, w2⟩ := DataW.trod_int Tryz.underlying3 g2
      obtain ⟨b3, e3, rfl, w3⟩ := DataW.trod_int Tryz.underlying3 g3
      injection e0 with e0
      injection e1 with e1
      injection e2 with e2
      injection e3 with e3
      have c0 := hcell 0 (by omega)
      have c1 := hcell 1 (by omega)
      have c2 := hcell 2 (by omega)
      have c3 := hcell 3 (by omega)
      rw [add_add] at c0 c1 c2 c3
      refine ⟨(b0, b1, b2, b3), ⟨?_, ?_, ?_, ?_⟩, ⟨fit2 w0, fit2 w1, fit2 w2, fit2 w3⟩⟩
      · simpa [e0] using c0
      · simpa [e1] using c1
      · simpa [e2] using c2
      · simpa [e3] using c3)
    have hg : ∀ i, i < len → ((List.range len).map Z).getD i ch0 = Z i := fun i hi => by simp [List.getD, hi]
    refine ⟨some a, len, cap, (List.range len).map Z, rfl, fun h0 => ?_, by simp, by have : maxLen = 9223372036854775807 := rfl; omega, fun i hi => ?_⟩
    · obtain ⟨b, off, rfl, hlt⟩ := addr_of (hZ 0 h0).1.1 (by omega)
      refine ⟨b, off, rfl, hlt, fun i hi => ?_⟩
      have := (hZ i hi).1
      rw [add_plain, add_plain, add_plain, add_plain, ← Nat.add_assoc, ← Nat.add_assoc, ← Nat.add_assoc] at this
      intro j v hj
      simp only [chX, hg i hi, chL] at hj
      match j, hj with
      | 0, hj => injection hj with hj; subst hj; exact this.1
      | 1, hj => injection hj with hj; subst hj; exact this.2.1
      | 2, hj => injection hj with hj; subst hj; exact this.2.2.1
      | 3, hj => injection hj with hj; subst hj; exact this.2.2.2
      | j + 4, hj => simp at hj
    · rw [hg i hi]
      exact (hZ i hi).2
end Go.Proofs.YtphdijkpjjokaaaGreatDoor
