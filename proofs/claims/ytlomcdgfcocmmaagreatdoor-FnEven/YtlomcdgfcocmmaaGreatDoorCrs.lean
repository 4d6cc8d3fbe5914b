/-
  Rows of channels: right or not, how many words one can hold, by both sides. No conditions.
  Lists of channels in memory: copies, likeness, the measure, whether a test holds of every one; how a list that came in is read. Conditions: lengths are at most 1048576 where a copy is made.
-/
import Derived.Test.YtlomcdgfcocmmaaGreatDoorBas
import Derived.Test.YtlomcdgfcocmmaaGreatDoorGen
import Derived.WalkKit
import Derived.Deep.QuietTactic
import Derived.Deep.RegionHeldLaw
import Derived.Deep.RegionWith
import Derived.BigRegion
import Derived.BigQuiet
import Derived.Deep.RegionHeld3
import Derived.Deep.SlicePairs
import Derived.OwnWalk
import Derived.Lib.SmallJoins
namespace Go.Proofs.YtlomcdgfcocmmaaGreatDoor
open Go.ChangeShapes Go.WideShapes Go.ChangeAt Go.RowKit Go.Deep
set_option linter.unusedVariables false

abbrev crw (k f t d : Int) : Value := .agg #[.int .i64 k, .int .i64 f, .int .i64 t, .int .i64 d]
abbrev chrow (k f t d : Int) : Array Value := #[.int .i64 k, .int .i64 f, .int .i64 t, .int .i64 d]
/-- A row that is right. -/
def chOk (k f t d : Int) : Bool := inr f 0 5 && (inr t 0 5 && (!(f == t) && ((k == 0 && d == 0) || (k == 1 && inr d 1 8))))
theorem chOk_k {k f t d : Int} (h : chOk k f t d = true) : (k = 0 ∧ d = 0) ∨ (k = 1 ∧ 1 ≤ d ∧ d ≤ 8) := by
  unfold chOk at h
  simp [inr] at h
  omega
set_option maxHeartbeats 1000000 in
theorem spec_chok (k f t d : Int) (q : Bool) (w : World) (HQ : Hid (chOk k f t d = q)) : Calls Tryz.prog 92 #[crw k f t d] w fun e w' => e = .returned (.bool q) ∧ Below w.heap.size w w' := by
  have hb : Below w.heap.size w (w.alloc (.cells (chrow k f t d) 76)) := (Below.refl _ w).alloc (Nat.le_refl _) _
  obtain ⟨qa, HA⟩ : ∃ q, Hid (inr f 0 5 = q) := ⟨_, rfl⟩
  obtain ⟨qb, HB⟩ : ∃ q, Hid (inr t 0 5 = q) := ⟨_, rfl⟩
  obtain ⟨qd, HD⟩ : ∃ q, Hid (inr d 1 8 = q) := ⟨_, rfl⟩
  have A0 : Hid (∀ w, Calls Tryz.prog 33 #[.int .i64 f, .int .i64 0, .int .i64 5] w fun e w' => e = .returned (.bool qa) ∧ w' = w) := fun w => by rw [← HA.out]; exact in_any _ _ _ w
  have A1 : Hid (∀ w, Calls Tryz.prog 33 #[.int .i64 t, .int .i64 0, .int .i64 5] w fun e w' => e = .returned (.bool qb) ∧ w' = w) := fun w => by rw [← HB.out]; exact in_any _ _ _ w
  have A2 : Hid (∀ w, Calls Tryz.prog 33 #[.int .i64 d, .int .i64 1, .int .i64 8] w fun e w' => e = .returned (.bool qd) ∧ w' = w) := fun w => by rw [← HD.out]; exact in_any _ _ _ w
  have HE : Hid ((qa && (qb && (!(f == t) && ((k == 0 && d == 0) || (k == 1 && qd))))) = q) := by rw [← HQ.out]; unfold chOk; rw [HA.out, HB.out, HD.out]; exact rfl
  clear HA HB HD HQ
  go_enter Tryz.func92, Tryz.ntmps92
  go_wp2_with fail
  refine (A0.out _).mono ?_
  rintro x w1 ⟨rfl, h1⟩
  rw [h1]
  clear h1 w1
  cases qa
  · have e : q = false := by rw [← HE.out]; rfl
    subst e
    go_wp2
    go_ret
    exact ⟨rfl, hb⟩
  go_wp2_with fail
  refine (A1.out _).mono ?_
  rintro x w1 ⟨rfl, h1⟩
  rw [h1]
  clear h1 w1
  cases qb
  · have e : q = false := by rw [← HE.out]; rfl
    subst e
    go_wp2
    go_ret
    exact ⟨rfl, hb⟩
  cases hft : (f == t)
  rotate_left
  · have e : q = false := by rw [← HE.out, hft]; rfl
    subst e
    go_wp2
    go_ret
    exact ⟨rfl, hb⟩
  cases hk0 : (k == 0)
  · cases hk1 : (k == 1)
    · have e : q = false := by rw [← HE.out, hft, hk0, hk1]; rfl
      subst e
      go_wp2
      go_ret
      exact ⟨rfl, hb⟩
    · have e : q = qd := by rw [← HE.out, hft, hk0, hk1]; simp
      subst e
      go_wp2_with fail
      refine (A2.out _).mono ?_
      rintro x w1 ⟨rfl, h1⟩
      rw [h1]
      clear h1 w1
      go_wp2
      go_ret
      exact ⟨rfl, hb⟩
  · have hk1 : (k == 1) = false := by
      have : k = 0 := by simpa using hk0
      subst this; rfl
    cases hd0 : (d == 0)
    · have e : q = false := by rw [← HE.out, hft, hk0, hk1, hd0]; rfl
      subst e
      go_wp2
      go_ret
      exact ⟨rfl, hb⟩
    · have e : q = true := by rw [← HE.out, hft, hk0, hd0]; simp
      subst e
      go_wp2
      go_ret
      exact ⟨rfl, hb⟩
theorem part_any (x : Int) (w : World) : Calls Tryz.prog 184 #[.int .i64 x] w fun e w' => e = .returned (.bool (inr x 0 5)) ∧ w' = w := by
  by_cases h1 : 0 ≤ x
  · by_cases h2 : x < 6
    · rw [inr_yes ⟨h1, by omega⟩]
      go_enter Tryz.func184, Tryz.ntmps184
      go_wp2
      go_ret
      exact ⟨rfl, rfl⟩
    · rw [inr_no (fun g => h2 (by omega))]
      go_enter Tryz.func184, Tryz.ntmps184
      go_wp2
      go_ret
      exact ⟨rfl, rfl⟩
  · rw [inr_no (fun g => h1 g.1)]
    go_enter Tryz.func184, Tryz.ntmps184
    go_wp2
    go_ret
    exact ⟨rfl, rfl⟩
/-- A depth that is right for its kind. -/
def depF (k d : Int) : Bool := (k == 0 && d == 0) || (k == 1 && inr d 1 8)
theorem depth_any (k d : Int) (w : World) : Calls Tryz.prog 185 #[.int .i64 k, .int .i64 d] w fun e w' => e = .returned (.bool (depF k d)) ∧ w' = w := by
  cases hk0 : (k == 0)
  · cases hk1 : (k == 1)
    · have e : depF k d = false := by unfold depF; rw [hk0, hk1]; rfl
      rw [e]
      go_enter Tryz.func185, Tryz.ntmps185
      go_wp2
      go_ret
      exact ⟨rfl, rfl⟩
    · have e : depF k d = inr d 1 8 := by unfold depF; rw [hk0, hk1]; simp
      rw [e]
      by_cases h1 : 1 ≤ d
      · by_cases h2 : d ≤ 8
        · rw [inr_yes ⟨h1, h2⟩]
          go_enter Tryz.func185, Tryz.ntmps185
          go_wp2
          go_ret
          exact ⟨rfl, rfl⟩
        · rw [inr_no (fun g => h2 g.2)]
          go_enter Tryz.func185, Tryz.ntmps185
          go_wp2
          go_ret
          exact ⟨rfl, rfl⟩
      · rw [inr_no (fun g => h1 g.1)]
        go_enter Tryz.func185, Tryz.ntmps185
        go_wp2
        go_ret
        exact ⟨rfl, rfl⟩
  · have hk : k = 0 := by simpa using hk0
    subst hk
    have e : depF 0 d = (d == 0) := by unfold depF; simp
    rw [e]
    cases hd : (d == 0)
    · go_enter Tryz.func185, Tryz.ntmps185
      go_wp2
      go_ret
      exact ⟨rfl, rfl⟩
    · go_enter Tryz.func185, Tryz.ntmps185
      go_wp2
      go_ret
      exact ⟨rfl, rfl⟩
set_option maxHeartbeats 1000000 in
theorem impl_chok (k f t d : Int) (q : Bool) (w : World) (HQ : Hid (chOk k f t d = q)) : Calls Tryz.prog 158 #[crw k f t d] w fun e w' => e = .returned (.bool q) ∧ Below w.heap.size w w' := by
  have hb : Below w.heap.size w (w.alloc (.cells (chrow k f t d) 76)) := (Below.refl _ w).alloc (Nat.le_refl _) _
  obtain ⟨qa, HA⟩ : ∃ q, Hid (inr f 0 5 = q) := ⟨_, rfl⟩
  obtain ⟨qb, HB⟩ : ∃ q, Hid (inr t 0 5 = q) := ⟨_, rfl⟩
  obtain ⟨qd, HD⟩ : ∃ q, Hid (depF k d = q) := ⟨_, rfl⟩
  have A0 : Hid (∀ w, Calls Tryz.prog 184 #[.int .i64 f] w fun e w' => e = .returned (.bool qa) ∧ w' = w) := fun w => by rw [← HA.out]; exact part_any _ w
  have A1 : Hid (∀ w, Calls Tryz.prog 184 #[.int .i64 t] w fun e w' => e = .returned (.bool qb) ∧ w' = w) := fun w => by rw [← HB.out]; exact part_any _ w
  have A2 : Hid (∀ w, Calls Tryz.prog 185 #[.int .i64 k, .int .i64 d] w fun e w' => e = .returned (.bool qd) ∧ w' = w) := fun w => by rw [← HD.out]; exact depth_any _ _ w
  have HE : Hid ((qa && (qb && ((f != t) && qd))) = q) := by rw [← HQ.out]; unfold chOk; rw [HA.out, HB.out]; have := HD.out; unfold depF at this; rw [this]; exact rfl
  clear HA HB HD HQ
  go_enter Tryz.func158, Tryz.ntmps158
  go_wp2_with fail
  refine (A0.out _).mono ?_
  rintro x w1 ⟨rfl, h1⟩
  rw [h1]
  clear h1 w1
  cases qa
  · have e : q = false := by rw [← HE.out]; rfl
    subst e
    go_wp2
    go_ret
    exact ⟨rfl, hb⟩
  go_wp2_with fail
  refine (A1.out _).mono ?_
  rintro x w1 ⟨rfl, h1⟩
  rw [h1]
  clear h1 w1
  cases qb
  · have e : q = false := by rw [← HE.out]; rfl
    subst e
    go_wp2
    go_ret
    exact ⟨rfl, hb⟩
  cases hft : (f != t)
  · have e : q = false := by rw [← HE.out, hft]; rfl
    subst e
    go_wp2
    go_ret
    exact ⟨rfl, hb⟩
  have e : q = qd := by rw [← HE.out, hft]; simp
  subst e
  go_wp2_with fail
  refine (A2.out _).mono ?_
  rintro x w1 ⟨rfl, h1⟩
  rw [h1]
  clear h1 w1
  go_wp2
  go_ret
  exact ⟨rfl, hb⟩
set_option maxHeartbeats 1000000 in
theorem impl_queues (k f t d : Int) (q : Bool) (w : World) (HQ : (k == 1) = q) : Calls Tryz.prog 203 #[crw k f t d] w fun e w' => e = .returned (.bool q) ∧ Below w.heap.size w w' := by
  have hb : Below w.heap.size w (w.alloc (.cells (chrow k f t d) 167)) := (Below.refl _ w).alloc (Nat.le_refl _) _
  cases q
  · go_enter Tryz.func203, Tryz.ntmps203
    go_wp2
    go_ret
    exact ⟨rfl, hb⟩
  · go_enter Tryz.func203, Tryz.ntmps203
    go_wp2
    go_ret
    exact ⟨rfl, hb⟩
/-- How many words an end may have. -/
def mostF (k d : Int) : Int := if k = 1 then d else 1
set_option maxHeartbeats 1000000 in
theorem impl_most (k f t d : Int) (m : Int) (w : World) (HM : Hid (mostF k d = m)) : Calls Tryz.prog 197 #[crw k f t d] w fun e w' => e = .returned (.int .i64 m) ∧ Below w.heap.size w w' := by
  have HB : Hid (Below w.heap.size w (w.alloc (.cells (chrow k f t d) 167))) := (Below.refl _ w).alloc (Nat.le_refl _) _
  have HK : Hid (Bk (w.alloc (.cells (chrow k f t d) 167)) w.heap.size (chrow k f t d)) := Bk.new w _ _ _ rfl
  obtain ⟨q, HQ⟩ : ∃ q, Hid ((k == 1) = q) := ⟨_, rfl⟩
  go_enter Tryz.func197, Tryz.ntmps197
  go_wp2_with fail
  refine (impl_queues k f t d q _ HQ.out).mono ?_
  rintro x w1 ⟨rfl, hb1⟩
  have HB1 : Hid (Below w.heap.size w w1) := HB.out.trans (hb1.mono HB.out.size)
  have K1 : Hid (Bk w1 w.heap.size (chrow k f t d)) := HK.out.below hb1
  clear hb1 HB HK
  have c0 := K1.out.cell 0 _ rfl
  have c3 := K1.out.cell 3 _ rfl
  cases q
  · have hk : ¬ k = 1 := by simpa using HQ.out
    have e : m = 1 := by rw [← HM.out]; exact if_neg hk
    subst e
    clear HQ hk
    go_wp2
    go_ret
    exact ⟨rfl, HB1.out⟩
  · have hk : k = 1 := by simpa using HQ.out
    have e : m = d := by rw [← HM.out]; exact if_pos hk
    subst e
    clear HQ hk
    go_wp2
    go_ret
    exact ⟨rfl, HB1.out⟩
end Go.Proofs.YtlomcdgfcocmmaaGreatDoor
namespace Go.Proofs.YtlomcdgfcocmmaaGreatDoor
open Go.ChangeShapes Go.WideShapes Go.ChangeAt Go.RowKit Go.Deep Go.Joins
set_option linter.unusedVariables false

abbrev chT := Int × Int × Int × Int
abbrev ch0 : chT := (0, 0, 0, 0)
def chL (x : chT) : List Value := [.int .i64 x.1, .int .i64 x.2.1, .int .i64 x.2.2.1, .int .i64 x.2.2.2]
def chX (xs : List chT) : Nat → List Value := fun i => chL (xs.getD i ch0)
abbrev chV (x : chT) : Value := .agg #[.int .i64 x.1, .int .i64 x.2.1, .int .i64 x.2.2.1, .int .i64 x.2.2.2]
theorem fit2 {x : Int} (h : (Lit.int .i64 x).wf = true) : x ≤ 9223372036854775807 ∧ -9223372036854775808 ≤ x := by
  have := bounds_i64 h
  omega
theorem ch_cells {w : World} {b o : Nat} {x : chT} (h : CellsAt w b o (chL x)) : w.cell? ⟨b, o, none⟩ = some (.int .i64 x.1) ∧ w.cell? ⟨b, o + 1, none⟩ = some (.int .i64 x.2.1) ∧ w.cell? ⟨b, o + 2, none⟩ = some (.int .i64 x.2.2.1) ∧ w.cell? ⟨b, o + 3, none⟩ = some (.int .i64 x.2.2.2) :=
  ⟨h 0 _ rfl, h 1 _ rfl, h 2 _ rfl, h 3 _ rfl⟩
theorem ch_info : (Tryz.prog.info? 76).map (fun i => (i.zero, i.size, i.bytes)) = some (some (.agg #[.int .i64 0, .int .i64 0, .int .i64 0, .int .i64 0]), 4, 32) := by kernel_rfl
theorem ch_make (n : Nat) (hn : n ≤ 1048576) (w : World) : (Instr.makeSlice 30 (.int .i64 (n : Int)) (.int .i64 (n : Int))).run Tryz.prog w = .ok (.slice (some ⟨w.heap.size, 0, none⟩) n n) (w.alloc (.cells (madeCells #[.int .i64 0, .int .i64 0, .int .i64 0, .int .i64 0] (n * 4)) 76)) := by
  obtain ⟨i, hi, hzz⟩ := Option.map_eq_some_iff.1 ch_info
  simp only [Prod.mk.injEq] at hzz
  obtain ⟨hz, hs, hb⟩ := hzz
  have := run_make (P := Tryz.prog) w 30 76 i _ Tryz.underlying30 hi hz .i64 .i64 n n (by omega) (Int.le_refl _) (by rw [hb]; omega) (by omega)
  rw [hs, Int.toNat_natCast] at this
  exact this
set_option maxRecDepth 20000 in
set_option maxHeartbeats 1000000 in
theorem ch_every (a : Option Addr) (cap n : Nat) (xs : List chT) (P : Nat → Bool) (q : Bool) (fid : Nat) (caps : Array Value) (w : World) (hs : GSeg 4 w a n (chX xs)) (hn : n ≤ 9223372036854775807) (hen : ∀ args (v : World), (callFunc fid args).run Tryz.prog v = .ok (.enter fid args) v)
    (hf : ∀ i, i < n → ∀ X, Below w.heap.size w X → Calls Tryz.prog fid (#[chV (xs.getD i ch0)] ++ caps) X fun e w' => e = .returned (.bool (P i)) ∧ Below X.heap.size X w')
    (hq : q = true ↔ ∀ i, i < n → P i = true) :
    Calls Tryz.prog 156 #[.slice a n cap, .func (.func fid) #[] caps] w fun e w' => e = .returned (.bool q) ∧ Below w.heap.size w w' := by
  have HQ : Hid (q = true ↔ ∀ i, i < n → P i = true) := hq
  have HS : Hid (GSeg 4 w a n (chX xs)) := hs
  have HF : Hid (∀ i, i < n → ∀ X, Below w.heap.size w X → Calls Tryz.prog fid (#[chV (xs.getD i ch0)] ++ caps) X fun e w' => e = .returned (.bool (P i)) ∧ Below X.heap.size X w') := hf
  clear hq hs hf
  go_enter Tryz.func156, Tryz.ntmps156
  go_wp2
  go_loopw [9] (fun i wr => ∃ m : Nat, m ≤ n ∧ i = .int .i64 m ∧ Hid (Below w.heap.size w wr ∧ ∀ j, j < m → P j = true)) (fun i _ => n - (intOf i).toNat)
  case atStart => exact ⟨0, by omega, rfl, Below.refl _ _, fun i hi => absurd hi (by omega)⟩
  case round =>
    obtain ⟨m, hm, rfl, HR⟩ := hrel
    by_cases hmn : m < n
    rotate_left
    · obtain rfl : m = n := by omega
      have HT : Hid (q = true) := HQ.out.2 HR.out.2
      go_wp2
      go_ret
      exact ⟨ret_bool HT.out.symm, HR.out.1⟩
    have hmn' : (m : Int) < (n : Int) := by omega
    obtain ⟨b1, o1, rfl, hbl1, p1⟩ := HS.out.at m hmn
    replace p1 := p1.of (w' := wr) (fun j => HR.out.1.cell (p := ⟨b1, j, none⟩) hbl1)
    have HFm : Hid _ := HF.out m hmn
    have HPm : Hid (P m = false → q = false) := fun h => not_true HQ.out (fun g => by rw [g m hmn] at h; cases h)
    have HPt : Hid (P m = true → ∀ j, j < m + 1 → P j = true) := fun h j hj => by
      by_cases e : j = m
      · subst e; exact h
      · exact HR.out.2 j (by omega)
    simp only [chX] at p1
    generalize xs.getD m ch0 = x at p1 HFm
    generalize P m = pm at HFm HPm HPt
    obtain ⟨c0, c1, c2, c3⟩ := ch_cells p1
    obtain ⟨x1, x2, x3, x4⟩ := x
    simp only [chV] at c0 c1 c2 c3 HFm
    have hb0 : Hid (Below w.heap.size w (wr.alloc (.cells #[.int .i64 x1, .int .i64 x2, .int .i64 x3, .int .i64 x4] 76))) := HR.out.1.alloc HR.out.1.size _
    clear p1 hbl1
    go_wp2_with fail
    refine (HFm.out _ hb0.out).mono ?_
    rintro u w1 ⟨rfl, hb1⟩
    have HB1 : Hid (Below w.heap.size w w1) := hb0.out.trans (hb1.mono hb0.out.size)
    clear hb1 hb0 c0 c1 c2 c3
    cases pm
    · have HT : Hid (q = false) := HPm.out (by trivial)
      go_wp2
      go_ret
      exact ⟨ret_bool HT.out.symm, HB1.out⟩
    · have HT : Hid _ := HPt.out (by trivial)
      go_wp2
      go_roundw
      case rel => exact ⟨m + 1, by omega, by go_num, HB1.out, HT.out⟩
      case measure => simp [intOf]; omega
end Go.Proofs.YtlomcdgfcocmmaaGreatDoor
