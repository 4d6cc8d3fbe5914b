
/-
  Reading and writing one virtual register at every number: the specification's and the program's own answers. No conditions but that the arguments are values of their types.
-/
import Derived.Test.YthohemncfdjdeaaVcw
namespace Go.Proofs.Ythohemncfdjdeaa
open Go.ChangeShapes Go.WideShapes Go.ChangeAt Go.RowKit
set_option linter.unusedVariables false

theorem num_beq {x c : Int} (h : x = c) : (x == c) = true := by simp [h]
theorem num_bne {x c : Int} (h : ¬ x = c) : (x == c) = false := beq_eq_false_iff_ne.2 h
/-- What reading the register 'd' answers at the cycle 'y'. -/
def rdF (o : Bool) (v s c k : Int) (t : Bool) (p d y : Int) : Int × Bool :=
  if d = 0 then ((if o then 1 else 0), true) else if d = 1 then (v, true) else if d = 2 then (s, true) else if d = 3 then (c, true) else if d = 4 then (k, true)
  else if d = 5 then ((if t then 1 else 0), true) else if d = 6 then (p, true) else if d = 7 then (y % 4294967296, true) else (0, false)
set_option maxHeartbeats 400000 in
theorem spec_read7 (o : Bool) (v s c k : Int) (t n : Bool) (p y : Int) (w : World) : Calls Try.prog 16 #[vrt o v s c k t n p, .int .i64 7, .int .i64 y] w fun e w' => e = .returned (.tuple #[.int .u32 (y % 4294967296), .bool true]) ∧ Below w.heap.size w w' := by
  obtain ⟨r, HR⟩ : ∃ r, Hid (y % 4294967296 = r) := ⟨_, rfl⟩
  have h1 : 0 ≤ r := by have := HR.out; omega
  have h2 : r ≤ 4294967295 := by have := HR.out; omega
  have MD : Hid (∀ w, Calls Try.prog 25 #[.int .i64 y, .int .i64 4294967296] w fun e w' => e = .returned (.int .i64 r) ∧ w' = w) := fun w => by rw [← HR.out]; exact mod_any y w
  rw [HR.out]
  clear HR
  go_enter Try.func16, Try.ntmps16
  go_wp2_with (first | (go_at_call 25; refine (MD.out _).mono ?_; rintro e w' ⟨rfl, rfl⟩))
  go_ret2
  exact ⟨rfl, (Below.refl _ _).alloc (Nat.le_refl _) _⟩
set_option maxHeartbeats 400000 in
theorem spec_read0 (o : Bool) (v s c k : Int) (t n : Bool) (p y : Int) (w : World) : Calls Try.prog 16 #[vrt o v s c k t n p, .int .i64 0, .int .i64 y] w fun e w' => e = .returned (.tuple #[.int .u32 (if o then 1 else 0), .bool true]) ∧ Below w.heap.size w w' := by
  go_enter Try.func16, Try.ntmps16
  go_wp2_with (first | (go_at_call 24; refine (spec_one _ _).mono ?_; rintro e w' ⟨rfl, rfl⟩))
  all_goals go_ret2
  all_goals exact ⟨rfl, (Below.refl _ _).alloc (Nat.le_refl _) _⟩
set_option maxHeartbeats 400000 in
theorem spec_read1 (o : Bool) (v s c k : Int) (t n : Bool) (p y : Int) (w : World) : Calls Try.prog 16 #[vrt o v s c k t n p, .int .i64 1, .int .i64 y] w fun e w' => e = .returned (.tuple #[.int .u32 v, .bool true]) ∧ Below w.heap.size w w' := by
  go_enter Try.func16, Try.ntmps16
  go_wp2
  all_goals go_ret2
  all_goals exact ⟨rfl, (Below.refl _ _).alloc (Nat.le_refl _) _⟩
set_option maxHeartbeats 400000 in
theorem spec_read2 (o : Bool) (v s c k : Int) (t n : Bool) (p y : Int) (w : World) : Calls Try.prog 16 #[vrt o v s c k t n p, .int .i64 2, .int .i64 y] w fun e w' => e = .returned (.tuple #[.int .u32 s, .bool true]) ∧ Below w.heap.size w w' := by
  go_enter Try.func16, Try.ntmps16
  go_wp2
  all_goals go_ret2
  all_goals exact ⟨rfl, (Below.refl _ _).alloc (Nat.le_refl _) _⟩
set_option maxHeartbeats 400000 in
theorem spec_read3 (o : Bool) (v s c k : Int) (t n : Bool) (p y : Int) (w : World) : Calls Try.prog 16 #[vrt o v s c k t n p, .int .i64 3, .int .i64 y] w fun e w' => e = .returned (.tuple #[.int .u32 c, .bool true]) ∧ Below w.heap.size w w' := by
  go_enter Try.func16, Try.ntmps16
  go_wp2
  all_goals go_ret2
  all_goals exact ⟨rfl, (Below.refl _ _).alloc (Nat.le_refl _) _⟩
set_option maxHeartbeats 400000 in
theorem spec_read4 (o : Bool) (v s c k : Int) (t n : Bool) (p y : Int) (w : World) : Calls Try.prog 16 #[vrt o v s c k t n p, .int .i64 4, .int .i64 y] w fun e w' => e = .returned (.tuple #[.int .u32 k, .bool true]) ∧ Below w.heap.size w w' := by
  go_enter Try.func16, Try.ntmps16
  go_wp2
  all_goals go_ret2
  all_goals exact ⟨rfl, (Below.refl _ _).alloc (Nat.le_refl _) _⟩
set_option maxHeartbeats 400000 in
theorem spec_read5 (o : Bool) (v s c k : Int) (t n : Bool) (p y : Int) (w : World) : Calls Try.prog 16 #[vrt o v s c k t n p, .int .i64 5, .int .i64 y] w fun e w' => e = .returned (.tuple #[.int .u32 (if t then 1 else 0), .bool true]) ∧ Below w.heap.size w w' := by
  go_enter Try.func16, Try.ntmps16
  go_wp2_with (first | (go_at_call 24; refine (spec_one _ _).mono ?_; rintro e w' ⟨rfl, rfl⟩))
  all_goals go_ret2
  all_goals exact ⟨rfl, (Below.refl _ _).alloc (Nat.le_refl _) _⟩
set_option maxHeartbeats 400000 in
theorem spec_read6 (o : Bool) (v s c k : Int) (t n : Bool) (p y : Int) (w : World) : Calls Try.prog 16 #[vrt o v s c k t n p, .int .i64 6, .int .i64 y] w fun e w' => e = .returned (.tuple #[.int .u32 p, .bool true]) ∧ Below w.heap.size w w' := by
  go_enter Try.func16, Try.ntmps16
  go_wp2
  all_goals go_ret2
  all_goals exact ⟨rfl, (Below.refl _ _).alloc (Nat.le_refl _) _⟩
set_option maxHeartbeats 400000 in
theorem spec_read_no (o : Bool) (v s c k : Int) (t n : Bool) (p d y : Int) (w : World) (d0 : (d == 0) = false) (d1 : (d == 1) = false) (d2 : (d == 2) = false) (d3 : (d == 3) = false) (d4 : (d == 4) = false) (d5 : (d == 5) = false) (d6 : (d == 6) = false) (d7 : (d == 7) = false) :
    Calls Try.prog 16 #[vrt o v s c k t n p, .int .i64 d, .int .i64 y] w fun e w' => e = .returned (.tuple #[.int .u32 0, .bool false]) ∧ Below w.heap.size w w' := by
  go_enter Try.func16, Try.ntmps16
  go_wp2
  go_ret2
  exact ⟨rfl, (Below.refl _ _).alloc (Nat.le_refl _) _⟩
set_option maxHeartbeats 400000 in
theorem impl_read_no (o : Bool) (v s c k : Int) (t n : Bool) (p d y : Int) (w : World) (h : ¬ (0 ≤ d ∧ d ≤ 7)) :
    Calls Try.prog 17 #[vrt o v s c k t n p, .int .i64 d, .int .i64 y] w fun e w' => e = .returned (.tuple #[.int .u32 0, .bool false]) ∧ Below w.heap.size w w' := by
  have HI := inr_no h
  clear h
  go_enter Try.func17, Try.ntmps17
  go_wp2_with (first | (go_at_call 26; refine (is_csr _ _).mono ?_; rintro e w' ⟨rfl, rfl⟩; rw [HI]))
  go_ret2
  exact ⟨rfl, (Below.refl _ _).alloc (Nat.le_refl _) _⟩
theorem spec_read (o : Bool) (v s c k : Int) (t n : Bool) (p d y : Int) (w : World) :
    Calls Try.prog 16 #[vrt o v s c k t n p, .int .i64 d, .int .i64 y] w fun e w' => e = .returned (.tuple #[.int .u32 (rdF o v s c k t p d y).1, .bool (rdF o v s c k t p d y).2]) ∧ Below w.heap.size w w' := by
  by_cases g0 : d = 0
  · subst g0
    exact spec_read0 o v s c k t n p y w
  by_cases g1 : d = 1
  · subst g1
    exact spec_read1 o v s c k t n p y w
  by_cases g2 : d = 2
  · subst g2
    exact spec_read2 o v s c k t n p y w
  by_cases g3 : d = 3
  · subst g3
    exact spec_read3 o v s c k t n p y w
  by_cases g4 : d = 4
  · subst g4
    exact spec_read4 o v s c k t n p y w
  by_cases g5 : d = 5
  · subst g5
    exact spec_read5 o v s c k t n p y w
  by_cases g6 : d = 6
  · subst g6
    exact spec_read6 o v s c k t n p y w
  by_cases g7 : d = 7
  · subst g7
    exact spec_read7 o v s c k t n p y w
  have e : rdF o v s c k t p d y = (0, false) := by unfold rdF; rw [if_neg g0, if_neg g1, if_neg g2, if_neg g3, if_neg g4, if_neg g5, if_neg g6, if_neg g7]
  rw [e]
  exact spec_read_no o v s c k t n p d y w (num_bne g0) (num_bne g1) (num_bne g2) (num_bne g3) (num_bne g4) (num_bne g5) (num_bne g6) (num_bne g7)
theorem impl_read (o : Bool) (v s c k : Int) (t n : Bool) (p d y : Int) (w : World) :
    Calls Try.prog 17 #[vrt o v s c k t n p, .int .i64 d, .int .i64 y] w fun e w' => e = .returned (.tuple #[.int .u32 (rdF o v s c k t p d y).1, .bool (rdF o v s c k t p d y).2]) ∧ Below w.heap.size w w' := by
  by_cases g0 : d = 0
  · subst g0
    exact impl_read0 o v s c k t n p y w
  by_cases g1 : d = 1
  · subst g1
    exact impl_read1 o v s c k t n p y w
  by_cases g2 : d = 2
  · subst g2
    exact impl_read2 o v s c k t n p y w
  by_cases g3 : d = 3
  · subst g3
    exact impl_read3 o v s c k t n p y w
  by_cases g4 : d = 4
  · subst g4
    exact impl_read4 o v s c k t n p y w
  by_cases g5 : d = 5
  · subst g5
    exact impl_read5 o v s c k t n p y w
  by_cases g6 : d = 6
  · subst g6
    exact impl_read6 o v s c k t n p y w
  by_cases g7 : d = 7
  · subst g7
    exact impl_read7 o v s c k t n p y w
  have e : rdF o v s c k t p d y = (0, false) := by unfold rdF; rw [if_neg g0, if_neg g1, if_neg g2, if_neg g3, if_neg g4, if_neg g5, if_neg g6, if_neg g7]
  rw [e]
  exact impl_read_no o v s c k t n p d y w (by omega)

/-- What writing 'x' into the register 'd' answers: the five registers that may be written, and whether it was. -/
structure WrV where
  o : Bool
  v : Int
  s : Int
  k : Int
  t : Bool
  ok : Bool
def wrF (o : Bool) (v s k : Int) (t : Bool) (d x : Int) : WrV :=
  if d = 0 then ⟨decide (x % 2 = 1), v, s, k, t, true⟩ else if d = 1 then ⟨o, x, s, k, t, true⟩ else if d = 2 then ⟨o, v, x, k, t, true⟩ else if d = 4 then ⟨o, v, s, x, t, true⟩
  else if d = 5 then ⟨o, v, s, k, decide (x % 2 = 1), true⟩ else ⟨o, v, s, k, t, false⟩
set_option maxHeartbeats 400000 in
theorem spec_write0 (o : Bool) (v s c k : Int) (t n : Bool) (p x : Int) (b : Bool) (w : World) (h1 : 0 ≤ x) (h2 : x ≤ 4294967295) (hb : Hid ((x % 2 == 1) = b)) : Calls Try.prog 18 #[vrt o v s c k t n p, .int .i64 0, .int .u32 x] w fun e w' => e = .returned (.tuple #[vrt b v s c k t n p, .bool true]) ∧ Below w.heap.size w w' := by
  go_enter Try.func18, Try.ntmps18
  go_wp2
  exact bodyPost_ret (v := .tuple #[vrt b v s c k t n p, .bool true]) (by simp [results, Try.results18, go_sem]; exact hb.out) rfl ⟨rfl, ((Below.refl _ _).alloc (Nat.le_refl _) _).alloc (by simp) _⟩
set_option maxHeartbeats 400000 in
theorem spec_write1 (o : Bool) (v s c k : Int) (t n : Bool) (p x : Int) (b : Bool) (w : World) : Calls Try.prog 18 #[vrt o v s c k t n p, .int .i64 1, .int .u32 x] w fun e w' => e = .returned (.tuple #[vrt o x s c k t n p, .bool true]) ∧ Below w.heap.size w w' := by
  go_enter Try.func18, Try.ntmps18
  go_wp2
  exact bodyPost_ret (v := .tuple #[vrt o x s c k t n p, .bool true]) (by simp [results, Try.results18, go_sem]) rfl ⟨rfl, ((Below.refl _ _).alloc (Nat.le_refl _) _).alloc (by simp) _⟩
set_option maxHeartbeats 400000 in
theorem spec_write2 (o : Bool) (v s c k : Int) (t n : Bool) (p x : Int) (b : Bool) (w : World) : Calls Try.prog 18 #[vrt o v s c k t n p, .int .i64 2, .int .u32 x] w fun e w' => e = .returned (.tuple #[vrt o v x c k t n p, .bool true]) ∧ Below w.heap.size w w' := by
  go_enter Try.func18, Try.ntmps18
  go_wp2
  exact bodyPost_ret (v := .tuple #[vrt o v x c k t n p, .bool true]) (by simp [results, Try.results18, go_sem]) rfl ⟨rfl, ((Below.refl _ _).alloc (Nat.le_refl _) _).alloc (by simp) _⟩
set_option maxHeartbeats 400000 in
theorem spec_write4 (o : Bool) (v s c k : Int) (t n : Bool) (p x : Int) (b : Bool) (w : World) : Calls Try.prog 18 #[vrt o v s c k t n p, .int .i64 4, .int .u32 x] w fun e w' => e = .returned (.tuple #[vrt o v s c x t n p, .bool true]) ∧ Below w.heap.size w w' := by
  go_enter Try.func18, Try.ntmps18
  go_wp2
  exact bodyPost_ret (v := .tuple #[vrt o v s c x t n p, .bool true]) (by simp [results, Try.results18, go_sem]) rfl ⟨rfl, ((Below.refl _ _).alloc (Nat.le_refl _) _).alloc (by simp) _⟩
set_option maxHeartbeats 400000 in
theorem spec_write5 (o : Bool) (v s c k : Int) (t n : Bool) (p x : Int) (b : Bool) (w : World) (h1 : 0 ≤ x) (h2 : x ≤ 4294967295) (hb : Hid ((x % 2 == 1) = b)) : Calls Try.prog 18 #[vrt o v s c k t n p, .int .i64 5, .int .u32 x] w fun e w' => e = .returned (.tuple #[vrt o v s c k b n p, .bool true]) ∧ Below w.heap.size w w' := by
  go_enter Try.func18, Try.ntmps18
  go_wp2
  exact bodyPost_ret (v := .tuple #[vrt o v s c k b n p, .bool true]) (by simp [results, Try.results18, go_sem]; exact hb.out) rfl ⟨rfl, ((Below.refl _ _).alloc (Nat.le_refl _) _).alloc (by simp) _⟩
set_option maxHeartbeats 400000 in
theorem spec_write_no (o : Bool) (v s c k : Int) (t n : Bool) (p d x : Int) (w : World) (d0 : (d == 0) = false) (d1 : (d == 1) = false) (d2 : (d == 2) = false) (d4 : (d == 4) = false) (d5 : (d == 5) = false) :
    Calls Try.prog 18 #[vrt o v s c k t n p, .int .i64 d, .int .u32 x] w fun e w' => e = .returned (.tuple #[vrt o v s c k t n p, .bool false]) ∧ Below w.heap.size w w' := by
  go_enter Try.func18, Try.ntmps18
  go_wp2
  exact bodyPost_ret (v := .tuple #[vrt o v s c k t n p, .bool false]) (by simp [results, Try.results18, go_sem]) rfl ⟨rfl, ((Below.refl _ _).alloc (Nat.le_refl _) _).alloc (by simp) _⟩
set_option maxHeartbeats 400000 in
theorem impl_write_no (o : Bool) (v s c k : Int) (t n : Bool) (p d x : Int) (w : World) (h : ¬ (0 ≤ d ∧ d ≤ 7)) :
    Calls Try.prog 19 #[vrt o v s c k t n p, .int .i64 d, .int .u32 x] w fun e w' => e = .returned (.tuple #[vrt o v s c k t n p, .bool false]) ∧ Below w.heap.size w w' := by
  have HI := inr_no h
  clear h
  go_enter Try.func19, Try.ntmps19
  go_wp2_with (first | (go_at_call 26; refine (is_csr _ _).mono ?_; rintro e w' ⟨rfl, rfl⟩; rw [HI]))
  exact bodyPost_ret (v := .tuple #[vrt o v s c k t n p, .bool false]) (by simp [results, Try.results19, go_sem]) rfl ⟨rfl, ((Below.refl _ _).alloc (Nat.le_refl _) _).alloc (by simp) _⟩
theorem spec_write (o : Bool) (v s c k : Int) (t n : Bool) (p d x : Int) (w : World) (h1 : 0 ≤ x) (h2 : x ≤ 4294967295) :
    Calls Try.prog 18 #[vrt o v s c k t n p, .int .i64 d, .int .u32 x] w fun e w' => e = .returned (.tuple #[vrt (wrF o v s k t d x).o (wrF o v s k t d x).v (wrF o v s k t d x).s c (wrF o v s k t d x).k (wrF o v s k t d x).t n p, .bool (wrF o v s k t d x).ok]) ∧ Below w.heap.size w w' := by
  by_cases g0 : d = 0
  · subst g0
    exact spec_write0 o v s c k t n p x (decide (x % 2 = 1)) w h1 h2 (by show _ = _; by_cases e : x % 2 = 1 <;> simp [e])
  by_cases g1 : d = 1
  · subst g1
    exact spec_write1 o v s c k t n p x true w
  by_cases g2 : d = 2
  · subst g2
    exact spec_write2 o v s c k t n p x true w
  by_cases g4 : d = 4
  · subst g4
    exact spec_write4 o v s c k t n p x true w
  by_cases g5 : d = 5
  · subst g5
    exact spec_write5 o v s c k t n p x (decide (x % 2 = 1)) w h1 h2 (by show _ = _; by_cases e : x % 2 = 1 <;> simp [e])
  have e : wrF o v s k t d x = ⟨o, v, s, k, t, false⟩ := by unfold wrF; rw [if_neg g0, if_neg g1, if_neg g2, if_neg g4, if_neg g5]
  rw [e]
  exact spec_write_no o v s c k t n p d x w (num_bne g0) (num_bne g1) (num_bne g2) (num_bne g4) (num_bne g5)
theorem impl_write (o : Bool) (v s c k : Int) (t n : Bool) (p d x : Int) (w : World) (h1 : 0 ≤ x) (h2 : x ≤ 4294967295) :
    Calls Try.prog 19 #[vrt o v s c k t n p, .int .i64 d, .int .u32 x] w fun e w' => e = .returned (.tuple #[vrt (wrF o v s k t d x).o (wrF o v s k t d x).v (wrF o v s k t d x).s c (wrF o v s k t d x).k (wrF o v s k t d x).t n p, .bool (wrF o v s k t d x).ok]) ∧ Below w.heap.size w w' := by
  by_cases g0 : d = 0
  · subst g0
    exact impl_write0 o v s c k t n p x (decide (x % 2 = 1)) w h1 h2 rfl
  by_cases g1 : d = 1
  · subst g1
    exact impl_write1 o v s c k t n p x true w
  by_cases g2 : d = 2
  · subst g2
    exact impl_write2 o v s c k t n p x true w
  by_cases g3 : d = 3
  · subst g3
    exact impl_write3 o v s c k t n p x true w
  by_cases g4 : d = 4
  · subst g4
    exact impl_write4 o v s c k t n p x true w
  by_cases g5 : d = 5
  · subst g5
    exact impl_write5 o v s c k t n p x (decide (x % 2 = 1)) w h1 h2 rfl
  by_cases g6 : d = 6
  · subst g6
    exact impl_write6 o v s c k t n p x true w
  by_cases g7 : d = 7
  · subst g7
    exact impl_write7 o v s c k t n p x true w
  have e : wrF o v s k t d x = ⟨o, v, s, k, t, false⟩ := by unfold wrF; rw [if_neg g0, if_neg g1, if_neg g2, if_neg g4, if_neg g5]
  rw [e]
  exact impl_write_no o v s c k t n p d x w (by omega)
end Go.Proofs.Ythohemncfdjdeaa
