
/-
  Reading and writing one virtual register, the specification's and the program's own: the same answer at every argument. No conditions but that the arguments are values of their types.
-/
import Derived.Test.YthohemncfdjdeaaVop
import Derived.Deep.RegionHeld3
import Derived.Laws.EntriesVeiled
namespace Go.Proofs.Ythohemncfdjdeaa
open Go.ChangeShapes Go.WideShapes Go.ChangeAt Go.RowKit
set_option linter.unusedVariables false

/-- The table of readers and writers. -/
abbrev tblV : Value := .agg #[.func (.func 28) #[] #[], .func (.func 29) #[] #[], .func (.func 30) #[] #[], .func (.func 31) #[] #[], .func (.func 32) #[] #[], .func (.func 33) #[] #[], .func (.func 34) #[] #[], .func (.func 35) #[] #[], .func (.func 36) #[] #[], .func (.func 37) #[] #[], .func (.func 38) #[] #[], .func (.func 39) #[] #[], .func (.func 40) #[] #[], .func (.func 35) #[] #[], .func (.func 41) #[] #[], .func (.func 35) #[] #[]]
set_option maxHeartbeats 1000000 in
theorem csr_table (w : World) : Calls Try.prog 27 #[] w fun e w' => e = .returned tblV ∧ Below w.heap.size w w' := by
  go_enter Try.func27, Try.ntmps27
  go_wp2
  exact bodyPost_ret (v := tblV) (by simp [results, Try.results27, go_sem]) rfl ⟨rfl, (Below.refl _ _).alloc (Nat.le_refl _) _⟩
theorem is_csr (d : Int) (w : World) : Calls Try.prog 26 #[.int .i64 d] w fun e w' => e = .returned (.bool (inr d 0 7)) ∧ w' = w := by
  by_cases h1 : 0 ≤ d
  · by_cases h2 : d ≤ 7
    · rw [inr_yes ⟨h1, h2⟩]
      have h3 : d < 8 := by omega
      clear h2
      go_enter Try.func26, Try.ntmps26
      go_wp2
      go_ret
      exact ⟨rfl, rfl⟩
    · rw [inr_no (fun g => h2 g.2)]
      have h3 : ¬ d < 8 := by omega
      clear h2
      go_enter Try.func26, Try.ntmps26
      go_wp2
      go_ret
      exact ⟨rfl, rfl⟩
  · rw [inr_no (fun g => h1 g.1)]
    go_enter Try.func26, Try.ntmps26
    go_wp2
    go_ret
    exact ⟨rfl, rfl⟩
theorem one_if (t : Bool) (w : World) : Calls Try.prog 42 #[.bool t] w fun e w' => e = .returned (.int .u32 (if t then 1 else 0)) ∧ w' = w := by
  cases t
  all_goals
    go_enter Try.func42, Try.ntmps42
    go_wp2
    go_ret
    exact ⟨rfl, rfl⟩
theorem spec_one (t : Bool) (w : World) : Calls Try.prog 24 #[.bool t] w fun e w' => e = .returned (.int .u32 (if t then 1 else 0)) ∧ w' = w := by
  cases t
  all_goals
    go_enter Try.func24, Try.ntmps24
    go_wp2
    go_ret
    exact ⟨rfl, rfl⟩
set_option maxHeartbeats 400000 in
theorem mod_any (y : Int) (w : World) : Calls Try.prog 25 #[.int .i64 y, .int .i64 4294967296] w fun e w' => e = .returned (.int .i64 (y % 4294967296)) ∧ w' = w := by
  have HE : Hid _ := Vb.mod32 y
  by_cases h : y.tmod 4294967296 < 0
  · go_enter Try.func25, Try.ntmps25
    go_wp2
    go_ret
    exact ⟨ret_int (HE.out.2.1 h), rfl⟩
  · go_enter Try.func25, Try.ntmps25
    go_wp2
    go_ret
    exact ⟨ret_int (HE.out.1 (by omega)), rfl⟩
set_option maxHeartbeats 400000 in
theorem is_odd (x : Int) (b : Bool) (w : World) (h1 : 0 ≤ x) (h2 : x ≤ 4294967295) (hb : Hid (decide (x % 2 = 1) = b)) : Calls Try.prog 43 #[.int .u32 x] w fun e w' => e = .returned (.bool b) ∧ w' = w := by
  obtain ⟨q, HQ⟩ : ∃ q, Hid (bits .and .u32 x 1 = q) := ⟨_, rfl⟩
  have HB : Hid ((!(q == 0)) = b) := by
    show _ = _
    rw [← HQ.out, ← hb.out, Vb.odd_int x h1 h2]
    rcases (by omega : x % 2 = 0 ∨ x % 2 = 1) with e | e <;> simp [e]
  clear hb
  go_enter Try.func43, Try.ntmps43
  go_wp2
  go_ret
  exact ⟨ret_bool (by rw [HQ.out]; first | exact HB.out | (rw [← HB.out]; simp)), rfl⟩

/-! ### Readers -/
theorem rd0 (o : Bool) (v s c k : Int) (t n : Bool) (p : Int) (y : Int) (w : World) : Calls Try.prog 28 #[vrt o v s c k t n p, .int .i64 y] w fun e w' => e = .returned (.int .u32 (if o then 1 else 0)) ∧ Below w.heap.size w w' := by
  go_enter Try.func28, Try.ntmps28
  go_wp2_with (go_at_call 42; refine (one_if _ _).mono ?_; rintro e w' ⟨rfl, rfl⟩)
  all_goals go_ret
  all_goals exact ⟨rfl, (Below.refl _ _).alloc (Nat.le_refl _) _⟩
theorem rd1 (o : Bool) (v s c k : Int) (t n : Bool) (p : Int) (y : Int) (w : World) : Calls Try.prog 30 #[vrt o v s c k t n p, .int .i64 y] w fun e w' => e = .returned (.int .u32 v) ∧ Below w.heap.size w w' := by
  go_enter Try.func30, Try.ntmps30
  go_wp2
  all_goals go_ret
  all_goals exact ⟨rfl, (Below.refl _ _).alloc (Nat.le_refl _) _⟩
theorem rd2 (o : Bool) (v s c k : Int) (t n : Bool) (p : Int) (y : Int) (w : World) : Calls Try.prog 32 #[vrt o v s c k t n p, .int .i64 y] w fun e w' => e = .returned (.int .u32 s) ∧ Below w.heap.size w w' := by
  go_enter Try.func32, Try.ntmps32
  go_wp2
  all_goals go_ret
  all_goals exact ⟨rfl, (Below.refl _ _).alloc (Nat.le_refl _) _⟩
theorem rd3 (o : Bool) (v s c k : Int) (t n : Bool) (p : Int) (y : Int) (w : World) : Calls Try.prog 34 #[vrt o v s c k t n p, .int .i64 y] w fun e w' => e = .returned (.int .u32 c) ∧ Below w.heap.size w w' := by
  go_enter Try.func34, Try.ntmps34
  go_wp2
  all_goals go_ret
  all_goals exact ⟨rfl, (Below.refl _ _).alloc (Nat.le_refl _) _⟩
theorem rd4 (o : Bool) (v s c k : Int) (t n : Bool) (p : Int) (y : Int) (w : World) : Calls Try.prog 36 #[vrt o v s c k t n p, .int .i64 y] w fun e w' => e = .returned (.int .u32 k) ∧ Below w.heap.size w w' := by
  go_enter Try.func36, Try.ntmps36
  go_wp2
  all_goals go_ret
  all_goals exact ⟨rfl, (Below.refl _ _).alloc (Nat.le_refl _) _⟩
theorem rd5 (o : Bool) (v s c k : Int) (t n : Bool) (p : Int) (y : Int) (w : World) : Calls Try.prog 38 #[vrt o v s c k t n p, .int .i64 y] w fun e w' => e = .returned (.int .u32 (if t then 1 else 0)) ∧ Below w.heap.size w w' := by
  go_enter Try.func38, Try.ntmps38
  go_wp2_with (go_at_call 42; refine (one_if _ _).mono ?_; rintro e w' ⟨rfl, rfl⟩)
  all_goals go_ret
  all_goals exact ⟨rfl, (Below.refl _ _).alloc (Nat.le_refl _) _⟩
theorem rd6 (o : Bool) (v s c k : Int) (t n : Bool) (p : Int) (y : Int) (w : World) : Calls Try.prog 40 #[vrt o v s c k t n p, .int .i64 y] w fun e w' => e = .returned (.int .u32 p) ∧ Below w.heap.size w w' := by
  go_enter Try.func40, Try.ntmps40
  go_wp2
  all_goals go_ret
  all_goals exact ⟨rfl, (Below.refl _ _).alloc (Nat.le_refl _) _⟩
theorem rd7 (o : Bool) (v s c k : Int) (t n : Bool) (p : Int) (y : Int) (w : World) : Calls Try.prog 41 #[vrt o v s c k t n p, .int .i64 y] w fun e w' => e = .returned (.int .u32 (y % 4294967296)) ∧ Below w.heap.size w w' := by
  go_enter Try.func41, Try.ntmps41
  go_wp2
  all_goals go_ret
  all_goals exact ⟨rfl, (Below.refl _ _).alloc (Nat.le_refl _) _⟩
theorem kept_cell {w w' : World} {p : Addr} {v : Value} (hb : Below w.heap.size w w') (h : w.cell? p = some v) : w'.cell? p = some v :=
  (hb.cell (World.block_lt_of_cell? w _ h)).trans h
set_option maxHeartbeats 1000000 in
theorem impl_read0 (o : Bool) (v s c k : Int) (t n : Bool) (p : Int) (y : Int) (w : World) : Calls Try.prog 17 #[vrt o v s c k t n p, .int .i64 0, .int .i64 y] w fun e w' => e = .returned (.tuple #[.int .u32 (if o then 1 else 0), .bool true]) ∧ Below w.heap.size w w' := by
  have HI : inr 0 0 7 = true := inr_yes (by omega)
  obtain ⟨r, HR⟩ : ∃ r : Int, Hid ((if o then 1 else 0) = r) := ⟨_, rfl⟩
  have RD : Hid (∀ w, Calls Try.prog 28 #[vrt o v s c k t n p, .int .i64 y] w fun e w' => e = .returned (.int .u32 r) ∧ Below w.heap.size w w') := fun w => by rw [← HR.out]; exact rd0 o v s c k t n p y w
  rw [HR.out]
  clear HR
  have hf : ∀ w, (Instr.field 51 (.agg #[.func (.func 28) #[] #[], .func (.func 29) #[] #[]]) 0).run Try.prog w = .ok (.func (.func 28) #[] #[]) w := fun w => by kernel_rfl
  have hx : ∀ w, (Instr.index 52 tblV (.int .i64 0)).run Try.prog w = .ok (.agg #[.func (.func 28) #[] #[], .func (.func 29) #[] #[]]) w := fun w => by kernel_rfl
  have TB : Hid (∀ w, Calls Try.prog 27 #[] w fun e w' => e = .returned tblV ∧ Below w.heap.size w w') := csr_table
  obtain ⟨w0, HW⟩ : ∃ w0, Hid (w0 = w.alloc (.cells (vrow o v s c k t n p) 25)) := ⟨_, rfl⟩
  have hb : Below w.heap.size w w0 := by rw [HW.out]; exact (Below.refl _ _).alloc (Nat.le_refl _) _
  obtain ⟨c0, c1, c2, c3, c4, c5, c6, c7⟩ : VC w0 w.heap.size o v s c k t n p := by rw [HW.out]; exact VC.new _ _ _ _ _ _ _ _ _ _
  go_enter Try.func17, Try.ntmps17
  go_wp2_with (first | (go_at_call 26; refine (is_csr _ _).mono ?_; rintro e w' ⟨rfl, rfl⟩; rw [HI]))
  rw [← HW.out]
  clear HW
  go_region_held3 (fun w' => w'.cell? ⟨w.heap.size, 0, none⟩ = some (.bool o) ∧ w'.cell? ⟨w.heap.size, 1, none⟩ = some (.int .u32 v) ∧ w'.cell? ⟨w.heap.size, 2, none⟩ = some (.int .u32 s) ∧ w'.cell? ⟨w.heap.size, 3, none⟩ = some (.int .u32 c) ∧ w'.cell? ⟨w.heap.size, 4, none⟩ = some (.int .u32 k) ∧ w'.cell? ⟨w.heap.size, 5, none⟩ = some (.bool t) ∧ w'.cell? ⟨w.heap.size, 6, none⟩ = some (.bool n) ∧ w'.cell? ⟨w.heap.size, 7, none⟩ = some (.int .u32 p)) (first | exact ⟨c0, c1, c2, c3, c4, c5, c6, c7⟩) (first | (go_at_call 27; refine Calls.mono (TB.out _) ?_; rintro x w9 ⟨rfl, hbb⟩; (first | replace hb := hb.trans (hbb.mono hb.size) | replace hb := hb.drew.trans (hbb.mono hb.drew.size)); replace c0 := kept_cell hbb c0; replace c1 := kept_cell hbb c1; replace c2 := kept_cell hbb c2; replace c3 := kept_cell hbb c3; replace c4 := kept_cell hbb c4; replace c5 := kept_cell hbb c5; replace c6 := kept_cell hbb c6; replace c7 := kept_cell hbb c7; clear hbb) | (go_at_call 28; refine Calls.mono (RD.out _) ?_; rintro x w9 ⟨rfl, hbb⟩; (first | replace hb := hb.trans (hbb.mono hb.size) | replace hb := hb.drew.trans (hbb.mono hb.drew.size)); replace c0 := kept_cell hbb c0; replace c1 := kept_cell hbb c1; replace c2 := kept_cell hbb c2; replace c3 := kept_cell hbb c3; replace c4 := kept_cell hbb c4; replace c5 := kept_cell hbb c5; replace c6 := kept_cell hbb c6; replace c7 := kept_cell hbb c7; clear hbb))
  all_goals go_wp2
  all_goals go_ret2
  all_goals exact ⟨rfl, hb⟩
set_option maxHeartbeats 1000000 in
theorem impl_read1 (o : Bool) (v s c k : Int) (t n : Bool) (p : Int) (y : Int) (w : World) : Calls Try.prog 17 #[vrt o v s c k t n p, .int .i64 1, .int .i64 y] w fun e w' => e = .returned (.tuple #[.int .u32 v, .bool true]) ∧ Below w.heap.size w w' := by
  have HI : inr 1 0 7 = true := inr_yes (by omega)
  have RD : Hid (∀ w, Calls Try.prog 30 #[vrt o v s c k t n p, .int .i64 y] w fun e w' => e = .returned (.int .u32 v) ∧ Below w.heap.size w w') := fun w => by skip; exact rd1 o v s c k t n p y w
  have hf : ∀ w, (Instr.field 51 (.agg #[.func (.func 30) #[] #[], .func (.func 31) #[] #[]]) 0).run Try.prog w = .ok (.func (.func 30) #[] #[]) w := fun w => by kernel_rfl
  have hx : ∀ w, (Instr.index 52 tblV (.int .i64 1)).run Try.prog w = .ok (.agg #[.func (.func 30) #[] #[], .func (.func 31) #[] #[]]) w := fun w => by kernel_rfl
  have TB : Hid (∀ w, Calls Try.prog 27 #[] w fun e w' => e = .returned tblV ∧ Below w.heap.size w w') := csr_table
  obtain ⟨w0, HW⟩ : ∃ w0, Hid (w0 = w.alloc (.cells (vrow o v s c k t n p) 25)) := ⟨_, rfl⟩
  have hb : Below w.heap.size w w0 := by rw [HW.out]; exact (Below.refl _ _).alloc (Nat.le_refl _) _
  obtain ⟨c0, c1, c2, c3, c4, c5, c6, c7⟩ : VC w0 w.heap.size o v s c k t n p := by rw [HW.out]; exact VC.new _ _ _ _ _ _ _ _ _ _
  go_enter Try.func17, Try.ntmps17
  go_wp2_with (first | (go_at_call 26; refine (is_csr _ _).mono ?_; rintro e w' ⟨rfl, rfl⟩; rw [HI]))
  rw [← HW.out]
  clear HW
  go_region_held3 (fun w' => w'.cell? ⟨w.heap.size, 0, none⟩ = some (.bool o) ∧ w'.cell? ⟨w.heap.size, 1, none⟩ = some (.int .u32 v) ∧ w'.cell? ⟨w.heap.size, 2, none⟩ = some (.int .u32 s) ∧ w'.cell? ⟨w.heap.size, 3, none⟩ = some (.int .u32 c) ∧ w'.cell? ⟨w.heap.size, 4, none⟩ = some (.int .u32 k) ∧ w'.cell? ⟨w.heap.size, 5, none⟩ = some (.bool t) ∧ w'.cell? ⟨w.heap.size, 6, none⟩ = some (.bool n) ∧ w'.cell? ⟨w.heap.size, 7, none⟩ = some (.int .u32 p)) (first | exact ⟨c0, c1, c2, c3, c4, c5, c6, c7⟩) (first | (go_at_call 27; refine Calls.mono (TB.out _) ?_; rintro x w9 ⟨rfl, hbb⟩; (first | replace hb := hb.trans (hbb.mono hb.size) | replace hb := hb.drew.trans (hbb.mono hb.drew.size)); replace c0 := kept_cell hbb c0; replace c1 := kept_cell hbb c1; replace c2 := kept_cell hbb c2; replace c3 := kept_cell hbb c3; replace c4 := kept_cell hbb c4; replace c5 := kept_cell hbb c5; replace c6 := kept_cell hbb c6; replace c7 := kept_cell hbb c7; clear hbb) | (go_at_call 30; refine Calls.mono (RD.out _) ?_; rintro x w9 ⟨rfl, hbb⟩; (first | replace hb := hb.trans (hbb.mono hb.size) | replace hb := hb.drew.trans (hbb.mono hb.drew.size)); replace c0 := kept_cell hbb c0; replace c1 := kept_cell hbb c1; replace c2 := kept_cell hbb c2; replace c3 := kept_cell hbb c3; replace c4 := kept_cell hbb c4; replace c5 := kept_cell hbb c5; replace c6 := kept_cell hbb c6; replace c7 := kept_cell hbb c7; clear hbb))
  all_goals go_wp2
  all_goals go_ret2
  all_goals exact ⟨rfl, hb⟩
set_option maxHeartbeats 1000000 in
theorem impl_read2 (o : Bool) (v s c k : Int) (t n : Bool) (p : Int) (y : Int) (w : World) : Calls Try.prog 17 #[vrt o v s c k t n p, .int .i64 2, .int .i64 y] w fun e w' => e = .returned (.tuple #[.int .u32 s, .bool true]) ∧ Below w.heap.size w w' := by
  have HI : inr 2 0 7 = true := inr_yes (by omega)
  have RD : Hid (∀ w, Calls Try.prog 32 #[vrt o v s c k t n p, .int .i64 y] w fun e w' => e = .returned (.int .u32 s) ∧ Below w.heap.size w w') := fun w => by skip; exact rd2 o v s c k t n p y w
  have hf : ∀ w, (Instr.field 51 (.agg #[.func (.func 32) #[] #[], .func (.func 33) #[] #[]]) 0).run Try.prog w = .ok (.func (.func 32) #[] #[]) w := fun w => by kernel_rfl
  have hx : ∀ w, (Instr.index 52 tblV (.int .i64 2)).run Try.prog w = .ok (.agg #[.func (.func 32) #[] #[], .func (.func 33) #[] #[]]) w := fun w => by kernel_rfl
  have TB : Hid (∀ w, Calls Try.prog 27 #[] w fun e w' => e = .returned tblV ∧ Below w.heap.size w w') := csr_table
  obtain ⟨w0, HW⟩ : ∃ w0, Hid (w0 = w.alloc (.cells (vrow o v s c k t n p) 25)) := ⟨_, rfl⟩
  have hb : Below w.heap.size w w0 := by rw [HW.out]; exact (Below.refl _ _).alloc (Nat.le_refl _) _
  obtain ⟨c0, c1, c2, c3, c4, c5, c6, c7⟩ : VC w0 w.heap.size o v s c k t n p := by rw [HW.out]; exact VC.new _ _ _ _ _ _ _ _ _ _
  go_enter Try.func17, Try.ntmps17
  go_wp2_with (first | (go_at_call 26; refine (is_csr _ _).mono ?_; rintro e w' ⟨rfl, rfl⟩; rw [HI]))
  rw [← HW.out]
  clear HW
  go_region_held3 (fun w' => w'.cell? ⟨w.heap.size, 0, none⟩ = some (.bool o) ∧ w'.cell? ⟨w.heap.size, 1, none⟩ = some (.int .u32 v) ∧ w'.cell? ⟨w.heap.size, 2, none⟩ = some (.int .u32 s) ∧ w'.cell? ⟨w.heap.size, 3, none⟩ = some (.int .u32 c) ∧ w'.cell? ⟨w.heap.size, 4, none⟩ = some (.int .u32 k) ∧ w'.cell? ⟨w.heap.size, 5, none⟩ = some (.bool t) ∧ w'.cell? ⟨w.heap.size, 6, none⟩ = some (.bool n) ∧ w'.cell? ⟨w.heap.size, 7, none⟩ = some (.int .u32 p)) (first | exact ⟨c0, c1, c2, c3, c4, c5, c6, c7⟩) (first | (go_at_call 27; refine Calls.mono (TB.out _) ?_; rintro x w9 ⟨rfl, hbb⟩; (first | replace hb := hb.trans (hbb.mono hb.size) | replace hb := hb.drew.trans (hbb.mono hb.drew.size)); replace c0 := kept_cell hbb c0; replace c1 := kept_cell hbb c1; replace c2 := kept_cell hbb c2; replace c3 := kept_cell hbb c3; replace c4 := kept_cell hbb c4; replace c5 := kept_cell hbb c5; replace c6 := kept_cell hbb c6; replace c7 := kept_cell hbb c7; clear hbb) | (go_at_call 32; refine Calls.mono (RD.out _) ?_; rintro x w9 ⟨rfl, hbb⟩; (first | replace hb := hb.trans (hbb.mono hb.size) | replace hb := hb.drew.trans (hbb.mono hb.drew.size)); replace c0 := kept_cell hbb c0; replace c1 := kept_cell hbb c1; replace c2 := kept_cell hbb c2; replace c3 := kept_cell hbb c3; replace c4 := kept_cell hbb c4; replace c5 := kept_cell hbb c5; replace c6 := kept_cell hbb c6; replace c7 := kept_cell hbb c7; clear hbb))
  all_goals go_wp2
  all_goals go_ret2
  all_goals exact ⟨rfl, hb⟩
set_option maxHeartbeats 1000000 in
theorem impl_read3 (o : Bool) (v s c k : Int) (t n : Bool) (p : Int) (y : Int) (w : World) : Calls Try.prog 17 #[vrt o v s c k t n p, .int .i64 3, .int .i64 y] w fun e w' => e = .returned (.tuple #[.int .u32 c, .bool true]) ∧ Below w.heap.size w w' := by
  have HI : inr 3 0 7 = true := inr_yes (by omega)
  have RD : Hid (∀ w, Calls Try.prog 34 #[vrt o v s c k t n p, .int .i64 y] w fun e w' => e = .returned (.int .u32 c) ∧ Below w.heap.size w w') := fun w => by skip; exact rd3 o v s c k t n p y w
  have hf : ∀ w, (Instr.field 51 (.agg #[.func (.func 34) #[] #[], .func (.func 35) #[] #[]]) 0).run Try.prog w = .ok (.func (.func 34) #[] #[]) w := fun w => by kernel_rfl
  have hx : ∀ w, (Instr.index 52 tblV (.int .i64 3)).run Try.prog w = .ok (.agg #[.func (.func 34) #[] #[], .func (.func 35) #[] #[]]) w := fun w => by kernel_rfl
  have TB : Hid (∀ w, Calls Try.prog 27 #[] w fun e w' => e = .returned tblV ∧ Below w.heap.size w w') := csr_table
  obtain ⟨w0, HW⟩ : ∃ w0, Hid (w0 = w.alloc (.cells (vrow o v s c k t n p) 25)) := ⟨_, rfl⟩
  have hb : Below w.heap.size w w0 := by rw [HW.out]; exact (Below.refl _ _).alloc (Nat.le_refl _) _
  obtain ⟨c0, c1, c2, c3, c4, c5, c6, c7⟩ : VC w0 w.heap.size o v s c k t n p := by rw [HW.out]; exact VC.new _ _ _ _ _ _ _ _ _ _
  go_enter Try.func17, Try.ntmps17
  go_wp2_with (first | (go_at_call 26; refine (is_csr _ _).mono ?_; rintro e w' ⟨rfl, rfl⟩; rw [HI]))
  rw [← HW.out]
  clear HW
  go_region_held3 (fun w' => w'.cell? ⟨w.heap.size, 0, none⟩ = some (.bool o) ∧ w'.cell? ⟨w.heap.size, 1, none⟩ = some (.int .u32 v) ∧ w'.cell? ⟨w.heap.size, 2, none⟩ = some (.int .u32 s) ∧ w'.cell? ⟨w.heap.size, 3, none⟩ = some (.int .u32 c) ∧ w'.cell? ⟨w.heap.size, 4, none⟩ = some (.int .u32 k) ∧ w'.cell? ⟨w.heap.size, 5, none⟩ = some (.bool t) ∧ w'.cell? ⟨w.heap.size, 6, none⟩ = some (.bool n) ∧ w'.cell? ⟨w.heap.size, 7, none⟩ = some (.int .u32 p)) (first | exact ⟨c0, c1, c2, c3, c4, c5, c6, c7⟩) (first | (go_at_call 27; refine Calls.mono (TB.out _) ?_; rintro x w9 ⟨rfl, hbb⟩; (first | replace hb := hb.trans (hbb.mono hb.size) | replace hb := hb.drew.trans (hbb.mono hb.drew.size)); replace c0 := kept_cell hbb c0; replace c1 := kept_cell hbb c1; replace c2 := kept_cell hbb c2; replace c3 := kept_cell hbb c3; replace c4 := kept_cell hbb c4; replace c5 := kept_cell hbb c5; replace c6 := kept_cell hbb c6; replace c7 := kept_cell hbb c7; clear hbb) | (go_at_call 34; refine Calls.mono (RD.out _) ?_; rintro x w9 ⟨rfl, hbb⟩; (first | replace hb := hb.trans (hbb.mono hb.size) | replace hb := hb.drew.trans (hbb.mono hb.drew.size)); replace c0 := kept_cell hbb c0; replace c1 := kept_cell hbb c1; replace c2 := kept_cell hbb c2; replace c3 := kept_cell hbb c3; replace c4 := kept_cell hbb c4; replace c5 := kept_cell hbb c5; replace c6 := kept_cell hbb c6; replace c7 := kept_cell hbb c7; clear hbb))
  all_goals go_wp2
  all_goals go_ret2
  all_goals exact ⟨rfl, hb⟩
set_option maxHeartbeats 1000000 in
theorem impl_read4 (o : Bool) (v s c k : Int) (t n : Bool) (p : Int) (y : Int) (w : World) : Calls Try.prog 17 #[vrt o v s c k t n p, .int .i64 4, .int .i64 y] w fun e w' => e = .returned (.tuple #[.int .u32 k, .bool true]) ∧ Below w.heap.size w w' := by
  have HI : inr 4 0 7 = true := inr_yes (by omega)
  have RD : Hid (∀ w, Calls Try.prog 36 #[vrt o v s c k t n p, .int .i64 y] w fun e w' => e = .returned (.int .u32 k) ∧ Below w.heap.size w w') := fun w => by skip; exact rd4 o v s c k t n p y w
  have hf : ∀ w, (Instr.field 51 (.agg #[.func (.func 36) #[] #[], .func (.func 37) #[] #[]]) 0).run Try.prog w = .ok (.func (.func 36) #[] #[]) w := fun w => by kernel_rfl
  have hx : ∀ w, (Instr.index 52 tblV (.int .i64 4)).run Try.prog w = .ok (.agg #[.func (.func 36) #[] #[], .func (.func 37) #[] #[]]) w := fun w => by kernel_rfl
  have TB : Hid (∀ w, Calls Try.prog 27 #[] w fun e w' => e = .returned tblV ∧ Below w.heap.size w w') := csr_table
  obtain ⟨w0, HW⟩ : ∃ w0, Hid (w0 = w.alloc (.cells (vrow o v s c k t n p) 25)) := ⟨_, rfl⟩
  have hb : Below w.heap.size w w0 := by rw [HW.out]; exact (Below.refl _ _).alloc (Nat.le_refl _) _
  obtain ⟨c0, c1, c2, c3, c4, c5, c6, c7⟩ : VC w0 w.heap.size o v s c k t n p := by rw [HW.out]; exact VC.new _ _ _ _ _ _ _ _ _ _
  go_enter Try.func17, Try.ntmps17
  go_wp2_with (first | (go_at_call 26; refine (is_csr _ _).mono ?_; rintro e w' ⟨rfl, rfl⟩; rw [HI]))
  rw [← HW.out]
  clear HW
  go_region_held3 (fun w' => w'.cell? ⟨w.heap.size, 0, none⟩ = some (.bool o) ∧ w'.cell? ⟨w.heap.size, 1, none⟩ = some (.int .u32 v) ∧ w'.cell? ⟨w.heap.size, 2, none⟩ = some (.int .u32 s) ∧ w'.cell? ⟨w.heap.size, 3, none⟩ = some (.int .u32 c) ∧ w'.cell? ⟨w.heap.size, 4, none⟩ = some (.int .u32 k) ∧ w'.cell? ⟨w.heap.size, 5, none⟩ = some (.bool t) ∧ w'.cell? ⟨w.heap.size, 6, none⟩ = some (.bool n) ∧ w'.cell? ⟨w.heap.size, 7, none⟩ = some (.int .u32 p)) (first | exact ⟨c0, c1, c2, c3, c4, c5, c6, c7⟩) (first | (go_at_call 27; refine Calls.mono (TB.out _) ?_; rintro x w9 ⟨rfl, hbb⟩; (first | replace hb := hb.trans (hbb.mono hb.size) | replace hb := hb.drew.trans (hbb.mono hb.drew.size)); replace c0 := kept_cell hbb c0; replace c1 := kept_cell hbb c1; replace c2 := kept_cell hbb c2; replace c3 := kept_cell hbb c3; replace c4 := kept_cell hbb c4; replace c5 := kept_cell hbb c5; replace c6 := kept_cell hbb c6; replace c7 := kept_cell hbb c7; clear hbb) | (go_at_call 36; refine Calls.mono (RD.out _) ?_; rintro x w9 ⟨rfl, hbb⟩; (first | replace hb := hb.trans (hbb.mono hb.size) | replace hb := hb.drew.trans (hbb.mono hb.drew.size)); replace c0 := kept_cell hbb c0; replace c1 := kept_cell hbb c1; replace c2 := kept_cell hbb c2; replace c3 := kept_cell hbb c3; replace c4 := kept_cell hbb c4; replace c5 := kept_cell hbb c5; replace c6 := kept_cell hbb c6; replace c7 := kept_cell hbb c7; clear hbb))
  all_goals go_wp2
  all_goals go_ret2
  all_goals exact ⟨rfl, hb⟩
set_option maxHeartbeats 1000000 in
theorem impl_read5 (o : Bool) (v s c k : Int) (t n : Bool) (p : Int) (y : Int) (w : World) : Calls Try.prog 17 #[vrt o v s c k t n p, .int .i64 5, .int .i64 y] w fun e w' => e = .returned (.tuple #[.int .u32 (if t then 1 else 0), .bool true]) ∧ Below w.heap.size w w' := by
  have HI : inr 5 0 7 = true := inr_yes (by omega)
  obtain ⟨r, HR⟩ : ∃ r : Int, Hid ((if t then 1 else 0) = r) := ⟨_, rfl⟩
  have RD : Hid (∀ w, Calls Try.prog 38 #[vrt o v s c k t n p, .int .i64 y] w fun e w' => e = .returned (.int .u32 r) ∧ Below w.heap.size w w') := fun w => by rw [← HR.out]; exact rd5 o v s c k t n p y w
  rw [HR.out]
  clear HR
  have hf : ∀ w, (Instr.field 51 (.agg #[.func (.func 38) #[] #[], .func (.func 39) #[] #[]]) 0).run Try.prog w = .ok (.func (.func 38) #[] #[]) w := fun w => by kernel_rfl
  have hx : ∀ w, (Instr.index 52 tblV (.int .i64 5)).run Try.prog w = .ok (.agg #[.func (.func 38) #[] #[], .func (.func 39) #[] #[]]) w := fun w => by kernel_rfl
  have TB : Hid (∀ w, Calls Try.prog 27 #[] w fun e w' => e = .returned tblV ∧ Below w.heap.size w w') := csr_table
  obtain ⟨w0, HW⟩ : ∃ w0, Hid (w0 = w.alloc (.cells (vrow o v s c k t n p) 25)) := ⟨_, rfl⟩
  have hb : Below w.heap.size w w0 := by rw [HW.out]; exact (Below.refl _ _).alloc (Nat.le_refl _) _
  obtain ⟨c0, c1, c2, c3, c4, c5, c6, c7⟩ : VC w0 w.heap.size o v s c k t n p := by rw [HW.out]; exact VC.new _ _ _ _ _ _ _ _ _ _
  go_enter Try.func17, Try.ntmps17
  go_wp2_with (first | (go_at_call 26; refine (is_csr _ _).mono ?_; rintro e w' ⟨rfl, rfl⟩; rw [HI]))
  rw [← HW.out]
  clear HW
  go_region_held3 (fun w' => w'.cell? ⟨w.heap.size, 0, none⟩ = some (.bool o) ∧ w'.cell? ⟨w.heap.size, 1, none⟩ = some (.int .u32 v) ∧ w'.cell? ⟨w.heap.size, 2, none⟩ = some (.int .u32 s) ∧ w'.cell? ⟨w.heap.size, 3, none⟩ = some (.int .u32 c) ∧ w'.cell? ⟨w.heap.size, 4, none⟩ = some (.int .u32 k) ∧ w'.cell? ⟨w.heap.size, 5, none⟩ = some (.bool t) ∧ w'.cell? ⟨w.heap.size, 6, none⟩ = some (.bool n) ∧ w'.cell? ⟨w.heap.size, 7, none⟩ = some (.int .u32 p)) (first | exact ⟨c0, c1, c2, c3, c4, c5, c6, c7⟩) (first | (go_at_call 27; refine Calls.mono (TB.out _) ?_; rintro x w9 ⟨rfl, hbb⟩; (first | replace hb := hb.trans (hbb.mono hb.size) | replace hb := hb.drew.trans (hbb.mono hb.drew.size)); replace c0 := kept_cell hbb c0; replace c1 := kept_cell hbb c1; replace c2 := kept_cell hbb c2; replace c3 := kept_cell hbb c3; replace c4 := kept_cell hbb c4; replace c5 := kept_cell hbb c5; replace c6 := kept_cell hbb c6; replace c7 := kept_cell hbb c7; clear hbb) | (go_at_call 38; refine Calls.mono (RD.out _) ?_; rintro x w9 ⟨rfl, hbb⟩; (first | replace hb := hb.trans (hbb.mono hb.size) | replace hb := hb.drew.trans (hbb.mono hb.drew.size)); replace c0 := kept_cell hbb c0; replace c1 := kept_cell hbb c1; replace c2 := kept_cell hbb c2; replace c3 := kept_cell hbb c3; replace c4 := kept_cell hbb c4; replace c5 := kept_cell hbb c5; replace c6 := kept_cell hbb c6; replace c7 := kept_cell hbb c7; clear hbb))
  all_goals go_wp2
  all_goals go_ret2
  all_goals exact ⟨rfl, hb⟩
set_option maxHeartbeats 1000000 in
theorem impl_read6 (o : Bool) (v s c k : Int) (t n : Bool) (p : Int) (y : Int) (w : World) : Calls Try.prog 17 #[vrt o v s c k t n p, .int .i64 6, .int .i64 y] w fun e w' => e = .returned (.tuple #[.int .u32 p, .bool true]) ∧ Below w.heap.size w w' := by
  have HI : inr 6 0 7 = true := inr_yes (by omega)
  have RD : Hid (∀ w, Calls Try.prog 40 #[vrt o v s c k t n p, .int .i64 y] w fun e w' => e = .returned (.int .u32 p) ∧ Below w.heap.size w w') := fun w => by skip; exact rd6 o v s c k t n p y w
  have hf : ∀ w, (Instr.field 51 (.agg #[.func (.func 40) #[] #[], .func (.func 35) #[] #[]]) 0).run Try.prog w = .ok (.func (.func 40) #[] #[]) w := fun w => by kernel_rfl
  have hx : ∀ w, (Instr.index 52 tblV (.int .i64 6)).run Try.prog w = .ok (.agg #[.func (.func 40) #[] #[], .func (.func 35) #[] #[]]) w := fun w => by kernel_rfl
  have TB : Hid (∀ w, Calls Try.prog 27 #[] w fun e w' => e = .returned tblV ∧ Below w.heap.size w w') := csr_table
  obtain ⟨w0, HW⟩ : ∃ w0, Hid (w0 = w.alloc (.cells (vrow o v s c k t n p) 25)) := ⟨_, rfl⟩
  have hb : Below w.heap.size w w0 := by rw [HW.out]; exact (Below.refl _ _).alloc (Nat.le_refl _) _
  obtain ⟨c0, c1, c2, c3, c4, c5, c6, c7⟩ : VC w0 w.heap.size o v s c k t n p := by rw [HW.out]; exact VC.new _ _ _ _ _ _ _ _ _ _
  go_enter Try.func17, Try.ntmps17
  go_wp2_with (first | (go_at_call 26; refine (is_csr _ _).mono ?_; rintro e w' ⟨rfl, rfl⟩; rw [HI]))
  rw [← HW.out]
  clear HW
  go_region_held3 (fun w' => w'.cell? ⟨w.heap.size, 0, none⟩ = some (.bool o) ∧ w'.cell? ⟨w.heap.size, 1, none⟩ = some (.int .u32 v) ∧ w'.cell? ⟨w.heap.size, 2, none⟩ = some (.int .u32 s) ∧ w'.cell? ⟨w.heap.size, 3, none⟩ = some (.int .u32 c) ∧ w'.cell? ⟨w.heap.size, 4, none⟩ = some (.int .u32 k) ∧ w'.cell? ⟨w.heap.size, 5, none⟩ = some (.bool t) ∧ w'.cell? ⟨w.heap.size, 6, none⟩ = some (.bool n) ∧ w'.cell? ⟨w.heap.size, 7, none⟩ = some (.int .u32 p)) (first | exact ⟨c0, c1, c2, c3, c4, c5, c6, c7⟩) (first | (go_at_call 27; refine Calls.mono (TB.out _) ?_; rintro x w9 ⟨rfl, hbb⟩; (first | replace hb := hb.trans (hbb.mono hb.size) | replace hb := hb.drew.trans (hbb.mono hb.drew.size)); replace c0 := kept_cell hbb c0; replace c1 := kept_cell hbb c1; replace c2 := kept_cell hbb c2; replace c3 := kept_cell hbb c3; replace c4 := kept_cell hbb c4; replace c5 := kept_cell hbb c5; replace c6 := kept_cell hbb c6; replace c7 := kept_cell hbb c7; clear hbb) | (go_at_call 40; refine Calls.mono (RD.out _) ?_; rintro x w9 ⟨rfl, hbb⟩; (first | replace hb := hb.trans (hbb.mono hb.size) | replace hb := hb.drew.trans (hbb.mono hb.drew.size)); replace c0 := kept_cell hbb c0; replace c1 := kept_cell hbb c1; replace c2 := kept_cell hbb c2; replace c3 := kept_cell hbb c3; replace c4 := kept_cell hbb c4; replace c5 := kept_cell hbb c5; replace c6 := kept_cell hbb c6; replace c7 := kept_cell hbb c7; clear hbb))
  all_goals go_wp2
  all_goals go_ret2
  all_goals exact ⟨rfl, hb⟩
set_option maxHeartbeats 1000000 in
theorem impl_read7 (o : Bool) (v s c k : Int) (t n : Bool) (p : Int) (y : Int) (w : World) : Calls Try.prog 17 #[vrt o v s c k t n p, .int .i64 7, .int .i64 y] w fun e w' => e = .returned (.tuple #[.int .u32 (y % 4294967296), .bool true]) ∧ Below w.heap.size w w' := by
  have HI : inr 7 0 7 = true := inr_yes (by omega)
  obtain ⟨r, HR⟩ : ∃ r : Int, Hid ((y % 4294967296) = r) := ⟨_, rfl⟩
  have RD : Hid (∀ w, Calls Try.prog 41 #[vrt o v s c k t n p, .int .i64 y] w fun e w' => e = .returned (.int .u32 r) ∧ Below w.heap.size w w') := fun w => by rw [← HR.out]; exact rd7 o v s c k t n p y w
  rw [HR.out]
  clear HR
  have hf : ∀ w, (Instr.field 51 (.agg #[.func (.func 41) #[] #[], .func (.func 35) #[] #[]]) 0).run Try.prog w = .ok (.func (.func 41) #[] #[]) w := fun w => by kernel_rfl
  have hx : ∀ w, (Instr.index 52 tblV (.int .i64 7)).run Try.prog w = .ok (.agg #[.func (.func 41) #[] #[], .func (.func 35) #[] #[]]) w := fun w => by kernel_rfl
  have TB : Hid (∀ w, Calls Try.prog 27 #[] w fun e w' => e = .returned tblV ∧ Below w.heap.size w w') := csr_table
  obtain ⟨w0, HW⟩ : ∃ w0, Hid (w0 = w.alloc (.cells (vrow o v s c k t n p) 25)) := ⟨_, rfl⟩
  have hb : Below w.heap.size w w0 := by rw [HW.out]; exact (Below.refl _ _).alloc (Nat.le_refl _) _
  obtain ⟨c0, c1, c2, c3, c4, c5, c6, c7⟩ : VC w0 w.heap.size o v s c k t n p := by rw [HW.out]; exact VC.new _ _ _ _ _ _ _ _ _ _
  go_enter Try.func17, Try.ntmps17
  go_wp2_with (first | (go_at_call 26; refine (is_csr _ _).mono ?_; rintro e w' ⟨rfl, rfl⟩; rw [HI]))
  rw [← HW.out]
  clear HW
  go_region_held3 (fun w' => w'.cell? ⟨w.heap.size, 0, none⟩ = some (.bool o) ∧ w'.cell? ⟨w.heap.size, 1, none⟩ = some (.int .u32 v) ∧ w'.cell? ⟨w.heap.size, 2, none⟩ = some (.int .u32 s) ∧ w'.cell? ⟨w.heap.size, 3, none⟩ = some (.int .u32 c) ∧ w'.cell? ⟨w.heap.size, 4, none⟩ = some (.int .u32 k) ∧ w'.cell? ⟨w.heap.size, 5, none⟩ = some (.bool t) ∧ w'.cell? ⟨w.heap.size, 6, none⟩ = some (.bool n) ∧ w'.cell? ⟨w.heap.size, 7, none⟩ = some (.int .u32 p)) (first | exact ⟨c0, c1, c2, c3, c4, c5, c6, c7⟩) (first | (go_at_call 27; refine Calls.mono (TB.out _) ?_; rintro x w9 ⟨rfl, hbb⟩; (first | replace hb := hb.trans (hbb.mono hb.size) | replace hb := hb.drew.trans (hbb.mono hb.drew.size)); replace c0 := kept_cell hbb c0; replace c1 := kept_cell hbb c1; replace c2 := kept_cell hbb c2; replace c3 := kept_cell hbb c3; replace c4 := kept_cell hbb c4; replace c5 := kept_cell hbb c5; replace c6 := kept_cell hbb c6; replace c7 := kept_cell hbb c7; clear hbb) | (go_at_call 41; refine Calls.mono (RD.out _) ?_; rintro x w9 ⟨rfl, hbb⟩; (first | replace hb := hb.trans (hbb.mono hb.size) | replace hb := hb.drew.trans (hbb.mono hb.drew.size)); replace c0 := kept_cell hbb c0; replace c1 := kept_cell hbb c1; replace c2 := kept_cell hbb c2; replace c3 := kept_cell hbb c3; replace c4 := kept_cell hbb c4; replace c5 := kept_cell hbb c5; replace c6 := kept_cell hbb c6; replace c7 := kept_cell hbb c7; clear hbb))
  all_goals go_wp2
  all_goals go_ret2
  all_goals exact ⟨rfl, hb⟩
set_option maxHeartbeats 400000 in
theorem wr0 (o : Bool) (v s c k : Int) (t n : Bool) (p : Int) (x : Int) (b : Bool) (w : World) (h1 : 0 ≤ x) (h2 : x ≤ 4294967295) (hb : Hid (decide (x % 2 = 1) = b)) : Calls Try.prog 29 #[vrt o v s c k t n p, .int .u32 x] w fun e w' => e = .returned (.tuple #[vrt b v s c k t n p, .bool true]) ∧ Below w.heap.size w w' := by
  go_enter Try.func29, Try.ntmps29
  go_wp2_with (go_at_call 43; refine (is_odd x b _ h1 h2 hb).mono ?_; rintro e w' ⟨rfl, rfl⟩)
  exact bodyPost_ret (v := .tuple #[vrt b v s c k t n p, .bool true]) (by simp [results, Try.results29, go_sem]) rfl ⟨rfl, ((Below.refl _ _).alloc (Nat.le_refl _) _).alloc (by simp) _⟩
set_option maxHeartbeats 400000 in
theorem wr1 (o : Bool) (v s c k : Int) (t n : Bool) (p : Int) (x : Int) (b : Bool) (w : World) : Calls Try.prog 31 #[vrt o v s c k t n p, .int .u32 x] w fun e w' => e = .returned (.tuple #[vrt o x s c k t n p, .bool true]) ∧ Below w.heap.size w w' := by
  go_enter Try.func31, Try.ntmps31
  go_wp2
  exact bodyPost_ret (v := .tuple #[vrt o x s c k t n p, .bool true]) (by simp [results, Try.results31, go_sem]) rfl ⟨rfl, ((Below.refl _ _).alloc (Nat.le_refl _) _).alloc (by simp) _⟩
set_option maxHeartbeats 400000 in
theorem wr2 (o : Bool) (v s c k : Int) (t n : Bool) (p : Int) (x : Int) (b : Bool) (w : World) : Calls Try.prog 33 #[vrt o v s c k t n p, .int .u32 x] w fun e w' => e = .returned (.tuple #[vrt o v x c k t n p, .bool true]) ∧ Below w.heap.size w w' := by
  go_enter Try.func33, Try.ntmps33
  go_wp2
  exact bodyPost_ret (v := .tuple #[vrt o v x c k t n p, .bool true]) (by simp [results, Try.results33, go_sem]) rfl ⟨rfl, ((Below.refl _ _).alloc (Nat.le_refl _) _).alloc (by simp) _⟩
set_option maxHeartbeats 400000 in
theorem wr3 (o : Bool) (v s c k : Int) (t n : Bool) (p : Int) (x : Int) (b : Bool) (w : World) : Calls Try.prog 35 #[vrt o v s c k t n p, .int .u32 x] w fun e w' => e = .returned (.tuple #[vrt o v s c k t n p, .bool false]) ∧ Below w.heap.size w w' := by
  go_enter Try.func35, Try.ntmps35
  go_wp2
  exact bodyPost_ret (v := .tuple #[vrt o v s c k t n p, .bool false]) (by simp [results, Try.results35, go_sem]) rfl ⟨rfl, ((Below.refl _ _).alloc (Nat.le_refl _) _).alloc (by simp) _⟩
set_option maxHeartbeats 400000 in
theorem wr4 (o : Bool) (v s c k : Int) (t n : Bool) (p : Int) (x : Int) (b : Bool) (w : World) : Calls Try.prog 37 #[vrt o v s c k t n p, .int .u32 x] w fun e w' => e = .returned (.tuple #[vrt o v s c x t n p, .bool true]) ∧ Below w.heap.size w w' := by
  go_enter Try.func37, Try.ntmps37
  go_wp2
  exact bodyPost_ret (v := .tuple #[vrt o v s c x t n p, .bool true]) (by simp [results, Try.results37, go_sem]) rfl ⟨rfl, ((Below.refl _ _).alloc (Nat.le_refl _) _).alloc (by simp) _⟩
set_option maxHeartbeats 400000 in
theorem wr5 (o : Bool) (v s c k : Int) (t n : Bool) (p : Int) (x : Int) (b : Bool) (w : World) (h1 : 0 ≤ x) (h2 : x ≤ 4294967295) (hb : Hid (decide (x % 2 = 1) = b)) : Calls Try.prog 39 #[vrt o v s c k t n p, .int .u32 x] w fun e w' => e = .returned (.tuple #[vrt o v s c k b n p, .bool true]) ∧ Below w.heap.size w w' := by
  go_enter Try.func39, Try.ntmps39
  go_wp2_with (go_at_call 43; refine (is_odd x b _ h1 h2 hb).mono ?_; rintro e w' ⟨rfl, rfl⟩)
  exact bodyPost_ret (v := .tuple #[vrt o v s c k b n p, .bool true]) (by simp [results, Try.results39, go_sem]) rfl ⟨rfl, ((Below.refl _ _).alloc (Nat.le_refl _) _).alloc (by simp) _⟩
end Go.Proofs.Ythohemncfdjdeaa
