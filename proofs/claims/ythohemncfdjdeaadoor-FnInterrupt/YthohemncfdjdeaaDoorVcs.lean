
/-
  Reading and writing one virtual register, the specification's and the program's own: the same answer at every argument. No conditions but that the arguments are values of their types.
-/
import Derived.Test.YthohemncfdjdeaaDoorVop
import Derived.Deep.RegionHeld3
import Derived.Laws.EntriesVeiled
namespace Go.Proofs.YthohemncfdjdeaaDoor
open Go.ChangeShapes Go.WideShapes Go.ChangeAt Go.RowKit
set_option linter.unusedVariables false

/-- The table of readers and writers. -/
abbrev tblV : Value := .agg #[.func (.func 29) #[] #[], .func (.func 30) #[] #[], .func (.func 31) #[] #[], .func (.func 32) #[] #[], .func (.func 33) #[] #[], .func (.func 34) #[] #[], .func (.func 35) #[] #[], .func (.func 36) #[] #[], .func (.func 37) #[] #[], .func (.func 38) #[] #[], .func (.func 39) #[] #[], .func (.func 40) #[] #[], .func (.func 41) #[] #[], .func (.func 36) #[] #[], .func (.func 42) #[] #[], .func (.func 36) #[] #[]]
set_option maxHeartbeats 1000000 in
theorem csr_table (w : World) : Calls Tryd.prog 23 #[] w fun e w' => e = .returned tblV ∧ Below w.heap.size w w' := by
  go_enter Tryd.func23, Tryd.ntmps23
  go_wp2
  exact bodyPost_ret (v := tblV) (by simp [results, Tryd.results23, go_sem]) rfl ⟨rfl, (Below.refl _ _).alloc (Nat.le_refl _) _⟩
theorem is_csr (d : Int) (w : World) : Calls Tryd.prog 22 #[.int .i64 d] w fun e w' => e = .returned (.bool (inr d 0 7)) ∧ w' = w := by
  by_cases h1 : 0 ≤ d
  · by_cases h2 : d ≤ 7
    · rw [inr_yes ⟨h1, h2⟩]
      have h3 : d < 8 := by omega
      clear h2
      go_enter Tryd.func22, Tryd.ntmps22
      go_wp2
      go_ret
      exact ⟨rfl, rfl⟩
    · rw [inr_no (fun g => h2 g.2)]
      have h3 : ¬ d < 8 := by omega
      clear h2
      go_enter Tryd.func22, Tryd.ntmps22
      go_wp2
      go_ret
      exact ⟨rfl, rfl⟩
  · rw [inr_no (fun g => h1 g.1)]
    go_enter Tryd.func22, Tryd.ntmps22
    go_wp2
    go_ret
    exact ⟨rfl, rfl⟩
theorem one_if (t : Bool) (w : World) : Calls Tryd.prog 46 #[.bool t] w fun e w' => e = .returned (.int .u32 (if t then 1 else 0)) ∧ w' = w := by
  cases t
  all_goals
    go_enter Tryd.func46, Tryd.ntmps46
    go_wp2
    go_ret
    exact ⟨rfl, rfl⟩
set_option maxHeartbeats 400000 in
theorem mod_any (y : Int) (w : World) : Calls Tryd.prog 18 #[.int .i64 y, .int .i64 4294967296] w fun e w' => e = .returned (.int .i64 (y % 4294967296)) ∧ w' = w := by
  have HE : Hid _ := Vb.mod32 y
  by_cases h : y.tmod 4294967296 < 0
  · go_enter Tryd.func18, Tryd.ntmps18
    go_wp2
    go_ret
    exact ⟨ret_int (HE.out.2.1 h), rfl⟩
  · go_enter Tryd.func18, Tryd.ntmps18
    go_wp2
    go_ret
    exact ⟨ret_int (HE.out.1 (by omega)), rfl⟩
set_option maxHeartbeats 400000 in
theorem is_odd (x : Int) (b : Bool) (w : World) (h1 : 0 ≤ x) (h2 : x ≤ 4294967295) (hb : Hid (decide (x % 2 = 1) = b)) : Calls Tryd.prog 47 #[.int .u32 x] w fun e w' => e = .returned (.bool b) ∧ w' = w := by
  obtain ⟨q, HQ⟩ : ∃ q, Hid (bits .and .u32 x 1 = q) := ⟨_, rfl⟩
  have HB : Hid ((!(q == 0)) = b) := by
    show _ = _
    rw [← HQ.out, ← hb.out, Vb.odd_int x h1 h2]
    rcases (by omega : x % 2 = 0 ∨ x % 2 = 1) with e | e <;> simp [e]
  clear hb
  go_enter Tryd.func47, Tryd.ntmps47
  go_wp2
  go_ret
  exact ⟨ret_bool (by rw [HQ.out]; first | exact HB.out | (rw [← HB.out]; simp)), rfl⟩

/-! ### Readers -/
theorem rd0 (o : Bool) (v s c k : Int) (t n : Bool) (p : Int) (y : Int) (w : World) : Calls Tryd.prog 29 #[vrt o v s c k t n p, .int .i64 y] w fun e w' => e = .returned (.int .u32 (if o then 1 else 0)) ∧ Below w.heap.size w w' := by
  go_enter Tryd.func29, Tryd.ntmps29
  go_wp2_with (go_at_call 46; refine (one_if _ _).mono ?_; rintro e w' ⟨rfl, rfl⟩)
  all_goals go_ret
  all_goals exact ⟨rfl, (Below.refl _ _).alloc (Nat.le_refl _) _⟩
theorem rd1 (o : Bool) (v s c k : Int) (t n : Bool) (p : Int) (y : Int) (w : World) : Calls Tryd.prog 31 #[vrt o v s c k t n p, .int .i64 y] w fun e w' => e = .returned (.int .u32 v) ∧ Below w.heap.size w w' := by
  go_enter Tryd.func31, Tryd.ntmps31
  go_wp2
  all_goals go_ret
  all_goals exact ⟨rfl, (Below.refl _ _).alloc (Nat.le_refl _) _⟩
theorem rd2 (o : Bool) (v s c k : Int) (t n : Bool) (p : Int) (y : Int) (w : World) : Calls Tryd.prog 33 #[vrt o v s c k t n p, .int .i64 y] w fun e w' => e = .returned (.int .u32 s) ∧ Below w.heap.size w w' := by
  go_enter Tryd.func33, Tryd.ntmps33
  go_wp2
  all_goals go_ret
  all_goals exact ⟨rfl, (Below.refl _ _).alloc (Nat.le_refl _) _⟩
theorem rd3 (o : Bool) (v s c k : Int) (t n : Bool) (p : Int) (y : Int) (w : World) : Calls Tryd.prog 35 #[vrt o v s c k t n p, .int .i64 y] w fun e w' => e = .returned (.int .u32 c) ∧ Below w.heap.size w w' := by
  go_enter Tryd.func35, Tryd.ntmps35
  go_wp2
  all_goals go_ret
  all_goals exact ⟨rfl, (Below.refl _ _).alloc (Nat.le_refl _) _⟩
theorem rd4 (o : Bool) (v s c k : Int) (t n : Bool) (p : Int) (y : Int) (w : World) : Calls Tryd.prog 37 #[vrt o v s c k t n p, .int .i64 y] w fun e w' => e = .returned (.int .u32 k) ∧ Below w.heap.size w w' := by
  go_enter Tryd.func37, Tryd.ntmps37
  go_wp2
  all_goals go_ret
  all_goals exact ⟨rfl, (Below.refl _ _).alloc (Nat.le_refl _) _⟩
theorem rd5 (o : Bool) (v s c k : Int) (t n : Bool) (p : Int) (y : Int) (w : World) : Calls Tryd.prog 39 #[vrt o v s c k t n p, .int .i64 y] w fun e w' => e = .returned (.int .u32 (if t then 1 else 0)) ∧ Below w.heap.size w w' := by
  go_enter Tryd.func39, Tryd.ntmps39
  go_wp2_with (go_at_call 46; refine (one_if _ _).mono ?_; rintro e w' ⟨rfl, rfl⟩)
  all_goals go_ret
  all_goals exact ⟨rfl, (Below.refl _ _).alloc (Nat.le_refl _) _⟩
theorem rd6 (o : Bool) (v s c k : Int) (t n : Bool) (p : Int) (y : Int) (w : World) : Calls Tryd.prog 41 #[vrt o v s c k t n p, .int .i64 y] w fun e w' => e = .returned (.int .u32 p) ∧ Below w.heap.size w w' := by
  go_enter Tryd.func41, Tryd.ntmps41
  go_wp2
  all_goals go_ret
  all_goals exact ⟨rfl, (Below.refl _ _).alloc (Nat.le_refl _) _⟩
theorem rd7 (o : Bool) (v s c k : Int) (t n : Bool) (p : Int) (y : Int) (w : World) : Calls Tryd.prog 42 #[vrt o v s c k t n p, .int .i64 y] w fun e w' => e = .returned (.int .u32 (y % 4294967296)) ∧ Below w.heap.size w w' := by
  go_enter Tryd.func42, Tryd.ntmps42
  go_wp2
  all_goals go_ret
  all_goals exact ⟨rfl, (Below.refl _ _).alloc (Nat.le_refl _) _⟩
theorem kept_cell {w w' : World} {p : Addr} {v : Value} (hb : Below w.heap.size w w') (h : w.cell? p = some v) : w'.cell? p = some v :=
  (hb.cell (World.block_lt_of_cell? w _ h)).trans h
set_option maxHeartbeats 1000000 in
theorem impl_read0 (o : Bool) (v s c k : Int) (t n : Bool) (p : Int) (y : Int) (w : World) : Calls Tryd.prog 17 #[vrt o v s c k t n p, .int .i64 0, .int .i64 y] w fun e w' => e = .returned (.tuple #[.int .u32 (if o then 1 else 0), .bool true]) ∧ Below w.heap.size w w' := by
  have HI : inr 0 0 7 = true := inr_yes (by omega)
  obtain ⟨r, HR⟩ : ∃ r : Int, Hid ((if o then 1 else 0) = r) := ⟨_, rfl⟩
  have RD : Hid (∀ w, Calls Tryd.prog 29 #[vrt o v s c k t n p, .int .i64 y] w fun e w' => e = .returned (.int .u32 r) ∧ Below w.heap.size w w') := fun w => by rw [← HR.out]; exact rd0 o v s c k t n p y w
  rw [HR.out]
  clear HR
  have hf : ∀ w, (Instr.field 51 (.agg #[.func (.func 29) #[] #[], .func (.func 30) #[] #[]]) 0).run Tryd.prog w = .ok (.func (.func 29) #[] #[]) w := fun w => by kernel_rfl
  have hx : ∀ w, (Instr.index 52 tblV (.int .i64 0)).run Tryd.prog w = .ok (.agg #[.func (.func 29) #[] #[], .func (.func 30) #[] #[]]) w := fun w => by kernel_rfl
  have TB : Hid (∀ w, Calls Tryd.prog 23 #[] w fun e w' => e = .returned tblV ∧ Below w.heap.size w w') := csr_table
  obtain ⟨w0, HW⟩ : ∃ w0, Hid (w0 = w.alloc (.cells (vrow o v s c k t n p) 26)) := ⟨_, rfl⟩
  have hb : Below w.heap.size w w0 := by rw [HW.out]; exact (Below.refl _ _).alloc (Nat.le_refl _) _
  obtain ⟨c0, c1, c2, c3, c4, c5, c6, c7⟩ : VC w0 w.heap.size o v s c k t n p := by rw [HW.out]; exact VC.new _ _ _ _ _ _ _ _ _ _
  go_enter Tryd.func17, Tryd.ntmps17
  go_wp2_with (first | (go_at_call 22; refine (is_csr _ _).mono ?_; rintro e w' ⟨rfl, rfl⟩; rw [HI]))
  rw [← HW.out]
  clear HW
  go_region_held3 (fun w' => w'.cell? ⟨w.heap.size, 0, none⟩ = some (.bool o) ∧ w'.cell? ⟨w.heap.size, 1, none⟩ = some (.int .u32 v) ∧ w'.cell? ⟨w.heap.size, 2, none⟩ = some (.int .u32 s) ∧ w'.cell? ⟨w.heap.size, 3, none⟩ = some (.int .u32 c) ∧ w'.cell? ⟨w.heap.size, 4, none⟩ = some (.int .u32 k) ∧ w'.cell? ⟨w.heap.size, 5, none⟩ = some (.bool t) ∧ w'.cell? ⟨w.heap.size, 6, none⟩ = some (.bool n) ∧ w'.cell? ⟨w.heap.size, 7, none⟩ = some (.int .u32 p)) (first | exact ⟨c0, c1, c2, c3, c4, c5, c6, c7⟩) (first | (go_at_call 23; refine Calls.mono (TB.out _) ?_; rintro x w9 ⟨rfl, hbb⟩; (first | replace hb := hb.trans (hbb.mono hb.size) | replace hb := hb.drew.trans (hbb.mono hb.drew.size)); replace c0 := kept_cell hbb c0; replace c1 := kept_cell hbb c1; replace c2 := kept_cell hbb c2; replace c3 := kept_cell hbb c3; replace c4 := kept_cell hbb c4; replace c5 := kept_cell hbb c5; replace c6 := kept_cell hbb c6; replace c7 := kept_cell hbb c7; clear hbb) | (go_at_call 29; refine Calls.mono (RD.out _) ?_; rintro x w9 ⟨rfl, hbb⟩; (first | replace hb := hb.trans (hbb.mono hb.size) | replace hb := hb.drew.trans (hbb.mono hb.drew.size)); replace c0 := kept_cell hbb c0; replace c1 := kept_cell hbb c1; replace c2 := kept_cell hbb c2; replace c3 := kept_cell hbb c3; replace c4 := kept_cell hbb c4; replace c5 := kept_cell hbb c5; replace c6 := kept_cell hbb c6; replace c7 := kept_cell hbb c7; clear hbb))
  all_goals go_wp2
  all_goals go_ret2
  all_goals exact ⟨rfl, hb⟩
set_option maxHeartbeats 1000000 in
theorem impl_read1 (o : Bool) (v s c k : Int) (t n : Bool) (p : Int) (y : Int) (w : World) : Calls Tryd.prog 17 #[vrt o v s c k t n p, .int .i64 1, .int .i64 y] w fun e w' => e = .returned (.tuple #[.int .u32 v, .bool true]) ∧ Below w.heap.size w w' := by
  have HI : inr 1 0 7 = true := inr_yes (by omega)
  have RD : Hid (∀ w, Calls Tryd.prog 31 #[vrt o v s c k t n p, .int .i64 y] w fun e w' => e = .returned (.int .u32 v) ∧ Below w.heap.size w w') := fun w => by skip; exact rd1 o v s c k t n p y w
  have hf : ∀ w, (Instr.field 51 (.agg #[.func (.func 31) #[] #[], .func (.func 32) #[] #[]]) 0).run Tryd.prog w = .ok (.func (.func 31) #[] #[]) w := fun w => by kernel_rfl
  have hx : ∀ w, (Instr.index 52 tblV (.int .i64 1)).run Tryd.prog w = .ok (.agg #[.func (.func 31) #[] #[], .func (.func 32) #[] #[]]) w := fun w => by kernel_rfl
  have TB : Hid (∀ w, Calls Tryd.prog 23 #[] w fun e w' => e = .returned tblV ∧ Below w.heap.size w w') := csr_table
  obtain ⟨w0, HW⟩ : ∃ w0, Hid (w0 = w.alloc (.cells (vrow o v s c k t n p) 26)) := ⟨_, rfl⟩
  have hb : Below w.heap.size w w0 := by rw [HW.out]; exact (Below.refl _ _).alloc (Nat.le_refl _) _
  obtain ⟨c0, c1, c2, c3, c4, c5, c6, c7⟩ : VC w0 w.heap.size o v s c k t n p := by rw [HW.out]; exact VC.new _ _ _ _ _ _ _ _ _ _
  go_enter Tryd.func17, Tryd.ntmps17
  go_wp2_with (first | (go_at_call 22; refine (is_csr _ _).mono ?_; rintro e w' ⟨rfl, rfl⟩; rw [HI]))
  rw [← HW.out]
  clear HW
  go_region_held3 (fun w' => w'.cell? ⟨w.heap.size, 0, none⟩ = some (.bool o) ∧ w'.cell? ⟨w.heap.size, 1, none⟩ = some (.int .u32 v) ∧ w'.cell? ⟨w.heap.size, 2, none⟩ = some (.int .u32 s) ∧ w'.cell? ⟨w.heap.size, 3, none⟩ = some (.int .u32 c) ∧ w'.cell? ⟨w.heap.size, 4, none⟩ = some (.int .u32 k) ∧ w'.cell? ⟨w.heap.size, 5, none⟩ = some (.bool t) ∧ w'.cell? ⟨w.heap.size, 6, none⟩ = some (.bool n) ∧ w'.cell? ⟨w.heap.size, 7, none⟩ = some (.int .u32 p)) (first | exact ⟨c0, c1, c2, c3, c4, c5, c6, c7⟩) (first | (go_at_call 23; refine Calls.mono (TB.out _) ?_; rintro x w9 ⟨rfl, hbb⟩; (first | replace hb := hb.trans (hbb.mono hb.size) | replace hb := hb.drew.trans (hbb.mono hb.drew.size)); replace c0 := kept_cell hbb c0; replace c1 := kept_cell hbb c1; replace c2 := kept_cell hbb c2; replace c3 := kept_cell hbb c3; replace c4 := kept_cell hbb c4; replace c5 := kept_cell hbb c5; replace c6 := kept_cell hbb c6; replace c7 := kept_cell hbb c7; clear hbb) | (go_at_call 31; refine Calls.mono (RD.out _) ?_; rintro x w9 ⟨rfl, hbb⟩; (first | replace hb := hb.trans (hbb.mono hb.size) | replace hb := hb.drew.trans (hbb.mono hb.drew.size)); replace c0 := kept_cell hbb c0; replace c1 := kept_cell hbb c1; replace c2 := kept_cell hbb c2; replace c3 := kept_cell hbb c3; replace c4 := kept_cell hbb c4; replace c5 := kept_cell hbb c5; replace c6 := kept_cell hbb c6; replace c7 := kept_cell hbb c7; clear hbb))
  all_goals go_wp2
  all_goals go_ret2
  all_goals exact ⟨rfl, hb⟩
set_option maxHeartbeats 1000000 in
theorem impl_read2 (o : Bool) (v s c k : Int) (t n : Bool) (p : Int) (y : Int) (w : World) : Calls Tryd.prog 17 #[vrt o v s c k t n p, .int .i64 2, .int .i64 y] w fun e w' => e = .returned (.tuple #[.int .u32 s, .bool true]) ∧ Below w.heap.size w w' := by
  have HI : inr 2 0 7 = true := inr_yes (by omega)
  have RD : Hid (∀ w, Calls Tryd.prog 33 #[vrt o v s c k t n p, .int .i64 y] w fun e w' => e = .returned (.int .u32 s) ∧ Below w.heap.size w w') := fun w => by skip; exact rd2 o v s c k t n p y w
  have hf : ∀ w, (Instr.field 51 (.agg #[.func (.func 33) #[] #[], .func (.func 34) #[] #[]]) 0).run Tryd.prog w = .ok (.func (.func 33) #[] #[]) w := fun w => by kernel_rfl
  have hx : ∀ w, (Instr.index 52 tblV (.int .i64 2)).run Tryd.prog w = .ok (.agg #[.func (.func 33) #[] #[], .func (.func 34) #[] #[]]) w := fun w => by kernel_rfl
  have TB : Hid (∀ w, Calls Tryd.prog 23 #[] w fun e w' => e = .returned tblV ∧ Below w.heap.size w w') := csr_table
  obtain ⟨w0, HW⟩ : ∃ w0, Hid (w0 = w.alloc (.cells (vrow o v s c k t n p) 26)) := ⟨_, rfl⟩
  have hb : Below w.heap.size w w0 := by rw [HW.out]; exact (Below.refl _ _).alloc (Nat.le_refl _) _
  obtain ⟨c0, c1, c2, c3, c4, c5, c6, c7⟩ : VC w0 w.heap.size o v s c k t n p := by rw [HW.out]; exact VC.new _ _ _ _ _ _ _ _ _ _
  go_enter Tryd.func17, Tryd.ntmps17
  go_wp2_with (first | (go_at_call 22; refine (is_csr _ _).mono ?_; rintro e w' ⟨rfl, rfl⟩; rw [HI]))
  rw [← HW.out]
  clear HW
  go_region_held3 (fun w' => w'.cell? ⟨w.heap.size, 0, none⟩ = some (.bool o) ∧ w'.cell? ⟨w.heap.size, 1, none⟩ = some (.int .u32 v) ∧ w'.cell? ⟨w.heap.size, 2, none⟩ = some (.int .u32 s) ∧ w'.cell? ⟨w.heap.size, 3, none⟩ = some (.int .u32 c) ∧ w'.cell? ⟨w.heap.size, 4, none⟩ = some (.int .u32 k) ∧ w'.cell? ⟨w.heap.size, 5, none⟩ = some (.bool t) ∧ w'.cell? ⟨w.heap.size, 6, none⟩ = some (.bool n) ∧ w'.cell? ⟨w.heap.size, 7, none⟩ = some (.int .u32 p)) (first | exact ⟨c0, c1, c2, c3, c4, c5, c6, c7⟩) (first | (go_at_call 23; refine Calls.mono (TB.out _) ?_; rintro x w9 ⟨rfl, hbb⟩; (first | replace hb := hb.trans (hbb.mono hb.size) | replace hb := hb.drew.trans (hbb.mono hb.drew.size)); replace c0 := kept_cell hbb c0; replace c1 := kept_cell hbb c1; replace c2 := kept_cell hbb c2; replace c3 := kept_cell hbb c3; replace c4 := kept_cell hbb c4; replace c5 := kept_cell hbb c5; replace c6 := kept_cell hbb c6; replace c7 := kept_cell hbb c7; clear hbb) | (go_at_call 33; refine Calls.mono (RD.out _) ?_; rintro x w9 ⟨rfl, hbb⟩; (first | replace hb := hb.trans (hbb.mono hb.size) | replace hb := hb.drew.trans (hbb.mono hb.drew.size)); replace c0 := kept_cell hbb c0; replace c1 := kept_cell hbb c1; replace c2 := kept_cell hbb c2; replace c3 := kept_cell hbb c3; replace c4 := kept_cell hbb c4; replace c5 := kept_cell hbb c5; replace c6 := kept_cell hbb c6; replace c7 := kept_cell hbb c7; clear hbb))
  all_goals go_wp2
  all_goals go_ret2
  all_goals exact ⟨rfl, hb⟩
set_option maxHeartbeats 1000000 in
theorem impl_read3 (o : Bool) (v s c k : Int) (t n : Bool) (p : Int) (y : Int) (w : World) : Calls Tryd.prog 17 #[vrt o v s c k t n p, .int .i64 3, .int .i64 y] w fun e w' => e = .returned (.tuple #[.int .u32 c, .bool true]) ∧ Below w.heap.size w w' := by
  have HI : inr 3 0 7 = true := inr_yes (by omega)
  have RD : Hid (∀ w, Calls Tryd.prog 35 #[vrt o v s c k t n p, .int .i64 y] w fun e w' => e = .returned (.int .u32 c) ∧ Below w.heap.size w w') := fun w => by skip; exact rd3 o v s c k t n p y w
  have hf : ∀ w, (Instr.field 51 (.agg #[.func (.func 35) #[] #[], .func (.func 36) #[] #[]]) 0).run Tryd.prog w = .ok (.func (.func 35) #[] #[]) w := fun w => by kernel_rfl
  have hx : ∀ w, (Instr.index 52 tblV (.int .i64 3)).run Tryd.prog w = .ok (.agg #[.func (.func 35) #[] #[], .func (.func 36) #[] #[]]) w := fun w => by kernel_rfl
  have TB : Hid (∀ w, Calls Tryd.prog 23 #[] w fun e w' => e = .returned tblV ∧ Below w.heap.size w w') := csr_table
  obtain ⟨w0, HW⟩ : ∃ w0, Hid (w0 = w.alloc (.cells (vrow o v s c k t n p) 26)) := ⟨_, rfl⟩
  have hb : Below w.heap.size w w0 := by rw [HW.out]; exact (Below.refl _ _).alloc (Nat.le_refl _) _
  obtain ⟨c0, c1, c2, c3, c4, c5, c6, c7⟩ : VC w0 w.heap.size o v s c k t n p := by rw [HW.out]; exact VC.new _ _ _ _ _ _ _ _ _ _
  go_enter Tryd.func17, Tryd.ntmps17
  go_wp2_with (first | (go_at_call 22; refine (is_csr _ _).mono ?_; rintro e w' ⟨rfl, rfl⟩; rw [HI]))
  rw [← HW.out]
  clear HW
  go_region_held3 (fun w' => w'.cell? ⟨w.heap.size, 0, none⟩ = some (.bool o) ∧ w'.cell? ⟨w.heap.size, 1, none⟩ = some (.int .u32 v) ∧ w'.cell? ⟨w.heap.size, 2, none⟩ = some (.int .u32 s) ∧ w'.cell? ⟨w.heap.size, 3, none⟩ = some (.int .u32 c) ∧ w'.cell? ⟨w.heap.size, 4, none⟩ = some (.int .u32 k) ∧ w'.cell? ⟨w.heap.size, 5, none⟩ = some (.bool t) ∧ w'.cell? ⟨w.heap.size, 6, none⟩ = some (.bool n) ∧ w'.cell? ⟨w.heap.size, 7, none⟩ = some (.int .u32 p)) (first | exact ⟨c0, c1, c2, c3, c4, c5, c6, c7⟩) (first | (go_at_call 23; refine Calls.mono (TB.out _) ?_; rintro x w9 ⟨rfl, hbb⟩; (first | replace hb := hb.trans (hbb.mono hb.size) | replace hb := hb.drew.trans (hbb.mono hb.drew.size)); replace c0 := kept_cell hbb c0; replace c1 := kept_cell hbb c1; replace c2 := kept_cell hbb c2; replace c3 := kept_cell hbb c3; replace c4 := kept_cell hbb c4; replace c5 := kept_cell hbb c5; replace c6 := kept_cell hbb c6; replace c7 := kept_cell hbb c7; clear hbb) | (go_at_call 35; refine Calls.mono (RD.out _) ?_; rintro x w9 ⟨rfl, hbb⟩; (first | replace hb := hb.trans (hbb.mono hb.size) | replace hb := hb.drew.trans (hbb.mono hb.drew.size)); replace c0 := kept_cell hbb c0; replace c1 := kept_cell hbb c1; replace c2 := kept_cell hbb c2; replace c3 := kept_cell hbb c3; replace c4 := kept_cell hbb c4; replace c5 := kept_cell hbb c5; replace c6 := kept_cell hbb c6; replace c7 := kept_cell hbb c7; clear hbb))
  all_goals go_wp2
  all_goals go_ret2
  all_goals exact ⟨rfl, hb⟩
set_option maxHeartbeats 1000000 in
theorem impl_read4 (o : Bool) (v s c k : Int) (t n : Bool) (p : Int) (y : Int) (w : World) : Calls Tryd.prog 17 #[vrt o v s c k t n p, .int .i64 4, .int .i64 y] w fun e w' => e = .returned (.tuple #[.int .u32 k, .bool true]) ∧ Below w.heap.size w w' := by
  have HI : inr 4 0 7 = true := inr_yes (by omega)
  have RD : Hid (∀ w, Calls Tryd.prog 37 #[vrt o v s c k t n p, .int .i64 y] w fun e w' => e = .returned (.int .u32 k) ∧ Below w.heap.size w w') := fun w => by skip; exact rd4 o v s c k t n p y w
  have hf : ∀ w, (Instr.field 51 (.agg #[.func (.func 37) #[] #[], .func (.func 38) #[] #[]]) 0).run Tryd.prog w = .ok (.func (.func 37) #[] #[]) w := fun w => by kernel_rfl
  have hx : ∀ w, (Instr.index 52 tblV (.int .i64 4)).run Tryd.prog w = .ok (.agg #[.func (.func 37) #[] #[], .func (.func 38) #[] #[]]) w := fun w => by kernel_rfl
  have TB : Hid (∀ w, Calls Tryd.prog 23 #[] w fun e w' => e = .returned tblV ∧ Below w.heap.size w w') := csr_table
  obtain ⟨w0, HW⟩ : ∃ w0, Hid (w0 = w.alloc (.cells (vrow o v s c k t n p) 26)) := ⟨_, rfl⟩
  have hb : Below w.heap.size w w0 := by rw [HW.out]; exact (Below.refl _ _).alloc (Nat.le_refl _) _
  obtain ⟨c0, c1, c2, c3, c4, c5, c6, c7⟩ : VC w0 w.heap.size o v s c k t n p := by rw [HW.out]; exact VC.new _ _ _ _ _ _ _ _ _ _
  go_enter Tryd.func17, Tryd.ntmps17
  go_wp2_with (first | (go_at_call 22; refine (is_csr _ _).mono ?_; rintro e w' ⟨rfl, rfl⟩; rw [HI]))
  rw [← HW.out]
  clear HW
  go_region_held3 (fun w' => w'.cell? ⟨w.heap.size, 0, none⟩ = some (.bool o) ∧ w'.cell? ⟨w.heap.size, 1, none⟩ = some (.int .u32 v) ∧ w'.cell? ⟨w.heap.size, 2, none⟩ = some (.int .u32 s) ∧ w'.cell? ⟨w.heap.size, 3, none⟩ = some (.int .u32 c) ∧ w'.cell? ⟨w.heap.size, 4, none⟩ = some (.int .u32 k) ∧ w'.cell? ⟨w.heap.size, 5, none⟩ = some (.bool t) ∧ w'.cell? ⟨w.heap.size, 6, none⟩ = some (.bool n) ∧ w'.cell? ⟨w.heap.size, 7, none⟩ = some (.int .u32 p)) (first | exact ⟨c0, c1, c2, c3, c4, c5, c6, c7⟩) (first | (go_at_call 23; refine Calls.mono (TB.out _) ?_; rintro x w9 ⟨rfl, hbb⟩; (first | replace hb := hb.trans (hbb.mono hb.size) | replace hb := hb.drew.trans (hbb.mono hb.drew.size)); replace c0 := kept_cell hbb c0; replace c1 := kept_cell hbb c1; replace c2 := kept_cell hbb c2; replace c3 := kept_cell hbb c3; replace c4 := kept_cell hbb c4; replace c5 := kept_cell hbb c5; replace c6 := kept_cell hbb c6; replace c7 := kept_cell hbb c7; clear hbb) | (go_at_call 37; refine Calls.mono (RD.out _) ?_; rintro x w9 ⟨rfl, hbb⟩; (first | replace hb := hb.trans (hbb.mono hb.size) | replace hb := hb.drew.trans (hbb.mono hb.drew.size)); replace c0 := kept_cell hbb c0; replace c1 := kept_cell hbb c1; replace c2 := kept_cell hbb c2; replace c3 := kept_cell hbb c3; replace c4 := kept_cell hbb c4; replace c5 := kept_cell hbb c5; replace c6 := kept_cell hbb c6; replace c7 := kept_cell hbb c7; clear hbb))
  all_goals go_wp2
  all_goals go_ret2
  all_goals exact ⟨rfl, hb⟩
set_option maxHeartbeats 1000000 in
theorem impl_read5 (o : Bool) (v s c k : Int) (t n : Bool) (p : Int) (y : Int) (w : World) : Calls Tryd.prog 17 #[vrt o v s c k t n p, .int .i64 5, .int .i64 y] w fun e w' => e = .returned (.tuple #[.int .u32 (if t then 1 else 0), .bool true]) ∧ Below w.heap.size w w' := by
  have HI : inr 5 0 7 = true := inr_yes (by omega)
  obtain ⟨r, HR⟩ : ∃ r : Int, Hid ((if t then 1 else 0) = r) := ⟨_, rfl⟩
  have RD : Hid (∀ w, Calls Tryd.prog 39 #[vrt o v s c k t n p, .int .i64 y] w fun e w' => e = .returned (.int .u32 r) ∧ Below w.heap.size w w') := fun w => by rw [← HR.out]; exact rd5 o v s c k t n p y w
  rw [HR.out]
  clear HR
  have hf : ∀ w, (Instr.field 51 (.agg #[.func (.func 39) #[] #[], .func (.func 40) #[] #[]]) 0).run Tryd.prog w = .ok (.func (.func 39) #[] #[]) w := fun w => by kernel_rfl
  have hx : ∀ w, (Instr.index 52 tblV (.int .i64 5)).run Tryd.prog w = .ok (.agg #[.func (.func 39) #[] #[], .func (.func 40) #[] #[]]) w := fun w => by kernel_rfl
  have TB : Hid (∀ w, Calls Tryd.prog 23 #[] w fun e w' => e = .returned tblV ∧ Below w.heap.size w w') := csr_table
  obtain ⟨w0, HW⟩ : ∃ w0, Hid (w0 = w.alloc (.cells (vrow o v s c k t n p) 26)) := ⟨_, rfl⟩
  have hb : Below w.heap.size w w0 := by rw [HW.out]; exact (Below.refl _ _).alloc (Nat.le_refl _) _
  obtain ⟨c0, c1, c2, c3, c4, c5, c6, c7⟩ : VC w0 w.heap.size o v s c k t n p := by rw [HW.out]; exact VC.new _ _ _ _ _ _ _ _ _ _
  go_enter Tryd.func17, Tryd.ntmps17
  go_wp2_with (first | (go_at_call 22; refine (is_csr _ _).mono ?_; rintro e w' ⟨rfl, rfl⟩; rw [HI]))
  rw [← HW.out]
  clear HW
  go_region_held3 (fun w' => w'.cell? ⟨w.heap.size, 0, none⟩ = some (.bool o) ∧ w'.cell? ⟨w.heap.size, 1, none⟩ = some (.int .u32 v) ∧ w'.cell? ⟨w.heap.size, 2, none⟩ = some (.int .u32 s) ∧ w'.cell? ⟨w.heap.size, 3, none⟩ = some (.int .u32 c) ∧ w'.cell? ⟨w.heap.size, 4, none⟩ = some (.int .u32 k) ∧ w'.cell? ⟨w.heap.size, 5, none⟩ = some (.bool t) ∧ w'.cell? ⟨w.heap.size, 6, none⟩ = some (.bool n) ∧ w'.cell? ⟨w.heap.size, 7, none⟩ = some (.int .u32 p)) (first | exact ⟨c0, c1, c2, c3, c4, c5, c6, c7⟩) (first | (go_at_call 23; refine Calls.mono (TB.out _) ?_; rintro x w9 ⟨rfl, hbb⟩; (first | replace hb := hb.trans (hbb.mono hb.size) | replace hb := hb.drew.trans (hbb.mono hb.drew.size)); replace c0 := kept_cell hbb c0; replace c1 := kept_cell hbb c1; replace c2 := kept_cell hbb c2; replace c3 := kept_cell hbb c3; replace c4 := kept_cell hbb c4; replace c5 := kept_cell hbb c5; replace c6 := kept_cell hbb c6; replace c7 := kept_cell hbb c7; clear hbb) | (go_at_call 39; refine Calls.mono (RD.out _) ?_; rintro x w9 ⟨rfl, hbb⟩; (first | replace hb := hb.trans (hbb.mono hb.size) | replace hb := hb.drew.trans (hbb.mono hb.drew.size)); replace c0 := kept_cell hbb c0; replace c1 := kept_cell hbb c1; replace c2 := kept_cell hbb c2; replace c3 := kept_cell hbb c3; replace c4 := kept_cell hbb c4; replace c5 := kept_cell hbb c5; replace c6 := kept_cell hbb c6; replace c7 := kept_cell hbb c7; clear hbb))
  all_goals go_wp2
  all_goals go_ret2
  all_goals exact ⟨rfl, hb⟩
set_option maxHeartbeats 1000000 in
theorem impl_read6 (o : Bool) (v s c k : Int) (t n : Bool) (p : Int) (y : Int) (w : World) : Calls Tryd.prog 17 #[vrt o v s c k t n p, .int .i64 6, .int .i64 y] w fun e w' => e = .returned (.tuple #[.int .u32 p, .bool true]) ∧ Below w.heap.size w w' := by
  have HI : inr 6 0 7 = true := inr_yes (by omega)
  have RD : Hid (∀ w, Calls Tryd.prog 41 #[vrt o v s c k t n p, .int .i64 y] w fun e w' => e = .returned (.int .u32 p) ∧ Below w.heap.size w w') := fun w => by skip; exact rd6 o v s c k t n p y w
  have hf : ∀ w, (Instr.field 51 (.agg #[.func (.func 41) #[] #[], .func (.func 36) #[] #[]]) 0).run Tryd.prog w = .ok (.func (.func 41) #[] #[]) w := fun w => by kernel_rfl
  have hx : ∀ w, (Instr.index 52 tblV (.int .i64 6)).run Tryd.prog w = .ok (.agg #[.func (.func 41) #[] #[], .func (.func 36) #[] #[]]) w := fun w => by kernel_rfl
  have TB : Hid (∀ w, Calls Tryd.prog 23 #[] w fun e w' => e = .returned tblV ∧ Below w.heap.size w w') := csr_table
  obtain ⟨w0, HW⟩ : ∃ w0, Hid (w0 = w.alloc (.cells (vrow o v s c k t n p) 26)) := ⟨_, rfl⟩
  have hb : Below w.heap.size w w0 := by rw [HW.out]; exact (Below.refl _ _).alloc (Nat.le_refl _) _
  obtain ⟨c0, c1, c2, c3, c4, c5, c6, c7⟩ : VC w0 w.heap.size o v s c k t n p := by rw [HW.out]; exact VC.new _ _ _ _ _ _ _ _ _ _
  go_enter Tryd.func17, Tryd.ntmps17
  go_wp2_with (first | (go_at_call 22; refine (is_csr _ _).mono ?_; rintro e w' ⟨rfl, rfl⟩; rw [HI]))
  rw [← HW.out]
  clear HW
  go_region_held3 (fun w' => w'.cell? ⟨w.heap.size, 0, none⟩ = some (.bool o) ∧ w'.cell? ⟨w.heap.size, 1, none⟩ = some (.int .u32 v) ∧ w'.cell? ⟨w.heap.size, 2, none⟩ = some (.int .u32 s) ∧ w'.cell? ⟨w.heap.size, 3, none⟩ = some (.int .u32 c) ∧ w'.cell? ⟨w.heap.size, 4, none⟩ = some (.int .u32 k) ∧ w'.cell? ⟨w.heap.size, 5, none⟩ = some (.bool t) ∧ w'.cell? ⟨w.heap.size, 6, none⟩ = some (.bool n) ∧ w'.cell? ⟨w.heap.size, 7, none⟩ = some (.int .u32 p)) (first | exact ⟨c0, c1, c2, c3, c4, c5, c6, c7⟩) (first | (go_at_call 23; refine Calls.mono (TB.out _) ?_; rintro x w9 ⟨rfl, hbb⟩; (first | replace hb := hb.trans (hbb.mono hb.size) | replace hb := hb.drew.trans (hbb.mono hb.drew.size)); replace c0 := kept_cell hbb c0; replace c1 := kept_cell hbb c1; replace c2 := kept_cell hbb c2; replace c3 := kept_cell hbb c3; replace c4 := kept_cell hbb c4; replace c5 := kept_cell hbb c5; replace c6 := kept_cell hbb c6; replace c7 := kept_cell hbb c7; clear hbb) | (go_at_call 41; refine Calls.mono (RD.out _) ?_; rintro x w9 ⟨rfl, hbb⟩; (first | replace hb := hb.trans (hbb.mono hb.size) | replace hb := hb.drew.trans (hbb.mono hb.drew.size)); replace c0 := kept_cell hbb c0; replace c1 := kept_cell hbb c1; replace c2 := kept_cell hbb c2; replace c3 := kept_cell hbb c3; replace c4 := kept_cell hbb c4; replace c5 := kept_cell hbb c5; replace c6 := kept_cell hbb c6; replace c7 := kept_cell hbb c7; clear hbb))
  all_goals go_wp2
  all_goals go_ret2
  all_goals exact ⟨rfl, hb⟩
set_option maxHeartbeats 1000000 in
theorem impl_read7 (o : Bool) (v s c k : Int) (t n : Bool) (p : Int) (y : Int) (w : World) : Calls Tryd.prog 17 #[vrt o v s c k t n p, .int .i64 7, .int .i64 y] w fun e w' => e = .returned (.tuple #[.int .u32 (y % 4294967296), .bool true]) ∧ Below w.heap.size w w' := by
  have HI : inr 7 0 7 = true := inr_yes (by omega)
  obtain ⟨r, HR⟩ : ∃ r : Int, Hid ((y % 4294967296) = r) := ⟨_, rfl⟩
  have RD : Hid (∀ w, Calls Tryd.prog 42 #[vrt o v s c k t n p, .int .i64 y] w fun e w' => e = .returned (.int .u32 r) ∧ Below w.heap.size w w') := fun w => by rw [← HR.out]; exact rd7 o v s c k t n p y w
  rw [HR.out]
  clear HR
  have hf : ∀ w, (Instr.field 51 (.agg #[.func (.func 42) #[] #[], .func (.func 36) #[] #[]]) 0).run Tryd.prog w = .ok (.func (.func 42) #[] #[]) w := fun w => by kernel_rfl
  have hx : ∀ w, (Instr.index 52 tblV (.int .i64 7)).run Tryd.prog w = .ok (.agg #[.func (.func 42) #[] #[], .func (.func 36) #[] #[]]) w := fun w => by kernel_rfl
  have TB : Hid (∀ w, Calls Tryd.prog 23 #[] w fun e w' => e = .returned tblV ∧ Below w.heap.size w w') := csr_table
  obtain ⟨w0, HW⟩ : ∃ w0, Hid (w0 = w.alloc (.cells (vrow o v s c k t n p) 26)) := ⟨_, rfl⟩
  have hb : Below w.heap.size w w0 := by rw [HW.out]; exact (Below.refl _ _).alloc (Nat.le_refl _) _
  obtain ⟨c0, c1, c2, c3, c4, c5, c6, c7⟩ : VC w0 w.heap.size o v s c k t n p := by rw [HW.out]; exact VC.new _ _ _ _ _ _ _ _ _ _
  go_enter Tryd.func17, Tryd.ntmps17
  go_wp2_with (first | (go_at_call 22; refine (is_csr _ _).mono ?_; rintro e w' ⟨rfl, rfl⟩; rw [HI]))
  rw [← HW.out]
  clear HW
  go_region_held3 (fun w' => w'.cell? ⟨w.heap.size, 0, none⟩ = some (.bool o) ∧ w'.cell? ⟨w.heap.size, 1, none⟩ = some (.int .u32 v) ∧ w'.cell? ⟨w.heap.size, 2, none⟩ = some (.int .u32 s) ∧ w'.cell? ⟨w.heap.size, 3, none⟩ = some (.int .u32 c) ∧ w'.cell? ⟨w.heap.size, 4, none⟩ = some (.int .u32 k) ∧ w'.cell? ⟨w.heap.size, 5, none⟩ = some (.bool t) ∧ w'.cell? ⟨w.heap.size, 6, none⟩ = some (.bool n) ∧ w'.cell? ⟨w.heap.size, 7, none⟩ = some (.int .u32 p)) (first | exact ⟨c0, c1, c2, c3, c4, c5, c6, c7⟩) (first | (go_at_call 23; refine Calls.mono (TB.out _) ?_; rintro x w9 ⟨rfl, hbb⟩; (first | replace hb := hb.trans (hbb.mono hb.size) | replace hb := hb.drew.trans (hbb.mono hb.drew.size)); replace c0 := kept_cell hbb c0; replace c1 := kept_cell hbb c1; replace c2 := kept_cell hbb c2; replace c3 := kept_cell hbb c3; replace c4 := kept_cell hbb c4; replace c5 := kept_cell hbb c5; replace c6 := kept_cell hbb c6; replace c7 := kept_cell hbb c7; clear hbb) | (go_at_call 42; refine Calls.mono (RD.out _) ?_; rintro x w9 ⟨rfl, hbb⟩; (first | replace hb := hb.trans (hbb.mono hb.size) | replace hb := hb.drew.trans (hbb.mono hb.drew.size)); replace c0 := kept_cell hbb c0; replace c1 := kept_cell hbb c1; replace c2 := kept_cell hbb c2; replace c3 := kept_cell hbb c3; replace c4 := kept_cell hbb c4; replace c5 := kept_cell hbb c5; replace c6 := kept_cell hbb c6; replace c7 := kept_cell hbb c7; clear hbb))
  all_goals go_wp2
  all_goals go_ret2
  all_goals exact ⟨rfl, hb⟩
set_option maxHeartbeats 400000 in
theorem wr0 (o : Bool) (v s c k : Int) (t n : Bool) (p : Int) (x : Int) (b : Bool) (w : World) (h1 : 0 ≤ x) (h2 : x ≤ 4294967295) (hb : Hid (decide (x % 2 = 1) = b)) : Calls Tryd.prog 30 #[vrt o v s c k t n p, .int .u32 x] w fun e w' => e = .returned (.tuple #[vrt b v s c k t n p, .bool true]) ∧ Below w.heap.size w w' := by
  go_enter Tryd.func30, Tryd.ntmps30
  go_wp2_with (go_at_call 47; refine (is_odd x b _ h1 h2 hb).mono ?_; rintro e w' ⟨rfl, rfl⟩)
  exact bodyPost_ret (v := .tuple #[vrt b v s c k t n p, .bool true]) (by simp [results, Tryd.results30, go_sem]) rfl ⟨rfl, ((Below.refl _ _).alloc (Nat.le_refl _) _).alloc (by simp) _⟩
set_option maxHeartbeats 400000 in
theorem wr1 (o : Bool) (v s c k : Int) (t n : Bool) (p : Int) (x : Int) (b : Bool) (w : World) : Calls Tryd.prog 32 #[vrt o v s c k t n p, .int .u32 x] w fun e w' => e = .returned (.tuple #[vrt o x s c k t n p, .bool true]) ∧ Below w.heap.size w w' := by
  go_enter Tryd.func32, Tryd.ntmps32
  go_wp2
  exact bodyPost_ret (v := .tuple #[vrt o x s c k t n p, .bool true]) (by simp [results, Tryd.results32, go_sem]) rfl ⟨rfl, ((Below.refl _ _).alloc (Nat.le_refl _) _).alloc (by simp) _⟩
set_option maxHeartbeats 400000 in
theorem wr2 (o : Bool) (v s c k : Int) (t n : Bool) (p : Int) (x : Int) (b : Bool) (w : World) : Calls Tryd.prog 34 #[vrt o v s c k t n p, .int .u32 x] w fun e w' => e = .returned (.tuple #[vrt o v x c k t n p, .bool true]) ∧ Below w.heap.size w w' := by
  go_enter Tryd.func34, Tryd.ntmps34
  go_wp2
  exact bodyPost_ret (v := .tuple #[vrt o v x c k t n p, .bool true]) (by simp [results, Tryd.results34, go_sem]) rfl ⟨rfl, ((Below.refl _ _).alloc (Nat.le_refl _) _).alloc (by simp) _⟩
set_option maxHeartbeats 400000 in
theorem wr3 (o : Bool) (v s c k : Int) (t n : Bool) (p : Int) (x : Int) (b : Bool) (w : World) : Calls Tryd.prog 36 #[vrt o v s c k t n p, .int .u32 x] w fun e w' => e = .returned (.tuple #[vrt o v s c k t n p, .bool false]) ∧ Below w.heap.size w w' := by
  go_enter Tryd.func36, Tryd.ntmps36
  go_wp2
  exact bodyPost_ret (v := .tuple #[vrt o v s c k t n p, .bool false]) (by simp [results, Tryd.results36, go_sem]) rfl ⟨rfl, ((Below.refl _ _).alloc (Nat.le_refl _) _).alloc (by simp) _⟩
set_option maxHeartbeats 400000 in
theorem wr4 (o : Bool) (v s c k : Int) (t n : Bool) (p : Int) (x : Int) (b : Bool) (w : World) : Calls Tryd.prog 38 #[vrt o v s c k t n p, .int .u32 x] w fun e w' => e = .returned (.tuple #[vrt o v s c x t n p, .bool true]) ∧ Below w.heap.size w w' := by
  go_enter Tryd.func38, Tryd.ntmps38
  go_wp2
  exact bodyPost_ret (v := .tuple #[vrt o v s c x t n p, .bool true]) (by simp [results, Tryd.results38, go_sem]) rfl ⟨rfl, ((Below.refl _ _).alloc (Nat.le_refl _) _).alloc (by simp) _⟩
set_option maxHeartbeats 400000 in
theorem wr5 (o : Bool) (v s c k : Int) (t n : Bool) (p : Int) (x : Int) (b : Bool) (w : World) (h1 : 0 ≤ x) (h2 : x ≤ 4294967295) (hb : Hid (decide (x % 2 = 1) = b)) : Calls Tryd.prog 40 #[vrt o v s c k t n p, .int .u32 x] w fun e w' => e = .returned (.tuple #[vrt o v s c k b n p, .bool true]) ∧ Below w.heap.size w w' := by
  go_enter Tryd.func40, Tryd.ntmps40
  go_wp2_with (go_at_call 47; refine (is_odd x b _ h1 h2 hb).mono ?_; rintro e w' ⟨rfl, rfl⟩)
  exact bodyPost_ret (v := .tuple #[vrt o v s c k b n p, .bool true]) (by simp [results, Tryd.results40, go_sem]) rfl ⟨rfl, ((Below.refl _ _).alloc (Nat.le_refl _) _).alloc (by simp) _⟩
end Go.Proofs.YthohemncfdjdeaaDoor
