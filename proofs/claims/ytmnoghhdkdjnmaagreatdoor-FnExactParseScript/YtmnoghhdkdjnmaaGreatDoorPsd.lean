
/-
  What the program's readCmd returns: the command and the code of a line. Conditions: the lists lie in memory; the map of readers is what cmdReaders makes; the line is at most 1048576 bytes long; the library's variable MaxLen holds a number.
-/
import Derived.Test.YtmnoghhdkdjnmaaGreatDoorBas
import Derived.Test.YtmnoghhdkdjnmaaGreatDoorPsr
namespace Go.Proofs.YtmnoghhdkdjnmaaGreatDoor
open Go.ChangeShapes Go.WideShapes Go.ChangeAt Go.RowKit Go.Deep Go.Joins
set_option linter.unusedVariables false

/-- The list behind its first text. -/
def rest1 (a : Option Addr) (cap : Nat) : Option Addr := if cap = 1 then a else a.map (·.add 1)
theorem cut1 (a : Option Addr) (n cap : Nat) : sliced a (1 : Int).toNat n cap 1 = .slice (rest1 a cap) (n - 1) (cap - 1) := by
  unfold sliced rest1
  rfl
set_option maxRecDepth 20000 in
theorem slice1 (a : Option Addr) (n cap : Nat) (h : 1 ≤ n) (w : World) : (Instr.slice 95 (.slice a n cap) (some (.int .i64 1)) none none).run Tryz.prog w = .ok (.slice (rest1 a cap) (n - 1) (cap - 1)) w := by
  have h1 : (1 : Int) ≤ (n : Int) := by omega
  rw [run_slice_l w 95 a n cap Tryz.underlying95 .i64 1 (by omega) h1]
  have e : ∀ w, (sizeOf (Tryz.prog.elem 95)).run Tryz.prog w = .ok 1 w := fun w => by kernel_rfl
  rw [e]
  simp only [Result.andThen, cut1]
theorem slice_b (B m : Nat) (w : World) : (Instr.slice 95 (.slice (some ⟨B, 0, none⟩) (m + 2) (m + 2)) (some (.int .i64 1)) none none).run Tryz.prog w = .ok (.slice (some ⟨B, 1, none⟩) (m + 1) (m + 1)) w := by
  rw [slice1 _ _ _ (by omega) w]
  unfold rest1
  rw [if_neg (by omega)]
  rfl
theorem slice_b2 (B : Nat) (w : World) : (Instr.slice 95 (.slice (some ⟨B, 0, none⟩) 2 2) (some (.int .i64 1)) none none).run Tryz.prog w = .ok (.slice (some ⟨B, 1, none⟩) 1 1) w := slice_b B 0 w
theorem slice_b3 (B : Nat) (w : World) : (Instr.slice 95 (.slice (some ⟨B, 0, none⟩) 3 3) (some (.int .i64 1)) none none).run Tryz.prog w = .ok (.slice (some ⟨B, 1, none⟩) 2 2) w := slice_b B 1 w
theorem TabM.below {w w' : World} (h : TabM w) (hb : Below w.heap.size w w') : TabM w' := by
  obtain ⟨m, hm⟩ := h
  exact ⟨m, cell_kept hb hm⟩
/-- What readCmd stands on. -/
structure RC (w : World) (t : Tb) (a : Ad) (mb : Nat) (s : ByteArray) : Prop where
  m : TM 0 w t a
  tw : TW t a
  r : RdM w mb
  x : TabM w
  s : s.size ≤ 1048576
theorem RC.below {w w' : World} {t : Tb} {a : Ad} {mb : Nat} {s : ByteArray} (h : RC w t a mb s) (hb : Below w.heap.size w w') : RC w' t a mb s := ⟨h.m.below hb, h.tw, h.r.below hb, h.x.below hb, h.s⟩
structure Rcrun (W0 : World) (Z C : Array Value) (N : Nat) (v0 : Value) (v1 : Value) (v2 : Value) (v3 : Value) (v4 : Value) (v5 : Value) (v6 : Value) (v7 : Value) (w' : World) (b0 b1 b2 b3 b4 b5 b6 b7 b8 b9 : Bool) (x32 x33 x34 x35 x36 x37 x38 x39 x7 : Value) : Prop where
  cs : b8 = true → b0 = true ∧ b1 = true ∧ b2 = true ∧ b3 = true ∧ b4 = true ∧ b5 = true ∧ b6 = true ∧ b7 = true ∧ True
  gb : Below N W0 w'
  pre : b8 = false → Below W0.heap.size W0 w'
  r0 : b8 = false → w'.heap[N]? = some (.cells Z 62 (0, 0))
  r1 : b8 = true → w'.heap[N]? = some (.cells C 62 (0, 0))
  f0 : b0 = true → x32 = v0
  f1 : b1 = true → x33 = v1
  f2 : b2 = true → x34 = v2
  f3 : b3 = true → x35 = v3
  f4 : b4 = true → x36 = v4
  f5 : b5 = true → x37 = v5
  f6 : b6 = true → x38 = v6
  f7 : b7 = true → x39 = v7
  f9 : b9 = true → x7 = v7
theorem Rcrun.below {W0 : World} {Z C : Array Value} {N : Nat} {v0 : Value} {v1 : Value} {v2 : Value} {v3 : Value} {v4 : Value} {v5 : Value} {v6 : Value} {v7 : Value} {w' w9 : World} {b0 b1 b2 b3 b4 b5 b6 b7 b8 b9 : Bool} {x32 x33 x34 x35 x36 x37 x38 x39 x7 : Value} (h : Rcrun W0 Z C N v0 v1 v2 v3 v4 v5 v6 v7 w' b0 b1 b2 b3 b4 b5 b6 b7 b8 b9 x32 x33 x34 x35 x36 x37 x38 x39 x7) (hb : Below w'.heap.size w' w9) (hN : N ≤ w'.heap.size) : Rcrun W0 Z C N v0 v1 v2 v3 v4 v5 v6 v7 w9 b0 b1 b2 b3 b4 b5 b6 b7 b8 b9 x32 x33 x34 x35 x36 x37 x38 x39 x7 :=
  ⟨h.cs, h.gb.trans (hb.mono hN), fun g => (h.pre g).trans (hb.mono (h.pre g).size), fun g => row_below (h.r0 g) hb, fun g => row_below (h.r1 g) hb, h.f0, h.f1, h.f2, h.f3, h.f4, h.f5, h.f6, h.f7, h.f9⟩
structure Rcinp (W0 : World) (Z C : Array Value) (N : Nat) (v0 : Value) (v1 : Value) (v2 : Value) (v3 : Value) (v4 : Value) (v5 : Value) (v6 : Value) (v7 : Value) (w' : World) (b0 b1 b2 b3 b4 b5 b6 b7 b8 b9 : Bool) (x32 x33 x34 x35 x36 x37 x38 x39 x7 : Value) : Prop where
  cs : b8 = true → b0 = true ∧ b1 = true ∧ b2 = true ∧ b3 = true ∧ b4 = true ∧ b5 = true ∧ b6 = true ∧ b7 = true ∧ True
  gb : Below N W0 w'
  pre : b8 = false → Below W0.heap.size W0 w'
  r0 : b8 = false → w'.heap[N]? = some (.cells Z 62 (0, 0))
  r1 : b8 = true → w'.heap[N]? = some (.cells C 62 (0, 0))
  f0 : b0 = true → x32 = v0
  f1 : b1 = true → x33 = v1
  f2 : b2 = true → x34 = v2
  f3 : b3 = true → x35 = v3
  f4 : b4 = true → x36 = v4
  f5 : b5 = true → x37 = v5
  f6 : b6 = true → x38 = v6
  f7 : b7 = true → x39 = v7
  f9 : b9 = true → x7 = v7
theorem Rcinp.below {W0 : World} {Z C : Array Value} {N : Nat} {v0 : Value} {v1 : Value} {v2 : Value} {v3 : Value} {v4 : Value} {v5 : Value} {v6 : Value} {v7 : Value} {w' w9 : World} {b0 b1 b2 b3 b4 b5 b6 b7 b8 b9 : Bool} {x32 x33 x34 x35 x36 x37 x38 x39 x7 : Value} (h : Rcinp W0 Z C N v0 v1 v2 v3 v4 v5 v6 v7 w' b0 b1 b2 b3 b4 b5 b6 b7 b8 b9 x32 x33 x34 x35 x36 x37 x38 x39 x7) (hb : Below w'.heap.size w' w9) (hN : N ≤ w'.heap.size) : Rcinp W0 Z C N v0 v1 v2 v3 v4 v5 v6 v7 w9 b0 b1 b2 b3 b4 b5 b6 b7 b8 b9 x32 x33 x34 x35 x36 x37 x38 x39 x7 :=
  ⟨h.cs, h.gb.trans (hb.mono hN), fun g => (h.pre g).trans (hb.mono (h.pre g).size), fun g => row_below (h.r0 g) hb, fun g => row_below (h.r1 g) hb, h.f0, h.f1, h.f2, h.f3, h.f4, h.f5, h.f6, h.f7, h.f9⟩
structure Rcres (W0 : World) (Z C : Array Value) (N : Nat) (v0 : Value) (v1 : Value) (v2 : Value) (v3 : Value) (v4 : Value) (v5 : Value) (v6 : Value) (v7 : Value) (w' : World) (b0 b1 b2 b3 b4 b5 b6 b7 b8 b9 : Bool) (x32 x33 x34 x35 x36 x37 x38 x39 x7 : Value) : Prop where
  cs : b8 = true → b0 = true ∧ b1 = true ∧ b2 = true ∧ b3 = true ∧ b4 = true ∧ b5 = true ∧ b6 = true ∧ b7 = true ∧ True
  gb : Below N W0 w'
  pre : b8 = false → Below W0.heap.size W0 w'
  r0 : b8 = false → w'.heap[N]? = some (.cells Z 62 (0, 0))
  r1 : b8 = true → w'.heap[N]? = some (.cells C 62 (0, 0))
  f0 : b0 = true → x32 = v0
  f1 : b1 = true → x33 = v1
  f2 : b2 = true → x34 = v2
  f3 : b3 = true → x35 = v3
  f4 : b4 = true → x36 = v4
  f5 : b5 = true → x37 = v5
  f6 : b6 = true → x38 = v6
  f7 : b7 = true → x39 = v7
  f9 : b9 = true → x7 = v7
theorem Rcres.below {W0 : World} {Z C : Array Value} {N : Nat} {v0 : Value} {v1 : Value} {v2 : Value} {v3 : Value} {v4 : Value} {v5 : Value} {v6 : Value} {v7 : Value} {w' w9 : World} {b0 b1 b2 b3 b4 b5 b6 b7 b8 b9 : Bool} {x32 x33 x34 x35 x36 x37 x38 x39 x7 : Value} (h : Rcres W0 Z C N v0 v1 v2 v3 v4 v5 v6 v7 w' b0 b1 b2 b3 b4 b5 b6 b7 b8 b9 x32 x33 x34 x35 x36 x37 x38 x39 x7) (hb : Below w'.heap.size w' w9) (hN : N ≤ w'.heap.size) : Rcres W0 Z C N v0 v1 v2 v3 v4 v5 v6 v7 w9 b0 b1 b2 b3 b4 b5 b6 b7 b8 b9 x32 x33 x34 x35 x36 x37 x38 x39 x7 :=
  ⟨h.cs, h.gb.trans (hb.mono hN), fun g => (h.pre g).trans (hb.mono (h.pre g).size), fun g => row_below (h.r0 g) hb, fun g => row_below (h.r1 g) hb, h.f0, h.f1, h.f2, h.f3, h.f4, h.f5, h.f6, h.f7, h.f9⟩
set_option maxRecDepth 40000 in
set_option maxHeartbeats 8000000 in
theorem rc_non0 (t : Tb) (a : Ad) (mb : Nat) (s : ByteArray) (n : Nat) (ws : List ByteArray) (w : World) (hrc : RC w t a mb s) (hws : Sp.texts 32 s = ws) (hn : ws.length = n) (h0 : ¬ ws.getD 0 ⟨#[]⟩ = Sr.krun) (h1 : ¬ ws.getD 0 ⟨#[]⟩ = Sr.kinp) (h2 : ¬ ws.getD 0 ⟨#[]⟩ = Sr.kres) :
    Calls Tryz.prog 48 #[tbV t a, .map (some mb), .string s] w fun e w' => e = .returned (.tuple #[.agg #[.int .i64 0, .int .i64 0, .int .u32 0], .int .i64 2]) ∧ Below w.heap.size w w' := by
  have HB0 : Hid (Below w.heap.size w ((w.alloc (.cells (tbA t a) 43)).alloc (.cells #[.int .i64 0, .int .i64 0, .int .u32 0] 62))) := ((Below.refl _ _).alloc (Nat.le_refl _) _).alloc (by simp) _
  have HX0 : Hid (TBx ((w.alloc (.cells (tbA t a) 43)).alloc (.cells #[.int .i64 0, .int .i64 0, .int .u32 0] 62)) w.heap.size t a) := (TBx.new w t a _ rfl).below ((Below.refl _ _).alloc (Nat.le_refl _) _)
  have HK0 : Hid (((w.alloc (.cells (tbA t a) 43)).alloc (.cells #[.int .i64 0, .int .i64 0, .int .u32 0] 62)).heap[w.heap.size + 1]? = some (.cells #[.int .i64 0, .int .i64 0, .int .u32 0] 62 (0, 0))) := new_row (w.alloc (.cells (tbA t a) 43)) #[.int .i64 0, .int .i64 0, .int .u32 0] 62 _ (by simp)
  have hnp : 0 < n := by rw [← hn, ← hws]; exact Sr.texts_pos 32 s
  have hnb : n ≤ 1048577 := by
    rw [← hn, ← hws]
    have h1 := Sp.cut_many 32 s.data.toList
    have h2 : s.data.toList.length = s.size := rfl
    have h3 := hrc.s
    unfold Sp.texts
    rw [List.length_map]
    omega
  have HSZ : Hid (∀ j, (ws.getD j ⟨#[]⟩).size ≤ 1048576) := fun j => by
    by_cases hj : j < ws.length
    · have h1 := Sr.texts_short 32 s (ws.getD j ⟨#[]⟩) (by rw [hws]; exact getD_in ws _ j hj)
      have := hrc.s
      omega
    · rw [List.getD_eq_getElem?_getD, List.getElem?_eq_none (by omega)]
      decide
  have HSL : Hid (Calls Tryz.prog 80 #[.string s, .string ⟨#[32]⟩] ((w.alloc (.cells (tbA t a) 43)).alloc (.cells #[.int .i64 0, .int .i64 0, .int .u32 0] 62)) fun e w' => e = .returned (.slice (some ⟨w.heap.size + 2, 0, none⟩) n n) ∧ (∀ j, j < n → w'.cell? ⟨w.heap.size + 2, j, none⟩ = some (.string (ws.getD j ⟨#[]⟩))) ∧ Below ((w.alloc (.cells (tbA t a) 43)).alloc (.cells #[.int .i64 0, .int .i64 0, .int .u32 0] 62)).heap.size ((w.alloc (.cells (tbA t a) 43)).alloc (.cells #[.int .i64 0, .int .i64 0, .int .u32 0] 62)) w') := (split_any 32 s ws ((w.alloc (.cells (tbA t a) 43)).alloc (.cells #[.int .i64 0, .int .i64 0, .int .u32 0] 62)) (hrc.x.below HB0.out) hrc.s hws).mono fun e w' h => by
    obtain ⟨h1, h2, h3, h4⟩ := h
    rw [hn] at h1
    have hsz2 : ((w.alloc (.cells (tbA t a) 43)).alloc (.cells #[.int .i64 0, .int .i64 0, .int .u32 0] 62)).heap.size = w.heap.size + 2 := by simp
    obtain ⟨b, off, h5, h6, h7⟩ := flds_at h3 0 (by omega)
    rw [hsz2] at h1 h5
    cases h5
    exact ⟨h1, fun j hj => by have := h7 j (by omega); simpa using this, h2⟩
  have HRC : Hid (∀ X, Below w.heap.size w X → RC X t a mb s) := fun X hX => hrc.below hX
  clear hrc hws
  go_enter Tryz.func48, Tryz.ntmps48
  go_wp2_with fail
  refine Calls.mono HSL.out ?_
  rintro e w1 ⟨rfl, hcl, hb1⟩
  have HBQ : Hid (Below w.heap.size w w1) := HB0.out.trans (hb1.mono HB0.out.size)
  have HNR : Hid ((w1.alloc (.cells #[.int .i64 0, .nilFunc] 136)).heap[w1.heap.size]? = some (.cells #[.int .i64 0, .nilFunc] 136 (0, 0))) := new_row w1 _ _ _ rfl
  have hba : Below w1.heap.size w1 ((w1.alloc (.cells #[.int .i64 0, .nilFunc] 136)).setRow w1.heap.size #[.int .i64 0, .nilFunc]) := below_setRow ((Below.refl _ _).alloc (Nat.le_refl _) _) (Nat.le_refl _) _
  have hbt : Below ((w.alloc (.cells (tbA t a) 43)).alloc (.cells #[.int .i64 0, .int .i64 0, .int .u32 0] 62)).heap.size ((w.alloc (.cells (tbA t a) 43)).alloc (.cells #[.int .i64 0, .int .i64 0, .int .u32 0] 62)) ((w1.alloc (.cells #[.int .i64 0, .nilFunc] 136)).setRow w1.heap.size #[.int .i64 0, .nilFunc]) := hb1.trans (hba.mono hb1.size)
  have HB1 : Hid (Below w.heap.size w ((w1.alloc (.cells #[.int .i64 0, .nilFunc] 136)).setRow w1.heap.size #[.int .i64 0, .nilFunc])) := HB0.out.trans (hbt.mono HB0.out.size)
  have HX1 : Hid (TBx ((w1.alloc (.cells #[.int .i64 0, .nilFunc] 136)).setRow w1.heap.size #[.int .i64 0, .nilFunc]) w.heap.size t a) := HX0.out.below hbt
  have HR2 : Hid (((w1.alloc (.cells #[.int .i64 0, .nilFunc] 136)).setRow w1.heap.size #[.int .i64 0, .nilFunc]).heap[w.heap.size + 1]? = some (.cells #[.int .i64 0, .int .i64 0, .int .u32 0] 62 (0, 0))) := row_below HK0.out hbt
  have HRB : Hid (((w1.alloc (.cells #[.int .i64 0, .nilFunc] 136)).setRow w1.heap.size #[.int .i64 0, .nilFunc]).heap[w1.heap.size]? = some (.cells #[.int .i64 0, .nilFunc] 136 (0, 0))) := setRow_heap _ _ _ _ _ _ HNR.out
  have hbw : w.heap.size + 2 < w1.heap.size := by
    have := World.block_lt_of_cell? w1 _ (hcl 0 (by omega))
    exact this
  have z0 : ((w1.alloc (.cells #[.int .i64 0, .nilFunc] 136)).setRow w1.heap.size #[.int .i64 0, .nilFunc]).cell? ⟨w1.heap.size, 0, none⟩ = some (.int .i64 0) := row_c HRB.out 0 _ rfl
  have hv0 : w1.cell? ⟨w.heap.size + 2, 0, none⟩ = some (.string (ws.getD 0 ⟨#[]⟩)) := hcl 0 (by omega)
  have HCL : Hid (∀ j, j < n → ((w1.alloc (.cells #[.int .i64 0, .nilFunc] 136)).setRow w1.heap.size #[.int .i64 0, .nilFunc]).cell? ⟨w.heap.size + 2, j, none⟩ = some (.string (ws.getD j ⟨#[]⟩))) := fun j hj => cell_kept hba (hcl j hj)
  have hlk := look_non (HRC.out _ HBQ.out).r _ (HSZ.out 0) h0 h1 h2
  clear h0 h1 h2
  generalize ws.getD 0 ⟨#[]⟩ = k0 at hv0 hlk
  clear hb1 hba hbt HB0 HX0 HK0 HSL hcl
  have HRF : Hid ((((w1.alloc (.cells #[.int .i64 0, .nilFunc] 136)).setRow w1.heap.size #[.int .i64 0, .nilFunc]).setRow (w.heap.size + 1) #[.int .i64 0, .int .i64 0, .int .u32 0]).heap[w.heap.size + 1]? = some (.cells #[.int .i64 0, .int .i64 0, .int .u32 0] 62 (0, 0))) := setRow_heap _ _ _ _ _ _ HR2.out
  have n0 : (((w1.alloc (.cells #[.int .i64 0, .nilFunc] 136)).setRow w1.heap.size #[.int .i64 0, .nilFunc]).setRow (w.heap.size + 1) #[.int .i64 0, .int .i64 0, .int .u32 0]).cell? ⟨w.heap.size + 1, 0, none⟩ = some (.int .i64 0) := row_c HRF.out 0 _ rfl
  have n1 : (((w1.alloc (.cells #[.int .i64 0, .nilFunc] 136)).setRow w1.heap.size #[.int .i64 0, .nilFunc]).setRow (w.heap.size + 1) #[.int .i64 0, .int .i64 0, .int .u32 0]).cell? ⟨w.heap.size + 1, 1, none⟩ = some (.int .i64 0) := row_c HRF.out 1 _ rfl
  have n2 : (((w1.alloc (.cells #[.int .i64 0, .nilFunc] 136)).setRow w1.heap.size #[.int .i64 0, .nilFunc]).setRow (w.heap.size + 1) #[.int .i64 0, .int .i64 0, .int .u32 0]).cell? ⟨w.heap.size + 1, 2, none⟩ = some (.int .u32 0) := row_c HRF.out 2 _ rfl
  have HBF : Hid (Below w.heap.size w (((w1.alloc (.cells #[.int .i64 0, .nilFunc] 136)).setRow w1.heap.size #[.int .i64 0, .nilFunc]).setRow (w.heap.size + 1) #[.int .i64 0, .int .i64 0, .int .u32 0])) := below_setRow HB1.out (by omega) _
  go_wp2_with (first | (refine wpList_store_row rfl 136 (.tmp 9) (.tmp 19) rfl w1.heap.size #[.int .i64 0, .nilFunc] rfl rfl 136 #[.int .i64 0, .nilFunc] HNR.out (by kernel_rfl) rfl (by simp [Value.oneCell']) ?_) | (refine wpList_store_row rfl 62 (.tmp 6) (.tmp 31) rfl (w.heap.size + 1) #[.int .i64 0, .int .i64 0, .int .u32 0] rfl rfl 62 #[.int .i64 0, .int .i64 0, .int .u32 0] HR2.out (by kernel_rfl) rfl (by simp [Value.oneCell']) ?_) | fail)
  exact bodyPost_ret (v := .tuple #[.agg #[.int .i64 0, .int .i64 0, .int .u32 0], .int .i64 2]) (by simp [results, Tryz.results48, go_sem, n0, n1, n2]) rfl ⟨rfl, HBF.out⟩
set_option maxRecDepth 40000 in
set_option maxHeartbeats 8000000 in
theorem rc_nonrun (t : Tb) (a : Ad) (mb : Nat) (s : ByteArray) (n : Nat) (ws : List ByteArray) (w : World) (hrc : RC w t a mb s) (hws : Sp.texts 32 s = ws) (hn : ws.length = n) (hk0 : ws.getD 0 ⟨#[]⟩ = Sr.krun) (hne : ¬ n = 2) :
    Calls Tryz.prog 48 #[tbV t a, .map (some mb), .string s] w fun e w' => e = .returned (.tuple #[.agg #[.int .i64 0, .int .i64 0, .int .u32 0], .int .i64 2]) ∧ Below w.heap.size w w' := by
  have HB0 : Hid (Below w.heap.size w ((w.alloc (.cells (tbA t a) 43)).alloc (.cells #[.int .i64 0, .int .i64 0, .int .u32 0] 62))) := ((Below.refl _ _).alloc (Nat.le_refl _) _).alloc (by simp) _
  have HX0 : Hid (TBx ((w.alloc (.cells (tbA t a) 43)).alloc (.cells #[.int .i64 0, .int .i64 0, .int .u32 0] 62)) w.heap.size t a) := (TBx.new w t a _ rfl).below ((Below.refl _ _).alloc (Nat.le_refl _) _)
  have HK0 : Hid (((w.alloc (.cells (tbA t a) 43)).alloc (.cells #[.int .i64 0, .int .i64 0, .int .u32 0] 62)).heap[w.heap.size + 1]? = some (.cells #[.int .i64 0, .int .i64 0, .int .u32 0] 62 (0, 0))) := new_row (w.alloc (.cells (tbA t a) 43)) #[.int .i64 0, .int .i64 0, .int .u32 0] 62 _ (by simp)
  have hnp : 0 < n := by rw [← hn, ← hws]; exact Sr.texts_pos 32 s
  have hnb : n ≤ 1048577 := by
    rw [← hn, ← hws]
    have h1 := Sp.cut_many 32 s.data.toList
    have h2 : s.data.toList.length = s.size := rfl
    have h3 := hrc.s
    unfold Sp.texts
    rw [List.length_map]
    omega
  have HSZ : Hid (∀ j, (ws.getD j ⟨#[]⟩).size ≤ 1048576) := fun j => by
    by_cases hj : j < ws.length
    · have h1 := Sr.texts_short 32 s (ws.getD j ⟨#[]⟩) (by rw [hws]; exact getD_in ws _ j hj)
      have := hrc.s
      omega
    · rw [List.getD_eq_getElem?_getD, List.getElem?_eq_none (by omega)]
      decide
  have HSL : Hid (Calls Tryz.prog 80 #[.string s, .string ⟨#[32]⟩] ((w.alloc (.cells (tbA t a) 43)).alloc (.cells #[.int .i64 0, .int .i64 0, .int .u32 0] 62)) fun e w' => e = .returned (.slice (some ⟨w.heap.size + 2, 0, none⟩) n n) ∧ (∀ j, j < n → w'.cell? ⟨w.heap.size + 2, j, none⟩ = some (.string (ws.getD j ⟨#[]⟩))) ∧ Below ((w.alloc (.cells (tbA t a) 43)).alloc (.cells #[.int .i64 0, .int .i64 0, .int .u32 0] 62)).heap.size ((w.alloc (.cells (tbA t a) 43)).alloc (.cells #[.int .i64 0, .int .i64 0, .int .u32 0] 62)) w') := (split_any 32 s ws ((w.alloc (.cells (tbA t a) 43)).alloc (.cells #[.int .i64 0, .int .i64 0, .int .u32 0] 62)) (hrc.x.below HB0.out) hrc.s hws).mono fun e w' h => by
    obtain ⟨h1, h2, h3, h4⟩ := h
    rw [hn] at h1
    have hsz2 : ((w.alloc (.cells (tbA t a) 43)).alloc (.cells #[.int .i64 0, .int .i64 0, .int .u32 0] 62)).heap.size = w.heap.size + 2 := by simp
    obtain ⟨b, off, h5, h6, h7⟩ := flds_at h3 0 (by omega)
    rw [hsz2] at h1 h5
    cases h5
    exact ⟨h1, fun j hj => by have := h7 j (by omega); simpa using this, h2⟩
  have HRC : Hid (∀ X, Below w.heap.size w X → RC X t a mb s) := fun X hX => hrc.below hX
  clear hrc hws
  go_enter Tryz.func48, Tryz.ntmps48
  go_wp2_with fail
  refine Calls.mono HSL.out ?_
  rintro e w1 ⟨rfl, hcl, hb1⟩
  have HBQ : Hid (Below w.heap.size w w1) := HB0.out.trans (hb1.mono HB0.out.size)
  have HNR : Hid ((w1.alloc (.cells #[.int .i64 0, .nilFunc] 136)).heap[w1.heap.size]? = some (.cells #[.int .i64 0, .nilFunc] 136 (0, 0))) := new_row w1 _ _ _ rfl
  have hba : Below w1.heap.size w1 ((w1.alloc (.cells #[.int .i64 0, .nilFunc] 136)).setRow w1.heap.size #[.int .i64 1, .func (.func 77) #[] #[]]) := below_setRow ((Below.refl _ _).alloc (Nat.le_refl _) _) (Nat.le_refl _) _
  have hbt : Below ((w.alloc (.cells (tbA t a) 43)).alloc (.cells #[.int .i64 0, .int .i64 0, .int .u32 0] 62)).heap.size ((w.alloc (.cells (tbA t a) 43)).alloc (.cells #[.int .i64 0, .int .i64 0, .int .u32 0] 62)) ((w1.alloc (.cells #[.int .i64 0, .nilFunc] 136)).setRow w1.heap.size #[.int .i64 1, .func (.func 77) #[] #[]]) := hb1.trans (hba.mono hb1.size)
  have HB1 : Hid (Below w.heap.size w ((w1.alloc (.cells #[.int .i64 0, .nilFunc] 136)).setRow w1.heap.size #[.int .i64 1, .func (.func 77) #[] #[]])) := HB0.out.trans (hbt.mono HB0.out.size)
  have HX1 : Hid (TBx ((w1.alloc (.cells #[.int .i64 0, .nilFunc] 136)).setRow w1.heap.size #[.int .i64 1, .func (.func 77) #[] #[]]) w.heap.size t a) := HX0.out.below hbt
  have HR2 : Hid (((w1.alloc (.cells #[.int .i64 0, .nilFunc] 136)).setRow w1.heap.size #[.int .i64 1, .func (.func 77) #[] #[]]).heap[w.heap.size + 1]? = some (.cells #[.int .i64 0, .int .i64 0, .int .u32 0] 62 (0, 0))) := row_below HK0.out hbt
  have HRB : Hid (((w1.alloc (.cells #[.int .i64 0, .nilFunc] 136)).setRow w1.heap.size #[.int .i64 1, .func (.func 77) #[] #[]]).heap[w1.heap.size]? = some (.cells #[.int .i64 1, .func (.func 77) #[] #[]] 136 (0, 0))) := setRow_heap _ _ _ _ _ _ HNR.out
  have hbw : w.heap.size + 2 < w1.heap.size := by
    have := World.block_lt_of_cell? w1 _ (hcl 0 (by omega))
    exact this
  have z0 : ((w1.alloc (.cells #[.int .i64 0, .nilFunc] 136)).setRow w1.heap.size #[.int .i64 1, .func (.func 77) #[] #[]]).cell? ⟨w1.heap.size, 0, none⟩ = some (.int .i64 1) := row_c HRB.out 0 _ rfl
  have hv0 : w1.cell? ⟨w.heap.size + 2, 0, none⟩ = some (.string (ws.getD 0 ⟨#[]⟩)) := hcl 0 (by omega)
  have HCL : Hid (∀ j, j < n → ((w1.alloc (.cells #[.int .i64 0, .nilFunc] 136)).setRow w1.heap.size #[.int .i64 1, .func (.func 77) #[] #[]]).cell? ⟨w.heap.size + 2, j, none⟩ = some (.string (ws.getD j ⟨#[]⟩))) := fun j hj => cell_kept hba (hcl j hj)
  have hlk := look_run (HRC.out _ HBQ.out).r
  rw [hk0] at hv0
  have hn2 : ((n : Int) != 2) = true := by simp; omega
  have hwn : IntKind.i64.wrap (1 + 1) = 2 := by decide
  clear hb1 hba hbt HB0 HX0 HK0 HSL hcl
  have HRF : Hid ((((w1.alloc (.cells #[.int .i64 0, .nilFunc] 136)).setRow w1.heap.size #[.int .i64 1, .func (.func 77) #[] #[]]).setRow (w.heap.size + 1) #[.int .i64 0, .int .i64 0, .int .u32 0]).heap[w.heap.size + 1]? = some (.cells #[.int .i64 0, .int .i64 0, .int .u32 0] 62 (0, 0))) := setRow_heap _ _ _ _ _ _ HR2.out
  have n0 : (((w1.alloc (.cells #[.int .i64 0, .nilFunc] 136)).setRow w1.heap.size #[.int .i64 1, .func (.func 77) #[] #[]]).setRow (w.heap.size + 1) #[.int .i64 0, .int .i64 0, .int .u32 0]).cell? ⟨w.heap.size + 1, 0, none⟩ = some (.int .i64 0) := row_c HRF.out 0 _ rfl
  have n1 : (((w1.alloc (.cells #[.int .i64 0, .nilFunc] 136)).setRow w1.heap.size #[.int .i64 1, .func (.func 77) #[] #[]]).setRow (w.heap.size + 1) #[.int .i64 0, .int .i64 0, .int .u32 0]).cell? ⟨w.heap.size + 1, 1, none⟩ = some (.int .i64 0) := row_c HRF.out 1 _ rfl
  have n2 : (((w1.alloc (.cells #[.int .i64 0, .nilFunc] 136)).setRow w1.heap.size #[.int .i64 1, .func (.func 77) #[] #[]]).setRow (w.heap.size + 1) #[.int .i64 0, .int .i64 0, .int .u32 0]).cell? ⟨w.heap.size + 1, 2, none⟩ = some (.int .u32 0) := row_c HRF.out 2 _ rfl
  have HBF : Hid (Below w.heap.size w (((w1.alloc (.cells #[.int .i64 0, .nilFunc] 136)).setRow w1.heap.size #[.int .i64 1, .func (.func 77) #[] #[]]).setRow (w.heap.size + 1) #[.int .i64 0, .int .i64 0, .int .u32 0])) := below_setRow HB1.out (by omega) _
  go_wp2_with (first | (refine wpList_store_row rfl 136 (.tmp 9) (.tmp 19) rfl w1.heap.size #[.int .i64 1, .func (.func 77) #[] #[]] rfl rfl 136 #[.int .i64 0, .nilFunc] HNR.out (by kernel_rfl) rfl (by simp [Value.oneCell']) ?_) | (refine wpList_store_row rfl 62 (.tmp 6) (.tmp 31) rfl (w.heap.size + 1) #[.int .i64 0, .int .i64 0, .int .u32 0] rfl rfl 62 #[.int .i64 0, .int .i64 0, .int .u32 0] HR2.out (by kernel_rfl) rfl (by simp [Value.oneCell']) ?_) | fail)
  exact bodyPost_ret (v := .tuple #[.agg #[.int .i64 0, .int .i64 0, .int .u32 0], .int .i64 2]) (by simp [results, Tryz.results48, go_sem, n0, n1, n2]) rfl ⟨rfl, HBF.out⟩
set_option maxRecDepth 40000 in
set_option maxHeartbeats 8000000 in
theorem rc_noninp (t : Tb) (a : Ad) (mb : Nat) (s : ByteArray) (n : Nat) (ws : List ByteArray) (w : World) (hrc : RC w t a mb s) (hws : Sp.texts 32 s = ws) (hn : ws.length = n) (hk0 : ws.getD 0 ⟨#[]⟩ = Sr.kinp) (hne : ¬ n = 3) :
    Calls Tryz.prog 48 #[tbV t a, .map (some mb), .string s] w fun e w' => e = .returned (.tuple #[.agg #[.int .i64 0, .int .i64 0, .int .u32 0], .int .i64 2]) ∧ Below w.heap.size w w' := by
  have HB0 : Hid (Below w.heap.size w ((w.alloc (.cells (tbA t a) 43)).alloc (.cells #[.int .i64 0, .int .i64 0, .int .u32 0] 62))) := ((Below.refl _ _).alloc (Nat.le_refl _) _).alloc (by simp) _
  have HX0 : Hid (TBx ((w.alloc (.cells (tbA t a) 43)).alloc (.cells #[.int .i64 0, .int .i64 0, .int .u32 0] 62)) w.heap.size t a) := (TBx.new w t a _ rfl).below ((Below.refl _ _).alloc (Nat.le_refl _) _)
  have HK0 : Hid (((w.alloc (.cells (tbA t a) 43)).alloc (.cells #[.int .i64 0, .int .i64 0, .int .u32 0] 62)).heap[w.heap.size + 1]? = some (.cells #[.int .i64 0, .int .i64 0, .int .u32 0] 62 (0, 0))) := new_row (w.alloc (.cells (tbA t a) 43)) #[.int .i64 0, .int .i64 0, .int .u32 0] 62 _ (by simp)
  have hnp : 0 < n := by rw [← hn, ← hws]; exact Sr.texts_pos 32 s
  have hnb : n ≤ 1048577 := by
    rw [← hn, ← hws]
    have h1 := Sp.cut_many 32 s.data.toList
    have h2 : s.data.toList.length = s.size := rfl
    have h3 := hrc.s
    unfold Sp.texts
    rw [List.length_map]
    omega
  have HSZ : Hid (∀ j, (ws.getD j ⟨#[]⟩).size ≤ 1048576) := fun j => by
    by_cases hj : j < ws.length
    · have h1 := Sr.texts_short 32 s (ws.getD j ⟨#[]⟩) (by rw [hws]; exact getD_in ws _ j hj)
      have := hrc.s
      omega
    · rw [List.getD_eq_getElem?_getD, List.getElem?_eq_none (by omega)]
      decide
  have HSL : Hid (Calls Tryz.prog 80 #[.string s, .string ⟨#[32]⟩] ((w.alloc (.cells (tbA t a) 43)).alloc (.cells #[.int .i64 0, .int .i64 0, .int .u32 0] 62)) fun e w' => e = .returned (.slice (some ⟨w.heap.size + 2, 0, none⟩) n n) ∧ (∀ j, j < n → w'.cell? ⟨w.heap.size + 2, j, none⟩ = some (.string (ws.getD j ⟨#[]⟩))) ∧ Below ((w.alloc (.cells (tbA t a) 43)).alloc (.cells #[.int .i64 0, .int .i64 0, .int .u32 0] 62)).heap.size ((w.alloc (.cells (tbA t a) 43)).alloc (.cells #[.int .i64 0, .int .i64 0, .int .u32 0] 62)) w') := (split_any 32 s ws ((w.alloc (.cells (tbA t a) 43)).alloc (.cells #[.int .i64 0, .int .i64 0, .int .u32 0] 62)) (hrc.x.below HB0.out) hrc.s hws).mono fun e w' h => by
    obtain ⟨h1, h2, h3, h4⟩ := h
    rw [hn] at h1
    have hsz2 : ((w.alloc (.cells (tbA t a) 43)).alloc (.cells #[.int .i64 0, .int .i64 0, .int .u32 0] 62)).heap.size = w.heap.size + 2 := by simp
    obtain ⟨b, off, h5, h6, h7⟩ := flds_at h3 0 (by omega)
    rw [hsz2] at h1 h5
    cases h5
    exact ⟨h1, fun j hj => by have := h7 j (by omega); simpa using this, h2⟩
  have HRC : Hid (∀ X, Below w.heap.size w X → RC X t a mb s) := fun X hX => hrc.below hX
  clear hrc hws
  go_enter Tryz.func48, Tryz.ntmps48
  go_wp2_with fail
  refine Calls.mono HSL.out ?_
  rintro e w1 ⟨rfl, hcl, hb1⟩
  have HBQ : Hid (Below w.heap.size w w1) := HB0.out.trans (hb1.mono HB0.out.size)
  have HNR : Hid ((w1.alloc (.cells #[.int .i64 0, .nilFunc] 136)).heap[w1.heap.size]? = some (.cells #[.int .i64 0, .nilFunc] 136 (0, 0))) := new_row w1 _ _ _ rfl
  have hba : Below w1.heap.size w1 ((w1.alloc (.cells #[.int .i64 0, .nilFunc] 136)).setRow w1.heap.size #[.int .i64 2, .func (.func 78) #[] #[]]) := below_setRow ((Below.refl _ _).alloc (Nat.le_refl _) _) (Nat.le_refl _) _
  have hbt : Below ((w.alloc (.cells (tbA t a) 43)).alloc (.cells #[.int .i64 0, .int .i64 0, .int .u32 0] 62)).heap.size ((w.alloc (.cells (tbA t a) 43)).alloc (.cells #[.int .i64 0, .int .i64 0, .int .u32 0] 62)) ((w1.alloc (.cells #[.int .i64 0, .nilFunc] 136)).setRow w1.heap.size #[.int .i64 2, .func (.func 78) #[] #[]]) := hb1.trans (hba.mono hb1.size)
  have HB1 : Hid (Below w.heap.size w ((w1.alloc (.cells #[.int .i64 0, .nilFunc] 136)).setRow w1.heap.size #[.int .i64 2, .func (.func 78) #[] #[]])) := HB0.out.trans (hbt.mono HB0.out.size)
  have HX1 : Hid (TBx ((w1.alloc (.cells #[.int .i64 0, .nilFunc] 136)).setRow w1.heap.size #[.int .i64 2, .func (.func 78) #[] #[]]) w.heap.size t a) := HX0.out.below hbt
  have HR2 : Hid (((w1.alloc (.cells #[.int .i64 0, .nilFunc] 136)).setRow w1.heap.size #[.int .i64 2, .func (.func 78) #[] #[]]).heap[w.heap.size + 1]? = some (.cells #[.int .i64 0, .int .i64 0, .int .u32 0] 62 (0, 0))) := row_below HK0.out hbt
  have HRB : Hid (((w1.alloc (.cells #[.int .i64 0, .nilFunc] 136)).setRow w1.heap.size #[.int .i64 2, .func (.func 78) #[] #[]]).heap[w1.heap.size]? = some (.cells #[.int .i64 2, .func (.func 78) #[] #[]] 136 (0, 0))) := setRow_heap _ _ _ _ _ _ HNR.out
  have hbw : w.heap.size + 2 < w1.heap.size := by
    have := World.block_lt_of_cell? w1 _ (hcl 0 (by omega))
    exact this
  have z0 : ((w1.alloc (.cells #[.int .i64 0, .nilFunc] 136)).setRow w1.heap.size #[.int .i64 2, .func (.func 78) #[] #[]]).cell? ⟨w1.heap.size, 0, none⟩ = some (.int .i64 2) := row_c HRB.out 0 _ rfl
  have hv0 : w1.cell? ⟨w.heap.size + 2, 0, none⟩ = some (.string (ws.getD 0 ⟨#[]⟩)) := hcl 0 (by omega)
  have HCL : Hid (∀ j, j < n → ((w1.alloc (.cells #[.int .i64 0, .nilFunc] 136)).setRow w1.heap.size #[.int .i64 2, .func (.func 78) #[] #[]]).cell? ⟨w.heap.size + 2, j, none⟩ = some (.string (ws.getD j ⟨#[]⟩))) := fun j hj => cell_kept hba (hcl j hj)
  have hlk := look_inp (HRC.out _ HBQ.out).r
  rw [hk0] at hv0
  have hn2 : ((n : Int) != 3) = true := by simp; omega
  have hwn : IntKind.i64.wrap (1 + 2) = 3 := by decide
  clear hb1 hba hbt HB0 HX0 HK0 HSL hcl
  have HRF : Hid ((((w1.alloc (.cells #[.int .i64 0, .nilFunc] 136)).setRow w1.heap.size #[.int .i64 2, .func (.func 78) #[] #[]]).setRow (w.heap.size + 1) #[.int .i64 0, .int .i64 0, .int .u32 0]).heap[w.heap.size + 1]? = some (.cells #[.int .i64 0, .int .i64 0, .int .u32 0] 62 (0, 0))) := setRow_heap _ _ _ _ _ _ HR2.out
  have n0 : (((w1.alloc (.cells #[.int .i64 0, .nilFunc] 136)).setRow w1.heap.size #[.int .i64 2, .func (.func 78) #[] #[]]).setRow (w.heap.size + 1) #[.int .i64 0, .int .i64 0, .int .u32 0]).cell? ⟨w.heap.size + 1, 0, none⟩ = some (.int .i64 0) := row_c HRF.out 0 _ rfl
  have n1 : (((w1.alloc (.cells #[.int .i64 0, .nilFunc] 136)).setRow w1.heap.size #[.int .i64 2, .func (.func 78) #[] #[]]).setRow (w.heap.size + 1) #[.int .i64 0, .int .i64 0, .int .u32 0]).cell? ⟨w.heap.size + 1, 1, none⟩ = some (.int .i64 0) := row_c HRF.out 1 _ rfl
  have n2 : (((w1.alloc (.cells #[.int .i64 0, .nilFunc] 136)).setRow w1.heap.size #[.int .i64 2, .func (.func 78) #[] #[]]).setRow (w.heap.size + 1) #[.int .i64 0, .int .i64 0, .int .u32 0]).cell? ⟨w.heap.size + 1, 2, none⟩ = some (.int .u32 0) := row_c HRF.out 2 _ rfl
  have HBF : Hid (Below w.heap.size w (((w1.alloc (.cells #[.int .i64 0, .nilFunc] 136)).setRow w1.heap.size #[.int .i64 2, .func (.func 78) #[] #[]]).setRow (w.heap.size + 1) #[.int .i64 0, .int .i64 0, .int .u32 0])) := below_setRow HB1.out (by omega) _
  go_wp2_with (first | (refine wpList_store_row rfl 136 (.tmp 9) (.tmp 19) rfl w1.heap.size #[.int .i64 2, .func (.func 78) #[] #[]] rfl rfl 136 #[.int .i64 0, .nilFunc] HNR.out (by kernel_rfl) rfl (by simp [Value.oneCell']) ?_) | (refine wpList_store_row rfl 62 (.tmp 6) (.tmp 31) rfl (w.heap.size + 1) #[.int .i64 0, .int .i64 0, .int .u32 0] rfl rfl 62 #[.int .i64 0, .int .i64 0, .int .u32 0] HR2.out (by kernel_rfl) rfl (by simp [Value.oneCell']) ?_) | fail)
  exact bodyPost_ret (v := .tuple #[.agg #[.int .i64 0, .int .i64 0, .int .u32 0], .int .i64 2]) (by simp [results, Tryz.results48, go_sem, n0, n1, n2]) rfl ⟨rfl, HBF.out⟩
set_option maxRecDepth 40000 in
set_option maxHeartbeats 8000000 in
theorem rc_nonres (t : Tb) (a : Ad) (mb : Nat) (s : ByteArray) (n : Nat) (ws : List ByteArray) (w : World) (hrc : RC w t a mb s) (hws : Sp.texts 32 s = ws) (hn : ws.length = n) (hk0 : ws.getD 0 ⟨#[]⟩ = Sr.kres) (hne : ¬ n = 2) :
    Calls Tryz.prog 48 #[tbV t a, .map (some mb), .string s] w fun e w' => e = .returned (.tuple #[.agg #[.int .i64 0, .int .i64 0, .int .u32 0], .int .i64 2]) ∧ Below w.heap.size w w' := by
  have HB0 : Hid (Below w.heap.size w ((w.alloc (.cells (tbA t a) 43)).alloc (.cells #[.int .i64 0, .int .i64 0, .int .u32 0] 62))) := ((Below.refl _ _).alloc (Nat.le_refl _) _).alloc (by simp) _
  have HX0 : Hid (TBx ((w.alloc (.cells (tbA t a) 43)).alloc (.cells #[.int .i64 0, .int .i64 0, .int .u32 0] 62)) w.heap.size t a) := (TBx.new w t a _ rfl).below ((Below.refl _ _).alloc (Nat.le_refl _) _)
  have HK0 : Hid (((w.alloc (.cells (tbA t a) 43)).alloc (.cells #[.int .i64 0, .int .i64 0, .int .u32 0] 62)).heap[w.heap.size + 1]? = some (.cells #[.int .i64 0, .int .i64 0, .int .u32 0] 62 (0, 0))) := new_row (w.alloc (.cells (tbA t a) 43)) #[.int .i64 0, .int .i64 0, .int .u32 0] 62 _ (by simp)
  have hnp : 0 < n := by rw [← hn, ← hws]; exact Sr.texts_pos 32 s
  have hnb : n ≤ 1048577 := by
    rw [← hn, ← hws]
    have h1 := Sp.cut_many 32 s.data.toList
    have h2 : s.data.toList.length = s.size := rfl
    have h3 := hrc.s
    unfold Sp.texts
    rw [List.length_map]
    omega
  have HSZ : Hid (∀ j, (ws.getD j ⟨#[]⟩).size ≤ 1048576) := fun j => by
    by_cases hj : j < ws.length
    · have h1 := Sr.texts_short 32 s (ws.getD j ⟨#[]⟩) (by rw [hws]; exact getD_in ws _ j hj)
      have := hrc.s
      omega
    · rw [List.getD_eq_getElem?_getD, List.getElem?_eq_none (by omega)]
      decide
  have HSL : Hid (Calls Tryz.prog 80 #[.string s, .string ⟨#[32]⟩] ((w.alloc (.cells (tbA t a) 43)).alloc (.cells #[.int .i64 0, .int .i64 0, .int .u32 0] 62)) fun e w' => e = .returned (.slice (some ⟨w.heap.size + 2, 0, none⟩) n n) ∧ (∀ j, j < n → w'.cell? ⟨w.heap.size + 2, j, none⟩ = some (.string (ws.getD j ⟨#[]⟩))) ∧ Below ((w.alloc (.cells (tbA t a) 43)).alloc (.cells #[.int .i64 0, .int .i64 0, .int .u32 0] 62)).heap.size ((w.alloc (.cells (tbA t a) 43)).alloc (.cells #[.int .i64 0, .int .i64 0, .int .u32 0] 62)) w') := (split_any 32 s ws ((w.alloc (.cells (tbA t a) 43)).alloc (.cells #[.int .i64 0, .int .i64 0, .int .u32 0] 62)) (hrc.x.below HB0.out) hrc.s hws).mono fun e w' h => by
    obtain ⟨h1, h2, h3, h4⟩ := h
    rw [hn] at h1
    have hsz2 : ((w.alloc (.cells (tbA t a) 43)).alloc (.cells #[.int .i64 0, .int .i64 0, .int .u32 0] 62)).heap.size = w.heap.size + 2 := by simp
    obtain ⟨b, off, h5, h6, h7⟩ := flds_at h3 0 (by omega)
    rw [hsz2] at h1 h5
    cases h5
    exact ⟨h1, fun j hj => by have := h7 j (by omega); simpa using this, h2⟩
  have HRC : Hid (∀ X, Below w.heap.size w X → RC X t a mb s) := fun X hX => hrc.below hX
  clear hrc hws
  go_enter Tryz.func48, Tryz.ntmps48
  go_wp2_with fail
  refine Calls.mono HSL.out ?_
  rintro e w1 ⟨rfl, hcl, hb1⟩
  have HBQ : Hid (Below w.heap.size w w1) := HB0.out.trans (hb1.mono HB0.out.size)
  have HNR : Hid ((w1.alloc (.cells #[.int .i64 0, .nilFunc] 136)).heap[w1.heap.size]? = some (.cells #[.int .i64 0, .nilFunc] 136 (0, 0))) := new_row w1 _ _ _ rfl
  have hba : Below w1.heap.size w1 ((w1.alloc (.cells #[.int .i64 0, .nilFunc] 136)).setRow w1.heap.size #[.int .i64 1, .func (.func 79) #[] #[]]) := below_setRow ((Below.refl _ _).alloc (Nat.le_refl _) _) (Nat.le_refl _) _
  have hbt : Below ((w.alloc (.cells (tbA t a) 43)).alloc (.cells #[.int .i64 0, .int .i64 0, .int .u32 0] 62)).heap.size ((w.alloc (.cells (tbA t a) 43)).alloc (.cells #[.int .i64 0, .int .i64 0, .int .u32 0] 62)) ((w1.alloc (.cells #[.int .i64 0, .nilFunc] 136)).setRow w1.heap.size #[.int .i64 1, .func (.func 79) #[] #[]]) := hb1.trans (hba.mono hb1.size)
  have HB1 : Hid (Below w.heap.size w ((w1.alloc (.cells #[.int .i64 0, .nilFunc] 136)).setRow w1.heap.size #[.int .i64 1, .func (.func 79) #[] #[]])) := HB0.out.trans (hbt.mono HB0.out.size)
  have HX1 : Hid (TBx ((w1.alloc (.cells #[.int .i64 0, .nilFunc] 136)).setRow w1.heap.size #[.int .i64 1, .func (.func 79) #[] #[]]) w.heap.size t a) := HX0.out.below hbt
  have HR2 : Hid (((w1.alloc (.cells #[.int .i64 0, .nilFunc] 136)).setRow w1.heap.size #[.int .i64 1, .func (.func 79) #[] #[]]).heap[w.heap.size + 1]? = some (.cells #[.int .i64 0, .int .i64 0, .int .u32 0] 62 (0, 0))) := row_below HK0.out hbt
  have HRB : Hid (((w1.alloc (.cells #[.int .i64 0, .nilFunc] 136)).setRow w1.heap.size #[.int .i64 1, .func (.func 79) #[] #[]]).heap[w1.heap.size]? = some (.cells #[.int .i64 1, .func (.func 79) #[] #[]] 136 (0, 0))) := setRow_heap _ _ _ _ _ _ HNR.out
  have hbw : w.heap.size + 2 < w1.heap.size := by
    have := World.block_lt_of_cell? w1 _ (hcl 0 (by omega))
    exact this
  have z0 : ((w1.alloc (.cells #[.int .i64 0, .nilFunc] 136)).setRow w1.heap.size #[.int .i64 1, .func (.func 79) #[] #[]]).cell? ⟨w1.heap.size, 0, none⟩ = some (.int .i64 1) := row_c HRB.out 0 _ rfl
  have hv0 : w1.cell? ⟨w.heap.size + 2, 0, none⟩ = some (.string (ws.getD 0 ⟨#[]⟩)) := hcl 0 (by omega)
  have HCL : Hid (∀ j, j < n → ((w1.alloc (.cells #[.int .i64 0, .nilFunc] 136)).setRow w1.heap.size #[.int .i64 1, .func (.func 79) #[] #[]]).cell? ⟨w.heap.size + 2, j, none⟩ = some (.string (ws.getD j ⟨#[]⟩))) := fun j hj => cell_kept hba (hcl j hj)
  have hlk := look_res (HRC.out _ HBQ.out).r
  rw [hk0] at hv0
  have hn2 : ((n : Int) != 2) = true := by simp; omega
  have hwn : IntKind.i64.wrap (1 + 1) = 2 := by decide
  clear hb1 hba hbt HB0 HX0 HK0 HSL hcl
  have HRF : Hid ((((w1.alloc (.cells #[.int .i64 0, .nilFunc] 136)).setRow w1.heap.size #[.int .i64 1, .func (.func 79) #[] #[]]).setRow (w.heap.size + 1) #[.int .i64 0, .int .i64 0, .int .u32 0]).heap[w.heap.size + 1]? = some (.cells #[.int .i64 0, .int .i64 0, .int .u32 0] 62 (0, 0))) := setRow_heap _ _ _ _ _ _ HR2.out
  have n0 : (((w1.alloc (.cells #[.int .i64 0, .nilFunc] 136)).setRow w1.heap.size #[.int .i64 1, .func (.func 79) #[] #[]]).setRow (w.heap.size + 1) #[.int .i64 0, .int .i64 0, .int .u32 0]).cell? ⟨w.heap.size + 1, 0, none⟩ = some (.int .i64 0) := row_c HRF.out 0 _ rfl
  have n1 : (((w1.alloc (.cells #[.int .i64 0, .nilFunc] 136)).setRow w1.heap.size #[.int .i64 1, .func (.func 79) #[] #[]]).setRow (w.heap.size + 1) #[.int .i64 0, .int .i64 0, .int .u32 0]).cell? ⟨w.heap.size + 1, 1, none⟩ = some (.int .i64 0) := row_c HRF.out 1 _ rfl
  have n2 : (((w1.alloc (.cells #[.int .i64 0, .nilFunc] 136)).setRow w1.heap.size #[.int .i64 1, .func (.func 79) #[] #[]]).setRow (w.heap.size + 1) #[.int .i64 0, .int .i64 0, .int .u32 0]).cell? ⟨w.heap.size + 1, 2, none⟩ = some (.int .u32 0) := row_c HRF.out 2 _ rfl
  have HBF : Hid (Below w.heap.size w (((w1.alloc (.cells #[.int .i64 0, .nilFunc] 136)).setRow w1.heap.size #[.int .i64 1, .func (.func 79) #[] #[]]).setRow (w.heap.size + 1) #[.int .i64 0, .int .i64 0, .int .u32 0])) := below_setRow HB1.out (by omega) _
  go_wp2_with (first | (refine wpList_store_row rfl 136 (.tmp 9) (.tmp 19) rfl w1.heap.size #[.int .i64 1, .func (.func 79) #[] #[]] rfl rfl 136 #[.int .i64 0, .nilFunc] HNR.out (by kernel_rfl) rfl (by simp [Value.oneCell']) ?_) | (refine wpList_store_row rfl 62 (.tmp 6) (.tmp 31) rfl (w.heap.size + 1) #[.int .i64 0, .int .i64 0, .int .u32 0] rfl rfl 62 #[.int .i64 0, .int .i64 0, .int .u32 0] HR2.out (by kernel_rfl) rfl (by simp [Value.oneCell']) ?_) | fail)
  exact bodyPost_ret (v := .tuple #[.agg #[.int .i64 0, .int .i64 0, .int .u32 0], .int .i64 2]) (by simp [results, Tryz.results48, go_sem, n0, n1, n2]) rfl ⟨rfl, HBF.out⟩
set_option maxRecDepth 40000 in
set_option maxHeartbeats 8000000 in
theorem rc_isrun (t : Tb) (a : Ad) (mb : Nat) (s : ByteArray) (n : Nat) (ws : List ByteArray) (w : World) (hrc : RC w t a mb s) (hws : Sp.texts 32 s = ws) (hn : ws.length = n) (hk0 : ws.getD 0 ⟨#[]⟩ = Sr.krun) (h2 : n = 2) (p1 p2 p3 p4 : Int) (hp : Sr.runP (ws.getD 1 ⟨#[]⟩) = ((p1, p2, p3), p4)) :
    Calls Tryz.prog 48 #[tbV t a, .map (some mb), .string s] w fun e w' => e = .returned (.tuple #[.agg #[.int .i64 p1, .int .i64 p2, .int .u32 p3], .int .i64 p4]) ∧ Below w.heap.size w w' := by
  have HB0 : Hid (Below w.heap.size w ((w.alloc (.cells (tbA t a) 43)).alloc (.cells #[.int .i64 0, .int .i64 0, .int .u32 0] 62))) := ((Below.refl _ _).alloc (Nat.le_refl _) _).alloc (by simp) _
  have HX0 : Hid (TBx ((w.alloc (.cells (tbA t a) 43)).alloc (.cells #[.int .i64 0, .int .i64 0, .int .u32 0] 62)) w.heap.size t a) := (TBx.new w t a _ rfl).below ((Below.refl _ _).alloc (Nat.le_refl _) _)
  have HK0 : Hid (((w.alloc (.cells (tbA t a) 43)).alloc (.cells #[.int .i64 0, .int .i64 0, .int .u32 0] 62)).heap[w.heap.size + 1]? = some (.cells #[.int .i64 0, .int .i64 0, .int .u32 0] 62 (0, 0))) := new_row (w.alloc (.cells (tbA t a) 43)) #[.int .i64 0, .int .i64 0, .int .u32 0] 62 _ (by simp)
  have hnp : 0 < n := by rw [← hn, ← hws]; exact Sr.texts_pos 32 s
  have hnb : n ≤ 1048577 := by
    rw [← hn, ← hws]
    have h1 := Sp.cut_many 32 s.data.toList
    have h2 : s.data.toList.length = s.size := rfl
    have h3 := hrc.s
    unfold Sp.texts
    rw [List.length_map]
    omega
  have HSZ : Hid (∀ j, (ws.getD j ⟨#[]⟩).size ≤ 1048576) := fun j => by
    by_cases hj : j < ws.length
    · have h1 := Sr.texts_short 32 s (ws.getD j ⟨#[]⟩) (by rw [hws]; exact getD_in ws _ j hj)
      have := hrc.s
      omega
    · rw [List.getD_eq_getElem?_getD, List.getElem?_eq_none (by omega)]
      decide
  have HSL : Hid (Calls Tryz.prog 80 #[.string s, .string ⟨#[32]⟩] ((w.alloc (.cells (tbA t a) 43)).alloc (.cells #[.int .i64 0, .int .i64 0, .int .u32 0] 62)) fun e w' => e = .returned (.slice (some ⟨w.heap.size + 2, 0, none⟩) n n) ∧ (∀ j, j < n → w'.cell? ⟨w.heap.size + 2, j, none⟩ = some (.string (ws.getD j ⟨#[]⟩))) ∧ Below ((w.alloc (.cells (tbA t a) 43)).alloc (.cells #[.int .i64 0, .int .i64 0, .int .u32 0] 62)).heap.size ((w.alloc (.cells (tbA t a) 43)).alloc (.cells #[.int .i64 0, .int .i64 0, .int .u32 0] 62)) w') := (split_any 32 s ws ((w.alloc (.cells (tbA t a) 43)).alloc (.cells #[.int .i64 0, .int .i64 0, .int .u32 0] 62)) (hrc.x.below HB0.out) hrc.s hws).mono fun e w' h => by
    obtain ⟨h1, h2, h3, h4⟩ := h
    rw [hn] at h1
    have hsz2 : ((w.alloc (.cells (tbA t a) 43)).alloc (.cells #[.int .i64 0, .int .i64 0, .int .u32 0] 62)).heap.size = w.heap.size + 2 := by simp
    obtain ⟨b, off, h5, h6, h7⟩ := flds_at h3 0 (by omega)
    rw [hsz2] at h1 h5
    cases h5
    exact ⟨h1, fun j hj => by have := h7 j (by omega); simpa using this, h2⟩
  have HRC : Hid (∀ X, Below w.heap.size w X → RC X t a mb s) := fun X hX => hrc.below hX
  clear hrc hws
  subst h2
  go_enter Tryz.func48, Tryz.ntmps48
  go_wp2_with fail
  refine Calls.mono HSL.out ?_
  rintro e w1 ⟨rfl, hcl, hb1⟩
  have HBQ : Hid (Below w.heap.size w w1) := HB0.out.trans (hb1.mono HB0.out.size)
  have HNR : Hid ((w1.alloc (.cells #[.int .i64 0, .nilFunc] 136)).heap[w1.heap.size]? = some (.cells #[.int .i64 0, .nilFunc] 136 (0, 0))) := new_row w1 _ _ _ rfl
  have hba : Below w1.heap.size w1 ((w1.alloc (.cells #[.int .i64 0, .nilFunc] 136)).setRow w1.heap.size #[.int .i64 1, .func (.func 77) #[] #[]]) := below_setRow ((Below.refl _ _).alloc (Nat.le_refl _) _) (Nat.le_refl _) _
  have hbt : Below ((w.alloc (.cells (tbA t a) 43)).alloc (.cells #[.int .i64 0, .int .i64 0, .int .u32 0] 62)).heap.size ((w.alloc (.cells (tbA t a) 43)).alloc (.cells #[.int .i64 0, .int .i64 0, .int .u32 0] 62)) ((w1.alloc (.cells #[.int .i64 0, .nilFunc] 136)).setRow w1.heap.size #[.int .i64 1, .func (.func 77) #[] #[]]) := hb1.trans (hba.mono hb1.size)
  have HB1 : Hid (Below w.heap.size w ((w1.alloc (.cells #[.int .i64 0, .nilFunc] 136)).setRow w1.heap.size #[.int .i64 1, .func (.func 77) #[] #[]])) := HB0.out.trans (hbt.mono HB0.out.size)
  have HX1 : Hid (TBx ((w1.alloc (.cells #[.int .i64 0, .nilFunc] 136)).setRow w1.heap.size #[.int .i64 1, .func (.func 77) #[] #[]]) w.heap.size t a) := HX0.out.below hbt
  have HR2 : Hid (((w1.alloc (.cells #[.int .i64 0, .nilFunc] 136)).setRow w1.heap.size #[.int .i64 1, .func (.func 77) #[] #[]]).heap[w.heap.size + 1]? = some (.cells #[.int .i64 0, .int .i64 0, .int .u32 0] 62 (0, 0))) := row_below HK0.out hbt
  have HRB : Hid (((w1.alloc (.cells #[.int .i64 0, .nilFunc] 136)).setRow w1.heap.size #[.int .i64 1, .func (.func 77) #[] #[]]).heap[w1.heap.size]? = some (.cells #[.int .i64 1, .func (.func 77) #[] #[]] 136 (0, 0))) := setRow_heap _ _ _ _ _ _ HNR.out
  have hbw : w.heap.size + 2 < w1.heap.size := by
    have := World.block_lt_of_cell? w1 _ (hcl 0 (by omega))
    exact this
  have z0 : ((w1.alloc (.cells #[.int .i64 0, .nilFunc] 136)).setRow w1.heap.size #[.int .i64 1, .func (.func 77) #[] #[]]).cell? ⟨w1.heap.size, 0, none⟩ = some (.int .i64 1) := row_c HRB.out 0 _ rfl
  have hv0 : w1.cell? ⟨w.heap.size + 2, 0, none⟩ = some (.string (ws.getD 0 ⟨#[]⟩)) := hcl 0 (by omega)
  have HCL : Hid (∀ j, j < 2 → ((w1.alloc (.cells #[.int .i64 0, .nilFunc] 136)).setRow w1.heap.size #[.int .i64 1, .func (.func 77) #[] #[]]).cell? ⟨w.heap.size + 2, j, none⟩ = some (.string (ws.getD j ⟨#[]⟩))) := fun j hj => cell_kept hba (hcl j hj)
  have hlk := look_run (HRC.out _ HBQ.out).r
  rw [hk0] at hv0
  have hwn : IntKind.i64.wrap (1 + 1) = 2 := by decide
  clear hb1 hba hbt HB0 HX0 HK0 HSL hcl
  have HFG : Hid (∀ X, Below ((w1.alloc (.cells #[.int .i64 0, .nilFunc] 136)).setRow w1.heap.size #[.int .i64 1, .func (.func 77) #[] #[]]).heap.size ((w1.alloc (.cells #[.int .i64 0, .nilFunc] 136)).setRow w1.heap.size #[.int .i64 1, .func (.func 77) #[] #[]]) X → X.cell? ⟨w1.heap.size, 1, none⟩ = some (.func (.func 77) #[] #[])) := fun X hX => row_c (row_below HRB.out hX) 1 _ rfl
  have HXG : Hid (∀ X, Below ((w1.alloc (.cells #[.int .i64 0, .nilFunc] 136)).setRow w1.heap.size #[.int .i64 1, .func (.func 77) #[] #[]]).heap.size ((w1.alloc (.cells #[.int .i64 0, .nilFunc] 136)).setRow w1.heap.size #[.int .i64 1, .func (.func 77) #[] #[]]) X → X.heap[w.heap.size]? = some (.cells (tbA t a) 43 (0, 0))) := fun X hX => HX1.out.below hX
  have HCG : Hid (∀ X, Below ((w1.alloc (.cells #[.int .i64 0, .nilFunc] 136)).setRow w1.heap.size #[.int .i64 1, .func (.func 77) #[] #[]]).heap.size ((w1.alloc (.cells #[.int .i64 0, .nilFunc] 136)).setRow w1.heap.size #[.int .i64 1, .func (.func 77) #[] #[]]) X → ∀ j, j < 2 → X.cell? ⟨w.heap.size + 2, j, none⟩ = some (.string (ws.getD j ⟨#[]⟩))) := fun X hX j hj => cell_kept hX (HCL.out j hj)
  have HRD : Hid (∀ X, Below ((w1.alloc (.cells #[.int .i64 0, .nilFunc] 136)).setRow w1.heap.size #[.int .i64 1, .func (.func 77) #[] #[]]).heap.size ((w1.alloc (.cells #[.int .i64 0, .nilFunc] 136)).setRow w1.heap.size #[.int .i64 1, .func (.func 77) #[] #[]]) X → Calls Tryz.prog 77 #[tbV t a, .slice (some ⟨w.heap.size + 2, 1, none⟩) 1 1] X fun e w' => e = .returned (.tuple #[.agg #[.int .i64 p1, .int .i64 p2, .int .u32 p3], .int .i64 p4]) ∧ Below X.heap.size X w') := fun X hgb => by
    have h := read_run t a (w.heap.size + 2) 1 1 (ws.getD 1 ⟨#[]⟩) _ (HCG.out _ hgb 1 (by omega)) (HSZ.out 1)
    rw [hp] at h
    exact h
  have HNW : Hid (w.heap.size + 1 ≤ ((w1.alloc (.cells #[.int .i64 0, .nilFunc] 136)).setRow w1.heap.size #[.int .i64 1, .func (.func 77) #[] #[]]).heap.size) := by show _ ≤ _; simp; omega
  have HRZ : Hid (((w1.alloc (.cells #[.int .i64 0, .nilFunc] 136)).setRow w1.heap.size #[.int .i64 1, .func (.func 77) #[] #[]]).heap[w.heap.size + 1]? = some (.cells #[.int .i64 0, .int .i64 0, .int .u32 0] 62 (0, 0))) := HR2.out
  clear HRC HCG HCL HRB HX1 HR2 hnb hnp HSZ HBQ
  go_wp2_with (first | (refine wpList_store_row rfl 136 (.tmp 9) (.tmp 19) rfl w1.heap.size #[.int .i64 1, .func (.func 77) #[] #[]] rfl rfl 136 #[.int .i64 0, .nilFunc] HNR.out (by kernel_rfl) rfl (by simp [Value.oneCell']) ?_) | fail)
  refine wp_region_inv (by kernel_rfl) (by kernel_rfl) (fun A ℓ a' w' => ∃ (x32 x33 x34 x35 x36 x37 x38 x39 x7 : Value), a' = (((((((((A.put (some 32) x32).put (some 33) x33).put (some 34) x34).put (some 35) x35).put (some 36) x36).put (some 37) x37).put (some 38) x38).put (some 39) x39).put (some 7) x7) ∧ Rcrun (((w1.alloc (.cells #[.int .i64 0, .nilFunc] 136)).setRow w1.heap.size #[.int .i64 1, .func (.func 77) #[] #[]])) (#[.int .i64 0, .int .i64 0, .int .u32 0]) (#[.int .i64 p1, .int .i64 p2, .int .u32 p3]) (w.heap.size + 1) (.pointer (some ⟨w1.heap.size, 1, none⟩)) (.func (.func 77) #[] #[]) (tbV t a) (.slice (some ⟨w.heap.size + 2, 0, none⟩) 2 2) (.slice (some ⟨w.heap.size + 2, 1, none⟩) 1 1) (.tuple #[.agg #[.int .i64 p1, .int .i64 p2, .int .u32 p3], .int .i64 p4]) (.agg #[.int .i64 p1, .int .i64 p2, .int .u32 p3]) (.int .i64 p4) w' (ℓ 0) (ℓ 1) (ℓ 2) (ℓ 3) (ℓ 4) (ℓ 5) (ℓ 6) (ℓ 7) (ℓ 8) (ℓ 9) x32 x33 x34 x35 x36 x37 x38 x39 x7) ?_ ?_ ?_ ?_
  · exact ⟨undef, undef, undef, undef, undef, undef, undef, undef, (.int .i64 0), (by simp only [Act.put, List.setIfInBounds_toArray, List.set_cons_zero, List.set_cons_succ]), ⟨(fun g => by cases g), ((Below.refl _ _).mono HNW.out).drew, (fun _ => (Below.refl _ _).drew), (fun _ => HRZ.out), (fun g => by cases g), (fun g => by cases g), (fun g => by cases g), (fun g => by cases g), (fun g => by cases g), (fun g => by cases g), (fun g => by cases g), (fun g => by cases g), (fun g => by cases g), (fun g => by cases g)⟩⟩
  · intro ℓ a' w' hI hall
    obtain ⟨x32, x33, x34, x35, x36, x37, x38, x39, x7, rfl, hr⟩ := hI
    have hall' : ∀ i, i < 10 → ℓ i = true := hall
    obtain rfl := hr.f0 (hall' 0 (by decide))
    obtain rfl := hr.f1 (hall' 1 (by decide))
    obtain rfl := hr.f2 (hall' 2 (by decide))
    obtain rfl := hr.f3 (hall' 3 (by decide))
    obtain rfl := hr.f4 (hall' 4 (by decide))
    obtain rfl := hr.f5 (hall' 5 (by decide))
    obtain rfl := hr.f6 (hall' 6 (by decide))
    obtain rfl := hr.f7 (hall' 7 (by decide))
    obtain rfl := hr.f9 (hall' 9 (by decide))
    have hrow := hr.r1 (hall' 8 (by decide))
    have hgb := hr.gb
    clear hall hall' hr
    simp only [Act.put, List.setIfInBounds_toArray, List.set_cons_zero, List.set_cons_succ]
    have n0 : w'.cell? ⟨w.heap.size + 1, 0, none⟩ = some (.int .i64 p1) := row_c hrow 0 _ rfl
    have n1 : w'.cell? ⟨w.heap.size + 1, 1, none⟩ = some (.int .i64 p2) := row_c hrow 1 _ rfl
    have n2 : w'.cell? ⟨w.heap.size + 1, 2, none⟩ = some (.int .u32 p3) := row_c hrow 2 _ rfl
    have HBF : Hid (Below w.heap.size w w') := HB1.out.trans (hgb.mono (by omega))
    clear hrow hgb
    go_wp2
    exact bodyPost_ret (v := .tuple #[.agg #[.int .i64 p1, .int .i64 p2, .int .u32 p3], .int .i64 p4]) (by simp [results, Tryz.results48, go_sem, n0, n1, n2]) rfl ⟨rfl, HBF.out⟩
  · intro ℓ a' w' i o hI ho hi hL hdep K hK
    obtain ⟨x32, x33, x34, x35, x36, x37, x38, x39, x7, rfl, hr⟩ := hI
    have hi7 : i < 10 := hi
    have hcs : i = 0 ∨ i = 1 ∨ i = 2 ∨ i = 3 ∨ i = 4 ∨ i = 5 ∨ i = 6 ∨ i = 7 ∨ i = 8 ∨ i = 9 := by omega
    clear hi hi7
    rcases hcs with rfl | rfl | rfl | rfl | rfl | rfl | rfl | rfl | rfl | rfl
    · revert hK
      obtain rfl := Option.some.inj ho
      clear hdep ho
      intro hK
      rw [if_pos (by rfl)]
      try simp only [Act.put, List.setIfInBounds_toArray, List.set_cons_zero, List.set_cons_succ]
      go_simp
      exact hK.out _ _ (fun j => if j = 0 then true else ℓ j) ⟨(.pointer (some ⟨w1.heap.size, 1, none⟩)), x33, x34, x35, x36, x37, x38, x39, x7, (by simp only [Act.put, List.setIfInBounds_toArray, List.set_cons_zero, List.set_cons_succ]), ⟨(fun g => ⟨rfl, (hr.cs g).2.1, (hr.cs g).2.2.1, (hr.cs g).2.2.2.1, (hr.cs g).2.2.2.2.1, (hr.cs g).2.2.2.2.2.1, (hr.cs g).2.2.2.2.2.2.1, (hr.cs g).2.2.2.2.2.2.2.1, trivial⟩), hr.gb, hr.pre, hr.r0, hr.r1, (fun _ => rfl), hr.f1, hr.f2, hr.f3, hr.f4, hr.f5, hr.f6, hr.f7, hr.f9⟩⟩ (if_pos rfl) (fun j hj => if_neg hj)
    · revert hK
      obtain rfl := Option.some.inj ho
      have g0 : ℓ 0 = true := hdep { on := 0, ground := Ground.data } (by simp) rfl
      clear hdep ho
      have hl : ℓ 8 = false := by
        cases h7 : ℓ 8
        · rfl
        · have := (hr.cs h7).2.1; rw [this] at hL; cases hL
      have hgb : Below (((w1.alloc (.cells #[.int .i64 0, .nilFunc] 136)).setRow w1.heap.size #[.int .i64 1, .func (.func 77) #[] #[]])).heap.size (((w1.alloc (.cells #[.int .i64 0, .nilFunc] 136)).setRow w1.heap.size #[.int .i64 1, .func (.func 77) #[] #[]])) w' := hr.pre hl
      obtain rfl := hr.f0 g0
      intro hK
      rw [if_pos (by rfl)]
      try simp only [Act.put, List.setIfInBounds_toArray, List.set_cons_zero, List.set_cons_succ]
      have cc := HFG.out _ hgb
      go_simp
      exact hK.out _ _ (fun j => if j = 1 then true else ℓ j) ⟨(.pointer (some ⟨w1.heap.size, 1, none⟩)), (.func (.func 77) #[] #[]), x34, x35, x36, x37, x38, x39, x7, (by simp only [Act.put, List.setIfInBounds_toArray, List.set_cons_zero, List.set_cons_succ]), ⟨(fun g => ⟨(hr.cs g).1, rfl, (hr.cs g).2.2.1, (hr.cs g).2.2.2.1, (hr.cs g).2.2.2.2.1, (hr.cs g).2.2.2.2.2.1, (hr.cs g).2.2.2.2.2.2.1, (hr.cs g).2.2.2.2.2.2.2.1, trivial⟩), hr.gb, hr.pre, hr.r0, hr.r1, hr.f0, (fun _ => rfl), hr.f2, hr.f3, hr.f4, hr.f5, hr.f6, hr.f7, hr.f9⟩⟩ (if_pos rfl) (fun j hj => if_neg hj)
    · replace ho : some ({ dst := some 34, op := .load 43 (.tmp 3), type := 43, pos := "l21_script.go:71", after := #[], guard := none } : Oper) = some o := ho
      revert hK
      obtain rfl := Option.some.inj ho
      clear hdep ho
      have hl : ℓ 8 = false := by
        cases h7 : ℓ 8
        · rfl
        · have := (hr.cs h7).2.2.1; rw [this] at hL; cases hL
      have hgb : Below (((w1.alloc (.cells #[.int .i64 0, .nilFunc] 136)).setRow w1.heap.size #[.int .i64 1, .func (.func 77) #[] #[]])).heap.size (((w1.alloc (.cells #[.int .i64 0, .nilFunc] 136)).setRow w1.heap.size #[.int .i64 1, .func (.func 77) #[] #[]])) w' := hr.pre hl
      intro hK
      rw [if_pos (by rfl)]
      try simp only [Act.put, List.setIfInBounds_toArray, List.set_cons_zero, List.set_cons_succ]
      refine wp_load_row (P := Tryz.prog) 43 (.tmp 3) rfl w.heap.size rfl 43 (tbA t a) (0, 0) _ (HXG.out _ hgb) Tryz.underlying43 rfl (by kernel_rfl) ?_
      exact hK.out _ _ (fun j => if j = 2 then true else ℓ j) ⟨x32, x33, (tbV t a), x35, x36, x37, x38, x39, x7, (by simp only [Act.put, List.setIfInBounds_toArray, List.set_cons_zero, List.set_cons_succ]), ⟨(fun g => ⟨(hr.cs g).1, (hr.cs g).2.1, rfl, (hr.cs g).2.2.2.1, (hr.cs g).2.2.2.2.1, (hr.cs g).2.2.2.2.2.1, (hr.cs g).2.2.2.2.2.2.1, (hr.cs g).2.2.2.2.2.2.2.1, trivial⟩), hr.gb, hr.pre, hr.r0, hr.r1, hr.f0, hr.f1, (fun _ => rfl), hr.f3, hr.f4, hr.f5, hr.f6, hr.f7, hr.f9⟩⟩ (if_pos rfl) (fun j hj => if_neg hj)
    · revert hK
      obtain rfl := Option.some.inj ho
      clear hdep ho
      intro hK
      rw [if_pos (by rfl)]
      try simp only [Act.put, List.setIfInBounds_toArray, List.set_cons_zero, List.set_cons_succ]
      go_simp
      exact hK.out _ _ (fun j => if j = 3 then true else ℓ j) ⟨x32, x33, x34, (.slice (some ⟨w.heap.size + 2, 0, none⟩) 2 2), x36, x37, x38, x39, x7, (by simp only [Act.put, List.setIfInBounds_toArray, List.set_cons_zero, List.set_cons_succ]), ⟨(fun g => ⟨(hr.cs g).1, (hr.cs g).2.1, (hr.cs g).2.2.1, rfl, (hr.cs g).2.2.2.2.1, (hr.cs g).2.2.2.2.2.1, (hr.cs g).2.2.2.2.2.2.1, (hr.cs g).2.2.2.2.2.2.2.1, trivial⟩), hr.gb, hr.pre, hr.r0, hr.r1, hr.f0, hr.f1, hr.f2, (fun _ => rfl), hr.f4, hr.f5, hr.f6, hr.f7, hr.f9⟩⟩ (if_pos rfl) (fun j hj => if_neg hj)
    · revert hK
      obtain rfl := Option.some.inj ho
      have g3 : ℓ 3 = true := hdep { on := 3, ground := Ground.data } (by simp) rfl
      clear hdep ho
      obtain rfl := hr.f3 g3
      intro hK
      rw [if_pos (by rfl)]
      try simp only [Act.put, List.setIfInBounds_toArray, List.set_cons_zero, List.set_cons_succ]
      have hsl := slice_b2 (w.heap.size + 2) w'
      go_simp
      exact hK.out _ _ (fun j => if j = 4 then true else ℓ j) ⟨x32, x33, x34, (.slice (some ⟨w.heap.size + 2, 0, none⟩) 2 2), (.slice (some ⟨w.heap.size + 2, 1, none⟩) 1 1), x37, x38, x39, x7, (by simp only [Act.put, List.setIfInBounds_toArray, List.set_cons_zero, List.set_cons_succ]), ⟨(fun g => ⟨(hr.cs g).1, (hr.cs g).2.1, (hr.cs g).2.2.1, (hr.cs g).2.2.2.1, rfl, (hr.cs g).2.2.2.2.2.1, (hr.cs g).2.2.2.2.2.2.1, (hr.cs g).2.2.2.2.2.2.2.1, trivial⟩), hr.gb, hr.pre, hr.r0, hr.r1, hr.f0, hr.f1, hr.f2, hr.f3, (fun _ => rfl), hr.f5, hr.f6, hr.f7, hr.f9⟩⟩ (if_pos rfl) (fun j hj => if_neg hj)
    · revert hK
      obtain rfl := Option.some.inj ho
      have g1 : ℓ 1 = true := hdep { on := 1, ground := Ground.data } (by simp) rfl
      have g2 : ℓ 2 = true := hdep { on := 2, ground := Ground.data } (by simp) rfl
      have g4 : ℓ 4 = true := hdep { on := 4, ground := Ground.data } (by simp) rfl
      clear hdep ho
      have hl : ℓ 8 = false := by
        cases h7 : ℓ 8
        · rfl
        · have := (hr.cs h7).2.2.2.2.2.1; rw [this] at hL; cases hL
      have hgb : Below (((w1.alloc (.cells #[.int .i64 0, .nilFunc] 136)).setRow w1.heap.size #[.int .i64 1, .func (.func 77) #[] #[]])).heap.size (((w1.alloc (.cells #[.int .i64 0, .nilFunc] 136)).setRow w1.heap.size #[.int .i64 1, .func (.func 77) #[] #[]])) w' := hr.pre hl
      obtain rfl := hr.f1 g1
      obtain rfl := hr.f2 g2
      obtain rfl := hr.f4 g4
      intro hK
      rw [if_pos (by rfl)]
      try simp only [Act.put, List.setIfInBounds_toArray, List.set_cons_zero, List.set_cons_succ]
      go_simp
      refine Calls.mono (HRD.out _ hgb) ?_
      rintro e w9 ⟨rfl, hb9⟩
      have hr9 := hr.below hb9 (Nat.le_trans HNW.out hgb.size)
      exact hK.out _ _ (fun j => if j = 5 then true else ℓ j) ⟨x32, (.func (.func 77) #[] #[]), (tbV t a), x35, (.slice (some ⟨w.heap.size + 2, 1, none⟩) 1 1), (.tuple #[.agg #[.int .i64 p1, .int .i64 p2, .int .u32 p3], .int .i64 p4]), x38, x39, x7, (by simp only [Act.put, List.setIfInBounds_toArray, List.set_cons_zero, List.set_cons_succ]), ⟨(fun g => ⟨(hr9.cs g).1, (hr9.cs g).2.1, (hr9.cs g).2.2.1, (hr9.cs g).2.2.2.1, (hr9.cs g).2.2.2.2.1, rfl, (hr9.cs g).2.2.2.2.2.2.1, (hr9.cs g).2.2.2.2.2.2.2.1, trivial⟩), hr9.gb, hr9.pre, hr9.r0, hr9.r1, hr9.f0, hr9.f1, hr9.f2, hr9.f3, hr9.f4, (fun _ => rfl), hr9.f6, hr9.f7, hr9.f9⟩⟩ (if_pos rfl) (fun j hj => if_neg hj)
    · revert hK
      obtain rfl := Option.some.inj ho
      have g5 : ℓ 5 = true := hdep { on := 5, ground := Ground.data } (by simp) rfl
      clear hdep ho
      obtain rfl := hr.f5 g5
      intro hK
      rw [if_pos (by rfl)]
      try simp only [Act.put, List.setIfInBounds_toArray, List.set_cons_zero, List.set_cons_succ]
      go_simp
      exact hK.out _ _ (fun j => if j = 6 then true else ℓ j) ⟨x32, x33, x34, x35, x36, (.tuple #[.agg #[.int .i64 p1, .int .i64 p2, .int .u32 p3], .int .i64 p4]), (.agg #[.int .i64 p1, .int .i64 p2, .int .u32 p3]), x39, x7, (by simp only [Act.put, List.setIfInBounds_toArray, List.set_cons_zero, List.set_cons_succ]), ⟨(fun g => ⟨(hr.cs g).1, (hr.cs g).2.1, (hr.cs g).2.2.1, (hr.cs g).2.2.2.1, (hr.cs g).2.2.2.2.1, (hr.cs g).2.2.2.2.2.1, rfl, (hr.cs g).2.2.2.2.2.2.2.1, trivial⟩), hr.gb, hr.pre, hr.r0, hr.r1, hr.f0, hr.f1, hr.f2, hr.f3, hr.f4, hr.f5, (fun _ => rfl), hr.f7, hr.f9⟩⟩ (if_pos rfl) (fun j hj => if_neg hj)
    · revert hK
      obtain rfl := Option.some.inj ho
      have g5 : ℓ 5 = true := hdep { on := 5, ground := Ground.data } (by simp) rfl
      clear hdep ho
      obtain rfl := hr.f5 g5
      intro hK
      rw [if_pos (by rfl)]
      try simp only [Act.put, List.setIfInBounds_toArray, List.set_cons_zero, List.set_cons_succ]
      go_simp
      exact hK.out _ _ (fun j => if j = 7 then true else ℓ j) ⟨x32, x33, x34, x35, x36, (.tuple #[.agg #[.int .i64 p1, .int .i64 p2, .int .u32 p3], .int .i64 p4]), x38, (.int .i64 p4), x7, (by simp only [Act.put, List.setIfInBounds_toArray, List.set_cons_zero, List.set_cons_succ]), ⟨(fun g => ⟨(hr.cs g).1, (hr.cs g).2.1, (hr.cs g).2.2.1, (hr.cs g).2.2.2.1, (hr.cs g).2.2.2.2.1, (hr.cs g).2.2.2.2.2.1, (hr.cs g).2.2.2.2.2.2.1, rfl, trivial⟩), hr.gb, hr.pre, hr.r0, hr.r1, hr.f0, hr.f1, hr.f2, hr.f3, hr.f4, hr.f5, hr.f6, (fun _ => rfl), hr.f9⟩⟩ (if_pos rfl) (fun j hj => if_neg hj)
    · replace ho : some ({ dst := none, op := .store 62 (.tmp 6) (.tmp 38), type := 0, pos := "l21_script.go:71", after := #[{ on := 6, ground := Ground.data }, { on := 5, ground := Ground.chain }, { on := 0, ground := Ground.phase }, { on := 1, ground := Ground.phase }, { on := 2, ground := Ground.phase }, { on := 3, ground := Ground.phase }, { on := 4, ground := Ground.phase }, { on := 5, ground := Ground.phase }, { on := 6, ground := Ground.phase }, { on := 7, ground := Ground.phase }], guard := none } : Oper) = some o := ho
      revert hK
      obtain rfl := Option.some.inj ho
      have g6 : ℓ 6 = true := hdep { on := 6, ground := Ground.data } (by simp) rfl
      have g0 : ℓ 0 = true := hdep { on := 0, ground := Ground.phase } (by simp) rfl
      have g1 : ℓ 1 = true := hdep { on := 1, ground := Ground.phase } (by simp) rfl
      have g2 : ℓ 2 = true := hdep { on := 2, ground := Ground.phase } (by simp) rfl
      have g3 : ℓ 3 = true := hdep { on := 3, ground := Ground.phase } (by simp) rfl
      have g4 : ℓ 4 = true := hdep { on := 4, ground := Ground.phase } (by simp) rfl
      have g5 : ℓ 5 = true := hdep { on := 5, ground := Ground.phase } (by simp) rfl
      have g7 : ℓ 7 = true := hdep { on := 7, ground := Ground.phase } (by simp) rfl
      clear hdep ho
      obtain rfl := hr.f6 g6
      intro hK
      rw [if_pos (by rfl)]
      try simp only [Act.put, List.setIfInBounds_toArray, List.set_cons_zero, List.set_cons_succ]
      refine wp_store_row (P := Tryz.prog) 62 (.tmp 6) (.tmp 38) rfl (w.heap.size + 1) (#[.int .i64 p1, .int .i64 p2, .int .u32 p3]) rfl rfl 62 (#[.int .i64 0, .int .i64 0, .int .u32 0]) (hr.r0 hL) (by kernel_rfl) rfl (by simp [Value.oneCell']) ?_
      exact hK.out _ _ (fun j => if j = 8 then true else ℓ j) ⟨x32, x33, x34, x35, x36, x37, (.agg #[.int .i64 p1, .int .i64 p2, .int .u32 p3]), x39, x7, (by simp only [Act.put, List.setIfInBounds_toArray, List.set_cons_zero, List.set_cons_succ]), ⟨(fun _ => ⟨g0, g1, g2, g3, g4, g5, g6, g7, trivial⟩), below_setRow hr.gb (Nat.le_refl _) _, (fun g => by cases g), (fun g => by cases g), (fun _ => setRow_heap _ _ _ _ _ _ (hr.r0 hL)), hr.f0, hr.f1, hr.f2, hr.f3, hr.f4, hr.f5, hr.f6, hr.f7, hr.f9⟩⟩ (if_pos rfl) (fun j hj => if_neg hj)
    · revert hK
      obtain rfl := Option.some.inj ho
      have g7 : ℓ 7 = true := hdep { on := 7, ground := Ground.data } (by simp) rfl
      clear hdep ho
      obtain rfl := hr.f7 g7
      intro hK
      rw [if_pos (by rfl)]
      try simp only [Act.put, List.setIfInBounds_toArray, List.set_cons_zero, List.set_cons_succ]
      go_simp
      exact hK.out _ _ (fun j => if j = 9 then true else ℓ j) ⟨x32, x33, x34, x35, x36, x37, x38, (.int .i64 p4), (.int .i64 p4), (by simp only [Act.put, List.setIfInBounds_toArray, List.set_cons_zero, List.set_cons_succ]), ⟨hr.cs, hr.gb, hr.pre, hr.r0, hr.r1, hr.f0, hr.f1, hr.f2, hr.f3, hr.f4, hr.f5, hr.f6, hr.f7, (fun _ => rfl)⟩⟩ (if_pos rfl) (fun j hj => if_neg hj)
  · rintro a' w' ℓ ℓ' hℓ hI
    rw [← show ℓ = ℓ' from funext hℓ]
    exact hI
set_option maxRecDepth 40000 in
set_option maxHeartbeats 8000000 in
theorem rc_isinp (t : Tb) (a : Ad) (mb : Nat) (s : ByteArray) (n : Nat) (ws : List ByteArray) (w : World) (hrc : RC w t a mb s) (hws : Sp.texts 32 s = ws) (hn : ws.length = n) (hk0 : ws.getD 0 ⟨#[]⟩ = Sr.kinp) (h2 : n = 3) (p1 p2 p3 p4 : Int) (hp : Sr.inpP (ws.getD 1 ⟨#[]⟩) (ws.getD 2 ⟨#[]⟩) = ((p1, p2, p3), p4)) :
    Calls Tryz.prog 48 #[tbV t a, .map (some mb), .string s] w fun e w' => e = .returned (.tuple #[.agg #[.int .i64 p1, .int .i64 p2, .int .u32 p3], .int .i64 p4]) ∧ Below w.heap.size w w' := by
  have HB0 : Hid (Below w.heap.size w ((w.alloc (.cells (tbA t a) 43)).alloc (.cells #[.int .i64 0, .int .i64 0, .int .u32 0] 62))) := ((Below.refl _ _).alloc (Nat.le_refl _) _).alloc (by simp) _
  have HX0 : Hid (TBx ((w.alloc (.cells (tbA t a) 43)).alloc (.cells #[.int .i64 0, .int .i64 0, .int .u32 0] 62)) w.heap.size t a) := (TBx.new w t a _ rfl).below ((Below.refl _ _).alloc (Nat.le_refl _) _)
  have HK0 : Hid (((w.alloc (.cells (tbA t a) 43)).alloc (.cells #[.int .i64 0, .int .i64 0, .int .u32 0] 62)).heap[w.heap.size + 1]? = some (.cells #[.int .i64 0, .int .i64 0, .int .u32 0] 62 (0, 0))) := new_row (w.alloc (.cells (tbA t a) 43)) #[.int .i64 0, .int .i64 0, .int .u32 0] 62 _ (by simp)
  have hnp : 0 < n := by rw [← hn, ← hws]; exact Sr.texts_pos 32 s
  have hnb : n ≤ 1048577 := by
    rw [← hn, ← hws]
    have h1 := Sp.cut_many 32 s.data.toList
    have h2 : s.data.toList.length = s.size := rfl
    have h3 := hrc.s
    unfold Sp.texts
    rw [List.length_map]
    omega
  have HSZ : Hid (∀ j, (ws.getD j ⟨#[]⟩).size ≤ 1048576) := fun j => by
    by_cases hj : j < ws.length
    · have h1 := Sr.texts_short 32 s (ws.getD j ⟨#[]⟩) (by rw [hws]; exact getD_in ws _ j hj)
      have := hrc.s
      omega
    · rw [List.getD_eq_getElem?_getD, List.getElem?_eq_none (by omega)]
      decide
  have HSL : Hid (Calls Tryz.prog 80 #[.string s, .string ⟨#[32]⟩] ((w.alloc (.cells (tbA t a) 43)).alloc (.cells #[.int .i64 0, .int .i64 0, .int .u32 0] 62)) fun e w' => e = .returned (.slice (some ⟨w.heap.size + 2, 0, none⟩) n n) ∧ (∀ j, j < n → w'.cell? ⟨w.heap.size + 2, j, none⟩ = some (.string (ws.getD j ⟨#[]⟩))) ∧ Below ((w.alloc (.cells (tbA t a) 43)).alloc (.cells #[.int .i64 0, .int .i64 0, .int .u32 0] 62)).heap.size ((w.alloc (.cells (tbA t a) 43)).alloc (.cells #[.int .i64 0, .int .i64 0, .int .u32 0] 62)) w') := (split_any 32 s ws ((w.alloc (.cells (tbA t a) 43)).alloc (.cells #[.int .i64 0, .int .i64 0, .int .u32 0] 62)) (hrc.x.below HB0.out) hrc.s hws).mono fun e w' h => by
    obtain ⟨h1, h2, h3, h4⟩ := h
    rw [hn] at h1
    have hsz2 : ((w.alloc (.cells (tbA t a) 43)).alloc (.cells #[.int .i64 0, .int .i64 0, .int .u32 0] 62)).heap.size = w.heap.size + 2 := by simp
    obtain ⟨b, off, h5, h6, h7⟩ := flds_at h3 0 (by omega)
    rw [hsz2] at h1 h5
    cases h5
    exact ⟨h1, fun j hj => by have := h7 j (by omega); simpa using this, h2⟩
  have HRC : Hid (∀ X, Below w.heap.size w X → RC X t a mb s) := fun X hX => hrc.below hX
  clear hrc hws
  subst h2
  go_enter Tryz.func48, Tryz.ntmps48
  go_wp2_with fail
  refine Calls.mono HSL.out ?_
  rintro e w1 ⟨rfl, hcl, hb1⟩
  have HBQ : Hid (Below w.heap.size w w1) := HB0.out.trans (hb1.mono HB0.out.size)
  have HNR : Hid ((w1.alloc (.cells #[.int .i64 0, .nilFunc] 136)).heap[w1.heap.size]? = some (.cells #[.int .i64 0, .nilFunc] 136 (0, 0))) := new_row w1 _ _ _ rfl
  have hba : Below w1.heap.size w1 ((w1.alloc (.cells #[.int .i64 0, .nilFunc] 136)).setRow w1.heap.size #[.int .i64 2, .func (.func 78) #[] #[]]) := below_setRow ((Below.refl _ _).alloc (Nat.le_refl _) _) (Nat.le_refl _) _
  have hbt : Below ((w.alloc (.cells (tbA t a) 43)).alloc (.cells #[.int .i64 0, .int .i64 0, .int .u32 0] 62)).heap.size ((w.alloc (.cells (tbA t a) 43)).alloc (.cells #[.int .i64 0, .int .i64 0, .int .u32 0] 62)) ((w1.alloc (.cells #[.int .i64 0, .nilFunc] 136)).setRow w1.heap.size #[.int .i64 2, .func (.func 78) #[] #[]]) := hb1.trans (hba.mono hb1.size)
  have HB1 : Hid (Below w.heap.size w ((w1.alloc (.cells #[.int .i64 0, .nilFunc] 136)).setRow w1.heap.size #[.int .i64 2, .func (.func 78) #[] #[]])) := HB0.out.trans (hbt.mono HB0.out.size)
  have HX1 : Hid (TBx ((w1.alloc (.cells #[.int .i64 0, .nilFunc] 136)).setRow w1.heap.size #[.int .i64 2, .func (.func 78) #[] #[]]) w.heap.size t a) := HX0.out.below hbt
  have HR2 : Hid (((w1.alloc (.cells #[.int .i64 0, .nilFunc] 136)).setRow w1.heap.size #[.int .i64 2, .func (.func 78) #[] #[]]).heap[w.heap.size + 1]? = some (.cells #[.int .i64 0, .int .i64 0, .int .u32 0] 62 (0, 0))) := row_below HK0.out hbt
  have HRB : Hid (((w1.alloc (.cells #[.int .i64 0, .nilFunc] 136)).setRow w1.heap.size #[.int .i64 2, .func (.func 78) #[] #[]]).heap[w1.heap.size]? = some (.cells #[.int .i64 2, .func (.func 78) #[] #[]] 136 (0, 0))) := setRow_heap _ _ _ _ _ _ HNR.out
  have hbw : w.heap.size + 2 < w1.heap.size := by
    have := World.block_lt_of_cell? w1 _ (hcl 0 (by omega))
    exact this
  have z0 : ((w1.alloc (.cells #[.int .i64 0, .nilFunc] 136)).setRow w1.heap.size #[.int .i64 2, .func (.func 78) #[] #[]]).cell? ⟨w1.heap.size, 0, none⟩ = some (.int .i64 2) := row_c HRB.out 0 _ rfl
  have hv0 : w1.cell? ⟨w.heap.size + 2, 0, none⟩ = some (.string (ws.getD 0 ⟨#[]⟩)) := hcl 0 (by omega)
  have HCL : Hid (∀ j, j < 3 → ((w1.alloc (.cells #[.int .i64 0, .nilFunc] 136)).setRow w1.heap.size #[.int .i64 2, .func (.func 78) #[] #[]]).cell? ⟨w.heap.size + 2, j, none⟩ = some (.string (ws.getD j ⟨#[]⟩))) := fun j hj => cell_kept hba (hcl j hj)
  have hlk := look_inp (HRC.out _ HBQ.out).r
  rw [hk0] at hv0
  have hwn : IntKind.i64.wrap (1 + 2) = 3 := by decide
  clear hb1 hba hbt HB0 HX0 HK0 HSL hcl
  have HFG : Hid (∀ X, Below ((w1.alloc (.cells #[.int .i64 0, .nilFunc] 136)).setRow w1.heap.size #[.int .i64 2, .func (.func 78) #[] #[]]).heap.size ((w1.alloc (.cells #[.int .i64 0, .nilFunc] 136)).setRow w1.heap.size #[.int .i64 2, .func (.func 78) #[] #[]]) X → X.cell? ⟨w1.heap.size, 1, none⟩ = some (.func (.func 78) #[] #[])) := fun X hX => row_c (row_below HRB.out hX) 1 _ rfl
  have HXG : Hid (∀ X, Below ((w1.alloc (.cells #[.int .i64 0, .nilFunc] 136)).setRow w1.heap.size #[.int .i64 2, .func (.func 78) #[] #[]]).heap.size ((w1.alloc (.cells #[.int .i64 0, .nilFunc] 136)).setRow w1.heap.size #[.int .i64 2, .func (.func 78) #[] #[]]) X → X.heap[w.heap.size]? = some (.cells (tbA t a) 43 (0, 0))) := fun X hX => HX1.out.below hX
  have HCG : Hid (∀ X, Below ((w1.alloc (.cells #[.int .i64 0, .nilFunc] 136)).setRow w1.heap.size #[.int .i64 2, .func (.func 78) #[] #[]]).heap.size ((w1.alloc (.cells #[.int .i64 0, .nilFunc] 136)).setRow w1.heap.size #[.int .i64 2, .func (.func 78) #[] #[]]) X → ∀ j, j < 3 → X.cell? ⟨w.heap.size + 2, j, none⟩ = some (.string (ws.getD j ⟨#[]⟩))) := fun X hX j hj => cell_kept hX (HCL.out j hj)
  have HRD : Hid (∀ X, Below ((w1.alloc (.cells #[.int .i64 0, .nilFunc] 136)).setRow w1.heap.size #[.int .i64 2, .func (.func 78) #[] #[]]).heap.size ((w1.alloc (.cells #[.int .i64 0, .nilFunc] 136)).setRow w1.heap.size #[.int .i64 2, .func (.func 78) #[] #[]]) X → Calls Tryz.prog 78 #[tbV t a, .slice (some ⟨w.heap.size + 2, 1, none⟩) 2 2] X fun e w' => e = .returned (.tuple #[.agg #[.int .i64 p1, .int .i64 p2, .int .u32 p3], .int .i64 p4]) ∧ Below X.heap.size X w') := fun X hgb => by
    have h := read_inp t a (w.heap.size + 2) 1 2 (ws.getD 1 ⟨#[]⟩) (ws.getD 2 ⟨#[]⟩) _ (HCG.out _ hgb 1 (by omega)) (HSZ.out 1) (HCG.out _ hgb 2 (by omega)) (HSZ.out 2)
    rw [hp] at h
    exact h
  have HNW : Hid (w.heap.size + 1 ≤ ((w1.alloc (.cells #[.int .i64 0, .nilFunc] 136)).setRow w1.heap.size #[.int .i64 2, .func (.func 78) #[] #[]]).heap.size) := by show _ ≤ _; simp; omega
  have HRZ : Hid (((w1.alloc (.cells #[.int .i64 0, .nilFunc] 136)).setRow w1.heap.size #[.int .i64 2, .func (.func 78) #[] #[]]).heap[w.heap.size + 1]? = some (.cells #[.int .i64 0, .int .i64 0, .int .u32 0] 62 (0, 0))) := HR2.out
  clear HRC HCG HCL HRB HX1 HR2 hnb hnp HSZ HBQ
  go_wp2_with (first | (refine wpList_store_row rfl 136 (.tmp 9) (.tmp 19) rfl w1.heap.size #[.int .i64 2, .func (.func 78) #[] #[]] rfl rfl 136 #[.int .i64 0, .nilFunc] HNR.out (by kernel_rfl) rfl (by simp [Value.oneCell']) ?_) | fail)
  refine wp_region_inv (by kernel_rfl) (by kernel_rfl) (fun A ℓ a' w' => ∃ (x32 x33 x34 x35 x36 x37 x38 x39 x7 : Value), a' = (((((((((A.put (some 32) x32).put (some 33) x33).put (some 34) x34).put (some 35) x35).put (some 36) x36).put (some 37) x37).put (some 38) x38).put (some 39) x39).put (some 7) x7) ∧ Rcinp (((w1.alloc (.cells #[.int .i64 0, .nilFunc] 136)).setRow w1.heap.size #[.int .i64 2, .func (.func 78) #[] #[]])) (#[.int .i64 0, .int .i64 0, .int .u32 0]) (#[.int .i64 p1, .int .i64 p2, .int .u32 p3]) (w.heap.size + 1) (.pointer (some ⟨w1.heap.size, 1, none⟩)) (.func (.func 78) #[] #[]) (tbV t a) (.slice (some ⟨w.heap.size + 2, 0, none⟩) 3 3) (.slice (some ⟨w.heap.size + 2, 1, none⟩) 2 2) (.tuple #[.agg #[.int .i64 p1, .int .i64 p2, .int .u32 p3], .int .i64 p4]) (.agg #[.int .i64 p1, .int .i64 p2, .int .u32 p3]) (.int .i64 p4) w' (ℓ 0) (ℓ 1) (ℓ 2) (ℓ 3) (ℓ 4) (ℓ 5) (ℓ 6) (ℓ 7) (ℓ 8) (ℓ 9) x32 x33 x34 x35 x36 x37 x38 x39 x7) ?_ ?_ ?_ ?_
  · exact ⟨undef, undef, undef, undef, undef, undef, undef, undef, (.int .i64 0), (by simp only [Act.put, List.setIfInBounds_toArray, List.set_cons_zero, List.set_cons_succ]), ⟨(fun g => by cases g), ((Below.refl _ _).mono HNW.out).drew, (fun _ => (Below.refl _ _).drew), (fun _ => HRZ.out), (fun g => by cases g), (fun g => by cases g), (fun g => by cases g), (fun g => by cases g), (fun g => by cases g), (fun g => by cases g), (fun g => by cases g), (fun g => by cases g), (fun g => by cases g), (fun g => by cases g)⟩⟩
  · intro ℓ a' w' hI hall
    obtain ⟨x32, x33, x34, x35, x36, x37, x38, x39, x7, rfl, hr⟩ := hI
    have hall' : ∀ i, i < 10 → ℓ i = true := hall
    obtain rfl := hr.f0 (hall' 0 (by decide))
    obtain rfl := hr.f1 (hall' 1 (by decide))
    obtain rfl := hr.f2 (hall' 2 (by decide))
    obtain rfl := hr.f3 (hall' 3 (by decide))
    obtain rfl := hr.f4 (hall' 4 (by decide))
    obtain rfl := hr.f5 (hall' 5 (by decide))
    obtain rfl := hr.f6 (hall' 6 (by decide))
    obtain rfl := hr.f7 (hall' 7 (by decide))
    obtain rfl := hr.f9 (hall' 9 (by decide))
    have hrow := hr.r1 (hall' 8 (by decide))
    have hgb := hr.gb
    clear hall hall' hr
    simp only [Act.put, List.setIfInBounds_toArray, List.set_cons_zero, List.set_cons_succ]
    have n0 : w'.cell? ⟨w.heap.size + 1, 0, none⟩ = some (.int .i64 p1) := row_c hrow 0 _ rfl
    have n1 : w'.cell? ⟨w.heap.size + 1, 1, none⟩ = some (.int .i64 p2) := row_c hrow 1 _ rfl
    have n2 : w'.cell? ⟨w.heap.size + 1, 2, none⟩ = some (.int .u32 p3) := row_c hrow 2 _ rfl
    have HBF : Hid (Below w.heap.size w w') := HB1.out.trans (hgb.mono (by omega))
    clear hrow hgb
    go_wp2
    exact bodyPost_ret (v := .tuple #[.agg #[.int .i64 p1, .int .i64 p2, .int .u32 p3], .int .i64 p4]) (by simp [results, Tryz.results48, go_sem, n0, n1, n2]) rfl ⟨rfl, HBF.out⟩
  · intro ℓ a' w' i o hI ho hi hL hdep K hK
    obtain ⟨x32, x33, x34, x35, x36, x37, x38, x39, x7, rfl, hr⟩ := hI
    have hi7 : i < 10 := hi
    have hcs : i = 0 ∨ i = 1 ∨ i = 2 ∨ i = 3 ∨ i = 4 ∨ i = 5 ∨ i = 6 ∨ i = 7 ∨ i = 8 ∨ i = 9 := by omega
    clear hi hi7
    rcases hcs with rfl | rfl | rfl | rfl | rfl | rfl | rfl | rfl | rfl | rfl
    · revert hK
      obtain rfl := Option.some.inj ho
      clear hdep ho
      intro hK
      rw [if_pos (by rfl)]
      try simp only [Act.put, List.setIfInBounds_toArray, List.set_cons_zero, List.set_cons_succ]
      go_simp
      exact hK.out _ _ (fun j => if j = 0 then true else ℓ j) ⟨(.pointer (some ⟨w1.heap.size, 1, none⟩)), x33, x34, x35, x36, x37, x38, x39, x7, (by simp only [Act.put, List.setIfInBounds_toArray, List.set_cons_zero, List.set_cons_succ]), ⟨(fun g => ⟨rfl, (hr.cs g).2.1, (hr.cs g).2.2.1, (hr.cs g).2.2.2.1, (hr.cs g).2.2.2.2.1, (hr.cs g).2.2.2.2.2.1, (hr.cs g).2.2.2.2.2.2.1, (hr.cs g).2.2.2.2.2.2.2.1, trivial⟩), hr.gb, hr.pre, hr.r0, hr.r1, (fun _ => rfl), hr.f1, hr.f2, hr.f3, hr.f4, hr.f5, hr.f6, hr.f7, hr.f9⟩⟩ (if_pos rfl) (fun j hj => if_neg hj)
    · revert hK
      obtain rfl := Option.some.inj ho
      have g0 : ℓ 0 = true := hdep { on := 0, ground := Ground.data } (by simp) rfl
      clear hdep ho
      have hl : ℓ 8 = false := by
        cases h7 : ℓ 8
        · rfl
        · have := (hr.cs h7).2.1; rw [this] at hL; cases hL
      have hgb : Below (((w1.alloc (.cells #[.int .i64 0, .nilFunc] 136)).setRow w1.heap.size #[.int .i64 2, .func (.func 78) #[] #[]])).heap.size (((w1.alloc (.cells #[.int .i64 0, .nilFunc] 136)).setRow w1.heap.size #[.int .i64 2, .func (.func 78) #[] #[]])) w' := hr.pre hl
      obtain rfl := hr.f0 g0
      intro hK
      rw [if_pos (by rfl)]
      try simp only [Act.put, List.setIfInBounds_toArray, List.set_cons_zero, List.set_cons_succ]
      have cc := HFG.out _ hgb
      go_simp
      exact hK.out _ _ (fun j => if j = 1 then true else ℓ j) ⟨(.pointer (some ⟨w1.heap.size, 1, none⟩)), (.func (.func 78) #[] #[]), x34, x35, x36, x37, x38, x39, x7, (by simp only [Act.put, List.setIfInBounds_toArray, List.set_cons_zero, List.set_cons_succ]), ⟨(fun g => ⟨(hr.cs g).1, rfl, (hr.cs g).2.2.1, (hr.cs g).2.2.2.1, (hr.cs g).2.2.2.2.1, (hr.cs g).2.2.2.2.2.1, (hr.cs g).2.2.2.2.2.2.1, (hr.cs g).2.2.2.2.2.2.2.1, trivial⟩), hr.gb, hr.pre, hr.r0, hr.r1, hr.f0, (fun _ => rfl), hr.f2, hr.f3, hr.f4, hr.f5, hr.f6, hr.f7, hr.f9⟩⟩ (if_pos rfl) (fun j hj => if_neg hj)
    · replace ho : some ({ dst := some 34, op := .load 43 (.tmp 3), type := 43, pos := "l21_script.go:71", after := #[], guard := none } : Oper) = some o := ho
      revert hK
      obtain rfl := Option.some.inj ho
      clear hdep ho
      have hl : ℓ 8 = false := by
        cases h7 : ℓ 8
        · rfl
        · have := (hr.cs h7).2.2.1; rw [this] at hL; cases hL
      have hgb : Below (((w1.alloc (.cells #[.int .i64 0, .nilFunc] 136)).setRow w1.heap.size #[.int .i64 2, .func (.func 78) #[] #[]])).heap.size (((w1.alloc (.cells #[.int .i64 0, .nilFunc] 136)).setRow w1.heap.size #[.int .i64 2, .func (.func 78) #[] #[]])) w' := hr.pre hl
      intro hK
      rw [if_pos (by rfl)]
      try simp only [Act.put, List.setIfInBounds_toArray, List.set_cons_zero, List.set_cons_succ]
      refine wp_load_row (P := Tryz.prog) 43 (.tmp 3) rfl w.heap.size rfl 43 (tbA t a) (0, 0) _ (HXG.out _ hgb) Tryz.underlying43 rfl (by kernel_rfl) ?_
      exact hK.out _ _ (fun j => if j = 2 then true else ℓ j) ⟨x32, x33, (tbV t a), x35, x36, x37, x38, x39, x7, (by simp only [Act.put, List.setIfInBounds_toArray, List.set_cons_zero, List.set_cons_succ]), ⟨(fun g => ⟨(hr.cs g).1, (hr.cs g).2.1, rfl, (hr.cs g).2.2.2.1, (hr.cs g).2.2.2.2.1, (hr.cs g).2.2.2.2.2.1, (hr.cs g).2.2.2.2.2.2.1, (hr.cs g).2.2.2.2.2.2.2.1, trivial⟩), hr.gb, hr.pre, hr.r0, hr.r1, hr.f0, hr.f1, (fun _ => rfl), hr.f3, hr.f4, hr.f5, hr.f6, hr.f7, hr.f9⟩⟩ (if_pos rfl) (fun j hj => if_neg hj)
    · revert hK
      obtain rfl := Option.some.inj ho
      clear hdep ho
      intro hK
      rw [if_pos (by rfl)]
      try simp only [Act.put, List.setIfInBounds_toArray, List.set_cons_zero, List.set_cons_succ]
      go_simp
      exact hK.out _ _ (fun j => if j = 3 then true else ℓ j) ⟨x32, x33, x34, (.slice (some ⟨w.heap.size + 2, 0, none⟩) 3 3), x36, x37, x38, x39, x7, (by simp only [Act.put, List.setIfInBounds_toArray, List.set_cons_zero, List.set_cons_succ]), ⟨(fun g => ⟨(hr.cs g).1, (hr.cs g).2.1, (hr.cs g).2.2.1, rfl, (hr.cs g).2.2.2.2.1, (hr.cs g).2.2.2.2.2.1, (hr.cs g).2.2.2.2.2.2.1, (hr.cs g).2.2.2.2.2.2.2.1, trivial⟩), hr.gb, hr.pre, hr.r0, hr.r1, hr.f0, hr.f1, hr.f2, (fun _ => rfl), hr.f4, hr.f5, hr.f6, hr.f7, hr.f9⟩⟩ (if_pos rfl) (fun j hj => if_neg hj)
    · revert hK
      obtain rfl := Option.some.inj ho
      have g3 : ℓ 3 = true := hdep { on := 3, ground := Ground.data } (by simp) rfl
      clear hdep ho
      obtain rfl := hr.f3 g3
      intro hK
      rw [if_pos (by rfl)]
      try simp only [Act.put, List.setIfInBounds_toArray, List.set_cons_zero, List.set_cons_succ]
      have hsl := slice_b3 (w.heap.size + 2) w'
      go_simp
      exact hK.out _ _ (fun j => if j = 4 then true else ℓ j) ⟨x32, x33, x34, (.slice (some ⟨w.heap.size + 2, 0, none⟩) 3 3), (.slice (some ⟨w.heap.size + 2, 1, none⟩) 2 2), x37, x38, x39, x7, (by simp only [Act.put, List.setIfInBounds_toArray, List.set_cons_zero, List.set_cons_succ]), ⟨(fun g => ⟨(hr.cs g).1, (hr.cs g).2.1, (hr.cs g).2.2.1, (hr.cs g).2.2.2.1, rfl, (hr.cs g).2.2.2.2.2.1, (hr.cs g).2.2.2.2.2.2.1, (hr.cs g).2.2.2.2.2.2.2.1, trivial⟩), hr.gb, hr.pre, hr.r0, hr.r1, hr.f0, hr.f1, hr.f2, hr.f3, (fun _ => rfl), hr.f5, hr.f6, hr.f7, hr.f9⟩⟩ (if_pos rfl) (fun j hj => if_neg hj)
    · revert hK
      obtain rfl := Option.some.inj ho
      have g1 : ℓ 1 = true := hdep { on := 1, ground := Ground.data } (by simp) rfl
      have g2 : ℓ 2 = true := hdep { on := 2, ground := Ground.data } (by simp) rfl
      have g4 : ℓ 4 = true := hdep { on := 4, ground := Ground.data } (by simp) rfl
      clear hdep ho
      have hl : ℓ 8 = false := by
        cases h7 : ℓ 8
        · rfl
        · have := (hr.cs h7).2.2.2.2.2.1; rw [this] at hL; cases hL
      have hgb : Below (((w1.alloc (.cells #[.int .i64 0, .nilFunc] 136)).setRow w1.heap.size #[.int .i64 2, .func (.func 78) #[] #[]])).heap.size (((w1.alloc (.cells #[.int .i64 0, .nilFunc] 136)).setRow w1.heap.size #[.int .i64 2, .func (.func 78) #[] #[]])) w' := hr.pre hl
      obtain rfl := hr.f1 g1
      obtain rfl := hr.f2 g2
      obtain rfl := hr.f4 g4
      intro hK
      rw [if_pos (by rfl)]
      try simp only [Act.put, List.setIfInBounds_toArray, List.set_cons_zero, List.set_cons_succ]
      go_simp
      refine Calls.mono (HRD.out _ hgb) ?_
      rintro e w9 ⟨rfl, hb9⟩
      have hr9 := hr.below hb9 (Nat.le_trans HNW.out hgb.size)
      exact hK.out _ _ (fun j => if j = 5 then true else ℓ j) ⟨x32, (.func (.func 78) #[] #[]), (tbV t a), x35, (.slice (some ⟨w.heap.size + 2, 1, none⟩) 2 2), (.tuple #[.agg #[.int .i64 p1, .int .i64 p2, .int .u32 p3], .int .i64 p4]), x38, x39, x7, (by simp only [Act.put, List.setIfInBounds_toArray, List.set_cons_zero, List.set_cons_succ]), ⟨(fun g => ⟨(hr9.cs g).1, (hr9.cs g).2.1, (hr9.cs g).2.2.1, (hr9.cs g).2.2.2.1, (hr9.cs g).2.2.2.2.1, rfl, (hr9.cs g).2.2.2.2.2.2.1, (hr9.cs g).2.2.2.2.2.2.2.1, trivial⟩), hr9.gb, hr9.pre, hr9.r0, hr9.r1, hr9.f0, hr9.f1, hr9.f2, hr9.f3, hr9.f4, (fun _ => rfl), hr9.f6, hr9.f7, hr9.f9⟩⟩ (if_pos rfl) (fun j hj => if_neg hj)
    · revert hK
      obtain rfl := Option.some.inj ho
      have g5 : ℓ 5 = true := hdep { on := 5, ground := Ground.data } (by simp) rfl
      clear hdep ho
      obtain rfl := hr.f5 g5
      intro hK
      rw [if_pos (by rfl)]
      try simp only [Act.put, List.setIfInBounds_toArray, List.set_cons_zero, List.set_cons_succ]
      go_simp
      exact hK.out _ _ (fun j => if j = 6 then true else ℓ j) ⟨x32, x33, x34, x35, x36, (.tuple #[.agg #[.int .i64 p1, .int .i64 p2, .int .u32 p3], .int .i64 p4]), (.agg #[.int .i64 p1, .int .i64 p2, .int .u32 p3]), x39, x7, (by simp only [Act.put, List.setIfInBounds_toArray, List.set_cons_zero, List.set_cons_succ]), ⟨(fun g => ⟨(hr.cs g).1, (hr.cs g).2.1, (hr.cs g).2.2.1, (hr.cs g).2.2.2.1, (hr.cs g).2.2.2.2.1, (hr.cs g).2.2.2.2.2.1, rfl, (hr.cs g).2.2.2.2.2.2.2.1, trivial⟩), hr.gb, hr.pre, hr.r0, hr.r1, hr.f0, hr.f1, hr.f2, hr.f3, hr.f4, hr.f5, (fun _ => rfl), hr.f7, hr.f9⟩⟩ (if_pos rfl) (fun j hj => if_neg hj)
    · revert hK
      obtain rfl := Option.some.inj ho
      have g5 : ℓ 5 = true := hdep { on := 5, ground := Ground.data } (by simp) rfl
      clear hdep ho
      obtain rfl := hr.f5 g5
      intro hK
      rw [if_pos (by rfl)]
      try simp only [Act.put, List.setIfInBounds_toArray, List.set_cons_zero, List.set_cons_succ]
      go_simp
      exact hK.out _ _ (fun j => if j = 7 then true else ℓ j) ⟨x32, x33, x34, x35, x36, (.tuple #[.agg #[.int .i64 p1, .int .i64 p2, .int .u32 p3], .int .i64 p4]), x38, (.int .i64 p4), x7, (by simp only [Act.put, List.setIfInBounds_toArray, List.set_cons_zero, List.set_cons_succ]), ⟨(fun g => ⟨(hr.cs g).1, (hr.cs g).2.1, (hr.cs g).2.2.1, (hr.cs g).2.2.2.1, (hr.cs g).2.2.2.2.1, (hr.cs g).2.2.2.2.2.1, (hr.cs g).2.2.2.2.2.2.1, rfl, trivial⟩), hr.gb, hr.pre, hr.r0, hr.r1, hr.f0, hr.f1, hr.f2, hr.f3, hr.f4, hr.f5, hr.f6, (fun _ => rfl), hr.f9⟩⟩ (if_pos rfl) (fun j hj => if_neg hj)
    · replace ho : some ({ dst := none, op := .store 62 (.tmp 6) (.tmp 38), type := 0, pos := "l21_script.go:71", after := #[{ on := 6, ground := Ground.data }, { on := 5, ground := Ground.chain }, { on := 0, ground := Ground.phase }, { on := 1, ground := Ground.phase }, { on := 2, ground := Ground.phase }, { on := 3, ground := Ground.phase }, { on := 4, ground := Ground.phase }, { on := 5, ground := Ground.phase }, { on := 6, ground := Ground.phase }, { on := 7, ground := Ground.phase }], guard := none } : Oper) = some o := ho
      revert hK
      obtain rfl := Option.some.inj ho
      have g6 : ℓ 6 = true := hdep { on := 6, ground := Ground.data } (by simp) rfl
      have g0 : ℓ 0 = true := hdep { on := 0, ground := Ground.phase } (by simp) rfl
      have g1 : ℓ 1 = true := hdep { on := 1, ground := Ground.phase } (by simp) rfl
      have g2 : ℓ 2 = true := hdep { on := 2, ground := Ground.phase } (by simp) rfl
      have g3 : ℓ 3 = true := hdep { on := 3, ground := Ground.phase } (by simp) rfl
      have g4 : ℓ 4 = true := hdep { on := 4, ground := Ground.phase } (by simp) rfl
      have g5 : ℓ 5 = true := hdep { on := 5, ground := Ground.phase } (by simp) rfl
      have g7 : ℓ 7 = true := hdep { on := 7, ground := Ground.phase } (by simp) rfl
      clear hdep ho
      obtain rfl := hr.f6 g6
      intro hK
      rw [if_pos (by rfl)]
      try simp only [Act.put, List.setIfInBounds_toArray, List.set_cons_zero, List.set_cons_succ]
      refine wp_store_row (P := Tryz.prog) 62 (.tmp 6) (.tmp 38) rfl (w.heap.size + 1) (#[.int .i64 p1, .int .i64 p2, .int .u32 p3]) rfl rfl 62 (#[.int .i64 0, .int .i64 0, .int .u32 0]) (hr.r0 hL) (by kernel_rfl) rfl (by simp [Value.oneCell']) ?_
      exact hK.out _ _ (fun j => if j = 8 then true else ℓ j) ⟨x32, x33, x34, x35, x36, x37, (.agg #[.int .i64 p1, .int .i64 p2, .int .u32 p3]), x39, x7, (by simp only [Act.put, List.setIfInBounds_toArray, List.set_cons_zero, List.set_cons_succ]), ⟨(fun _ => ⟨g0, g1, g2, g3, g4, g5, g6, g7, trivial⟩), below_setRow hr.gb (Nat.le_refl _) _, (fun g => by cases g), (fun g => by cases g), (fun _ => setRow_heap _ _ _ _ _ _ (hr.r0 hL)), hr.f0, hr.f1, hr.f2, hr.f3, hr.f4, hr.f5, hr.f6, hr.f7, hr.f9⟩⟩ (if_pos rfl) (fun j hj => if_neg hj)
    · revert hK
      obtain rfl := Option.some.inj ho
      have g7 : ℓ 7 = true := hdep { on := 7, ground := Ground.data } (by simp) rfl
      clear hdep ho
      obtain rfl := hr.f7 g7
      intro hK
      rw [if_pos (by rfl)]
      try simp only [Act.put, List.setIfInBounds_toArray, List.set_cons_zero, List.set_cons_succ]
      go_simp
      exact hK.out _ _ (fun j => if j = 9 then true else ℓ j) ⟨x32, x33, x34, x35, x36, x37, x38, (.int .i64 p4), (.int .i64 p4), (by simp only [Act.put, List.setIfInBounds_toArray, List.set_cons_zero, List.set_cons_succ]), ⟨hr.cs, hr.gb, hr.pre, hr.r0, hr.r1, hr.f0, hr.f1, hr.f2, hr.f3, hr.f4, hr.f5, hr.f6, hr.f7, (fun _ => rfl)⟩⟩ (if_pos rfl) (fun j hj => if_neg hj)
  · rintro a' w' ℓ ℓ' hℓ hI
    rw [← show ℓ = ℓ' from funext hℓ]
    exact hI
set_option maxRecDepth 40000 in
set_option maxHeartbeats 8000000 in
theorem rc_isres (t : Tb) (a : Ad) (mb : Nat) (s : ByteArray) (n : Nat) (ws : List ByteArray) (w : World) (hrc : RC w t a mb s) (hws : Sp.texts 32 s = ws) (hn : ws.length = n) (hk0 : ws.getD 0 ⟨#[]⟩ = Sr.kres) (h2 : n = 2) (p1 p2 p3 p4 : Int) (hp : Sr.resP t (ws.getD 1 ⟨#[]⟩) = ((p1, p2, p3), p4)) :
    Calls Tryz.prog 48 #[tbV t a, .map (some mb), .string s] w fun e w' => e = .returned (.tuple #[.agg #[.int .i64 p1, .int .i64 p2, .int .u32 p3], .int .i64 p4]) ∧ Below w.heap.size w w' := by
  have HB0 : Hid (Below w.heap.size w ((w.alloc (.cells (tbA t a) 43)).alloc (.cells #[.int .i64 0, .int .i64 0, .int .u32 0] 62))) := ((Below.refl _ _).alloc (Nat.le_refl _) _).alloc (by simp) _
  have HX0 : Hid (TBx ((w.alloc (.cells (tbA t a) 43)).alloc (.cells #[.int .i64 0, .int .i64 0, .int .u32 0] 62)) w.heap.size t a) := (TBx.new w t a _ rfl).below ((Below.refl _ _).alloc (Nat.le_refl _) _)
  have HK0 : Hid (((w.alloc (.cells (tbA t a) 43)).alloc (.cells #[.int .i64 0, .int .i64 0, .int .u32 0] 62)).heap[w.heap.size + 1]? = some (.cells #[.int .i64 0, .int .i64 0, .int .u32 0] 62 (0, 0))) := new_row (w.alloc (.cells (tbA t a) 43)) #[.int .i64 0, .int .i64 0, .int .u32 0] 62 _ (by simp)
  have hnp : 0 < n := by rw [← hn, ← hws]; exact Sr.texts_pos 32 s
  have hnb : n ≤ 1048577 := by
    rw [← hn, ← hws]
    have h1 := Sp.cut_many 32 s.data.toList
    have h2 : s.data.toList.length = s.size := rfl
    have h3 := hrc.s
    unfold Sp.texts
    rw [List.length_map]
    omega
  have HSZ : Hid (∀ j, (ws.getD j ⟨#[]⟩).size ≤ 1048576) := fun j => by
    by_cases hj : j < ws.length
    · have h1 := Sr.texts_short 32 s (ws.getD j ⟨#[]⟩) (by rw [hws]; exact getD_in ws _ j hj)
      have := hrc.s
      omega
    · rw [List.getD_eq_getElem?_getD, List.getElem?_eq_none (by omega)]
      decide
  have HSL : Hid (Calls Tryz.prog 80 #[.string s, .string ⟨#[32]⟩] ((w.alloc (.cells (tbA t a) 43)).alloc (.cells #[.int .i64 0, .int .i64 0, .int .u32 0] 62)) fun e w' => e = .returned (.slice (some ⟨w.heap.size + 2, 0, none⟩) n n) ∧ (∀ j, j < n → w'.cell? ⟨w.heap.size + 2, j, none⟩ = some (.string (ws.getD j ⟨#[]⟩))) ∧ Below ((w.alloc (.cells (tbA t a) 43)).alloc (.cells #[.int .i64 0, .int .i64 0, .int .u32 0] 62)).heap.size ((w.alloc (.cells (tbA t a) 43)).alloc (.cells #[.int .i64 0, .int .i64 0, .int .u32 0] 62)) w') := (split_any 32 s ws ((w.alloc (.cells (tbA t a) 43)).alloc (.cells #[.int .i64 0, .int .i64 0, .int .u32 0] 62)) (hrc.x.below HB0.out) hrc.s hws).mono fun e w' h => by
    obtain ⟨h1, h2, h3, h4⟩ := h
    rw [hn] at h1
    have hsz2 : ((w.alloc (.cells (tbA t a) 43)).alloc (.cells #[.int .i64 0, .int .i64 0, .int .u32 0] 62)).heap.size = w.heap.size + 2 := by simp
    obtain ⟨b, off, h5, h6, h7⟩ := flds_at h3 0 (by omega)
    rw [hsz2] at h1 h5
    cases h5
    exact ⟨h1, fun j hj => by have := h7 j (by omega); simpa using this, h2⟩
  have HRC : Hid (∀ X, Below w.heap.size w X → RC X t a mb s) := fun X hX => hrc.below hX
  clear hrc hws
  subst h2
  go_enter Tryz.func48, Tryz.ntmps48
  go_wp2_with fail
  refine Calls.mono HSL.out ?_
  rintro e w1 ⟨rfl, hcl, hb1⟩
  have HBQ : Hid (Below w.heap.size w w1) := HB0.out.trans (hb1.mono HB0.out.size)
  have HNR : Hid ((w1.alloc (.cells #[.int .i64 0, .nilFunc] 136)).heap[w1.heap.size]? = some (.cells #[.int .i64 0, .nilFunc] 136 (0, 0))) := new_row w1 _ _ _ rfl
  have hba : Below w1.heap.size w1 ((w1.alloc (.cells #[.int .i64 0, .nilFunc] 136)).setRow w1.heap.size #[.int .i64 1, .func (.func 79) #[] #[]]) := below_setRow ((Below.refl _ _).alloc (Nat.le_refl _) _) (Nat.le_refl _) _
  have hbt : Below ((w.alloc (.cells (tbA t a) 43)).alloc (.cells #[.int .i64 0, .int .i64 0, .int .u32 0] 62)).heap.size ((w.alloc (.cells (tbA t a) 43)).alloc (.cells #[.int .i64 0, .int .i64 0, .int .u32 0] 62)) ((w1.alloc (.cells #[.int .i64 0, .nilFunc] 136)).setRow w1.heap.size #[.int .i64 1, .func (.func 79) #[] #[]]) := hb1.trans (hba.mono hb1.size)
  have HB1 : Hid (Below w.heap.size w ((w1.alloc (.cells #[.int .i64 0, .nilFunc] 136)).setRow w1.heap.size #[.int .i64 1, .func (.func 79) #[] #[]])) := HB0.out.trans (hbt.mono HB0.out.size)
  have HX1 : Hid (TBx ((w1.alloc (.cells #[.int .i64 0, .nilFunc] 136)).setRow w1.heap.size #[.int .i64 1, .func (.func 79) #[] #[]]) w.heap.size t a) := HX0.out.below hbt
  have HR2 : Hid (((w1.alloc (.cells #[.int .i64 0, .nilFunc] 136)).setRow w1.heap.size #[.int .i64 1, .func (.func 79) #[] #[]]).heap[w.heap.size + 1]? = some (.cells #[.int .i64 0, .int .i64 0, .int .u32 0] 62 (0, 0))) := row_below HK0.out hbt
  have HRB : Hid (((w1.alloc (.cells #[.int .i64 0, .nilFunc] 136)).setRow w1.heap.size #[.int .i64 1, .func (.func 79) #[] #[]]).heap[w1.heap.size]? = some (.cells #[.int .i64 1, .func (.func 79) #[] #[]] 136 (0, 0))) := setRow_heap _ _ _ _ _ _ HNR.out
  have hbw : w.heap.size + 2 < w1.heap.size := by
    have := World.block_lt_of_cell? w1 _ (hcl 0 (by omega))
    exact this
  have z0 : ((w1.alloc (.cells #[.int .i64 0, .nilFunc] 136)).setRow w1.heap.size #[.int .i64 1, .func (.func 79) #[] #[]]).cell? ⟨w1.heap.size, 0, none⟩ = some (.int .i64 1) := row_c HRB.out 0 _ rfl
  have hv0 : w1.cell? ⟨w.heap.size + 2, 0, none⟩ = some (.string (ws.getD 0 ⟨#[]⟩)) := hcl 0 (by omega)
  have HCL : Hid (∀ j, j < 2 → ((w1.alloc (.cells #[.int .i64 0, .nilFunc] 136)).setRow w1.heap.size #[.int .i64 1, .func (.func 79) #[] #[]]).cell? ⟨w.heap.size + 2, j, none⟩ = some (.string (ws.getD j ⟨#[]⟩))) := fun j hj => cell_kept hba (hcl j hj)
  have hlk := look_res (HRC.out _ HBQ.out).r
  rw [hk0] at hv0
  have hwn : IntKind.i64.wrap (1 + 1) = 2 := by decide
  clear hb1 hba hbt HB0 HX0 HK0 HSL hcl
  have HFG : Hid (∀ X, Below ((w1.alloc (.cells #[.int .i64 0, .nilFunc] 136)).setRow w1.heap.size #[.int .i64 1, .func (.func 79) #[] #[]]).heap.size ((w1.alloc (.cells #[.int .i64 0, .nilFunc] 136)).setRow w1.heap.size #[.int .i64 1, .func (.func 79) #[] #[]]) X → X.cell? ⟨w1.heap.size, 1, none⟩ = some (.func (.func 79) #[] #[])) := fun X hX => row_c (row_below HRB.out hX) 1 _ rfl
  have HXG : Hid (∀ X, Below ((w1.alloc (.cells #[.int .i64 0, .nilFunc] 136)).setRow w1.heap.size #[.int .i64 1, .func (.func 79) #[] #[]]).heap.size ((w1.alloc (.cells #[.int .i64 0, .nilFunc] 136)).setRow w1.heap.size #[.int .i64 1, .func (.func 79) #[] #[]]) X → X.heap[w.heap.size]? = some (.cells (tbA t a) 43 (0, 0))) := fun X hX => HX1.out.below hX
  have HCG : Hid (∀ X, Below ((w1.alloc (.cells #[.int .i64 0, .nilFunc] 136)).setRow w1.heap.size #[.int .i64 1, .func (.func 79) #[] #[]]).heap.size ((w1.alloc (.cells #[.int .i64 0, .nilFunc] 136)).setRow w1.heap.size #[.int .i64 1, .func (.func 79) #[] #[]]) X → ∀ j, j < 2 → X.cell? ⟨w.heap.size + 2, j, none⟩ = some (.string (ws.getD j ⟨#[]⟩))) := fun X hX j hj => cell_kept hX (HCL.out j hj)
  have HRD : Hid (∀ X, Below ((w1.alloc (.cells #[.int .i64 0, .nilFunc] 136)).setRow w1.heap.size #[.int .i64 1, .func (.func 79) #[] #[]]).heap.size ((w1.alloc (.cells #[.int .i64 0, .nilFunc] 136)).setRow w1.heap.size #[.int .i64 1, .func (.func 79) #[] #[]]) X → Calls Tryz.prog 79 #[tbV t a, .slice (some ⟨w.heap.size + 2, 1, none⟩) 1 1] X fun e w' => e = .returned (.tuple #[.agg #[.int .i64 p1, .int .i64 p2, .int .u32 p3], .int .i64 p4]) ∧ Below X.heap.size X w') := fun X hgb => by
    have h := read_res t a (w.heap.size + 2) 1 1 (ws.getD 1 ⟨#[]⟩) _ (HRC.out _ (HB1.out.trans (hgb.mono HB1.out.size))).m (HRC.out _ HB1.out).tw (HCG.out _ hgb 1 (by omega)) (HSZ.out 1)
    rw [hp] at h
    exact h
  have HNW : Hid (w.heap.size + 1 ≤ ((w1.alloc (.cells #[.int .i64 0, .nilFunc] 136)).setRow w1.heap.size #[.int .i64 1, .func (.func 79) #[] #[]]).heap.size) := by show _ ≤ _; simp; omega
  have HRZ : Hid (((w1.alloc (.cells #[.int .i64 0, .nilFunc] 136)).setRow w1.heap.size #[.int .i64 1, .func (.func 79) #[] #[]]).heap[w.heap.size + 1]? = some (.cells #[.int .i64 0, .int .i64 0, .int .u32 0] 62 (0, 0))) := HR2.out
  clear HRC HCG HCL HRB HX1 HR2 hnb hnp HSZ HBQ
  go_wp2_with (first | (refine wpList_store_row rfl 136 (.tmp 9) (.tmp 19) rfl w1.heap.size #[.int .i64 1, .func (.func 79) #[] #[]] rfl rfl 136 #[.int .i64 0, .nilFunc] HNR.out (by kernel_rfl) rfl (by simp [Value.oneCell']) ?_) | fail)
  refine wp_region_inv (by kernel_rfl) (by kernel_rfl) (fun A ℓ a' w' => ∃ (x32 x33 x34 x35 x36 x37 x38 x39 x7 : Value), a' = (((((((((A.put (some 32) x32).put (some 33) x33).put (some 34) x34).put (some 35) x35).put (some 36) x36).put (some 37) x37).put (some 38) x38).put (some 39) x39).put (some 7) x7) ∧ Rcres (((w1.alloc (.cells #[.int .i64 0, .nilFunc] 136)).setRow w1.heap.size #[.int .i64 1, .func (.func 79) #[] #[]])) (#[.int .i64 0, .int .i64 0, .int .u32 0]) (#[.int .i64 p1, .int .i64 p2, .int .u32 p3]) (w.heap.size + 1) (.pointer (some ⟨w1.heap.size, 1, none⟩)) (.func (.func 79) #[] #[]) (tbV t a) (.slice (some ⟨w.heap.size + 2, 0, none⟩) 2 2) (.slice (some ⟨w.heap.size + 2, 1, none⟩) 1 1) (.tuple #[.agg #[.int .i64 p1, .int .i64 p2, .int .u32 p3], .int .i64 p4]) (.agg #[.int .i64 p1, .int .i64 p2, .int .u32 p3]) (.int .i64 p4) w' (ℓ 0) (ℓ 1) (ℓ 2) (ℓ 3) (ℓ 4) (ℓ 5) (ℓ 6) (ℓ 7) (ℓ 8) (ℓ 9) x32 x33 x34 x35 x36 x37 x38 x39 x7) ?_ ?_ ?_ ?_
  · exact ⟨undef, undef, undef, undef, undef, undef, undef, undef, (.int .i64 0), (by simp only [Act.put, List.setIfInBounds_toArray, List.set_cons_zero, List.set_cons_succ]), ⟨(fun g => by cases g), ((Below.refl _ _).mono HNW.out).drew, (fun _ => (Below.refl _ _).drew), (fun _ => HRZ.out), (fun g => by cases g), (fun g => by cases g), (fun g => by cases g), (fun g => by cases g), (fun g => by cases g), (fun g => by cases g), (fun g => by cases g), (fun g => by cases g), (fun g => by cases g), (fun g => by cases g)⟩⟩
  · intro ℓ a' w' hI hall
    obtain ⟨x32, x33, x34, x35, x36, x37, x38, x39, x7, rfl, hr⟩ := hI
    have hall' : ∀ i, i < 10 → ℓ i = true := hall
    obtain rfl := hr.f0 (hall' 0 (by decide))
    obtain rfl := hr.f1 (hall' 1 (by decide))
    obtain rfl := hr.f2 (hall' 2 (by decide))
    obtain rfl := hr.f3 (hall' 3 (by decide))
    obtain rfl := hr.f4 (hall' 4 (by decide))
    obtain rfl := hr.f5 (hall' 5 (by decide))
    obtain rfl := hr.f6 (hall' 6 (by decide))
    obtain rfl := hr.f7 (hall' 7 (by decide))
    obtain rfl := hr.f9 (hall' 9 (by decide))
    have hrow := hr.r1 (hall' 8 (by decide))
    have hgb := hr.gb
    clear hall hall' hr
    simp only [Act.put, List.setIfInBounds_toArray, List.set_cons_zero, List.set_cons_succ]
    have n0 : w'.cell? ⟨w.heap.size + 1, 0, none⟩ = some (.int .i64 p1) := row_c hrow 0 _ rfl
    have n1 : w'.cell? ⟨w.heap.size + 1, 1, none⟩ = some (.int .i64 p2) := row_c hrow 1 _ rfl
    have n2 : w'.cell? ⟨w.heap.size + 1, 2, none⟩ = some (.int .u32 p3) := row_c hrow 2 _ rfl
    have HBF : Hid (Below w.heap.size w w') := HB1.out.trans (hgb.mono (by omega))
    clear hrow hgb
    go_wp2
    exact bodyPost_ret (v := .tuple #[.agg #[.int .i64 p1, .int .i64 p2, .int .u32 p3], .int .i64 p4]) (by simp [results, Tryz.results48, go_sem, n0, n1, n2]) rfl ⟨rfl, HBF.out⟩
  · intro ℓ a' w' i o hI ho hi hL hdep K hK
    obtain ⟨x32, x33, x34, x35, x36, x37, x38, x39, x7, rfl, hr⟩ := hI
    have hi7 : i < 10 := hi
    have hcs : i = 0 ∨ i = 1 ∨ i = 2 ∨ i = 3 ∨ i = 4 ∨ i = 5 ∨ i = 6 ∨ i = 7 ∨ i = 8 ∨ i = 9 := by omega
    clear hi hi7
    rcases hcs with rfl | rfl | rfl | rfl | rfl | rfl | rfl | rfl | rfl | rfl
    · revert hK
      obtain rfl := Option.some.inj ho
      clear hdep ho
      intro hK
      rw [if_pos (by rfl)]
      try simp only [Act.put, List.setIfInBounds_toArray, List.set_cons_zero, List.set_cons_succ]
      go_simp
      exact hK.out _ _ (fun j => if j = 0 then true else ℓ j) ⟨(.pointer (some ⟨w1.heap.size, 1, none⟩)), x33, x34, x35, x36, x37, x38, x39, x7, (by simp only [Act.put, List.setIfInBounds_toArray, List.set_cons_zero, List.set_cons_succ]), ⟨(fun g => ⟨rfl, (hr.cs g).2.1, (hr.cs g).2.2.1, (hr.cs g).2.2.2.1, (hr.cs g).2.2.2.2.1, (hr.cs g).2.2.2.2.2.1, (hr.cs g).2.2.2.2.2.2.1, (hr.cs g).2.2.2.2.2.2.2.1, trivial⟩), hr.gb, hr.pre, hr.r0, hr.r1, (fun _ => rfl), hr.f1, hr.f2, hr.f3, hr.f4, hr.f5, hr.f6, hr.f7, hr.f9⟩⟩ (if_pos rfl) (fun j hj => if_neg hj)
    · revert hK
      obtain rfl := Option.some.inj ho
      have g0 : ℓ 0 = true := hdep { on := 0, ground := Ground.data } (by simp) rfl
      clear hdep ho
      have hl : ℓ 8 = false := by
        cases h7 : ℓ 8
        · rfl
        · have := (hr.cs h7).2.1; rw [this] at hL; cases hL
      have hgb : Below (((w1.alloc (.cells #[.int .i64 0, .nilFunc] 136)).setRow w1.heap.size #[.int .i64 1, .func (.func 79) #[] #[]])).heap.size (((w1.alloc (.cells #[.int .i64 0, .nilFunc] 136)).setRow w1.heap.size #[.int .i64 1, .func (.func 79) #[] #[]])) w' := hr.pre hl
      obtain rfl := hr.f0 g0
      intro hK
      rw [if_pos (by rfl)]
      try simp only [Act.put, List.setIfInBounds_toArray, List.set_cons_zero, List.set_cons_succ]
      have cc := HFG.out _ hgb
      go_simp
      exact hK.out _ _ (fun j => if j = 1 then true else ℓ j) ⟨(.pointer (some ⟨w1.heap.size, 1, none⟩)), (.func (.func 79) #[] #[]), x34, x35, x36, x37, x38, x39, x7, (by simp only [Act.put, List.setIfInBounds_toArray, List.set_cons_zero, List.set_cons_succ]), ⟨(fun g => ⟨(hr.cs g).1, rfl, (hr.cs g).2.2.1, (hr.cs g).2.2.2.1, (hr.cs g).2.2.2.2.1, (hr.cs g).2.2.2.2.2.1, (hr.cs g).2.2.2.2.2.2.1, (hr.cs g).2.2.2.2.2.2.2.1, trivial⟩), hr.gb, hr.pre, hr.r0, hr.r1, hr.f0, (fun _ => rfl), hr.f2, hr.f3, hr.f4, hr.f5, hr.f6, hr.f7, hr.f9⟩⟩ (if_pos rfl) (fun j hj => if_neg hj)
    · replace ho : some ({ dst := some 34, op := .load 43 (.tmp 3), type := 43, pos := "l21_script.go:71", after := #[], guard := none } : Oper) = some o := ho
      revert hK
      obtain rfl := Option.some.inj ho
      clear hdep ho
      have hl : ℓ 8 = false := by
        cases h7 : ℓ 8
        · rfl
        · have := (hr.cs h7).2.2.1; rw [this] at hL; cases hL
      have hgb : Below (((w1.alloc (.cells #[.int .i64 0, .nilFunc] 136)).setRow w1.heap.size #[.int .i64 1, .func (.func 79) #[] #[]])).heap.size (((w1.alloc (.cells #[.int .i64 0, .nilFunc] 136)).setRow w1.heap.size #[.int .i64 1, .func (.func 79) #[] #[]])) w' := hr.pre hl
      intro hK
      rw [if_pos (by rfl)]
      try simp only [Act.put, List.setIfInBounds_toArray, List.set_cons_zero, List.set_cons_succ]
      refine wp_load_row (P := Tryz.prog) 43 (.tmp 3) rfl w.heap.size rfl 43 (tbA t a) (0, 0) _ (HXG.out _ hgb) Tryz.underlying43 rfl (by kernel_rfl) ?_
      exact hK.out _ _ (fun j => if j = 2 then true else ℓ j) ⟨x32, x33, (tbV t a), x35, x36, x37, x38, x39, x7, (by simp only [Act.put, List.setIfInBounds_toArray, List.set_cons_zero, List.set_cons_succ]), ⟨(fun g => ⟨(hr.cs g).1, (hr.cs g).2.1, rfl, (hr.cs g).2.2.2.1, (hr.cs g).2.2.2.2.1, (hr.cs g).2.2.2.2.2.1, (hr.cs g).2.2.2.2.2.2.1, (hr.cs g).2.2.2.2.2.2.2.1, trivial⟩), hr.gb, hr.pre, hr.r0, hr.r1, hr.f0, hr.f1, (fun _ => rfl), hr.f3, hr.f4, hr.f5, hr.f6, hr.f7, hr.f9⟩⟩ (if_pos rfl) (fun j hj => if_neg hj)
    · revert hK
      obtain rfl := Option.some.inj ho
      clear hdep ho
      intro hK
      rw [if_pos (by rfl)]
      try simp only [Act.put, List.setIfInBounds_toArray, List.set_cons_zero, List.set_cons_succ]
      go_simp
      exact hK.out _ _ (fun j => if j = 3 then true else ℓ j) ⟨x32, x33, x34, (.slice (some ⟨w.heap.size + 2, 0, none⟩) 2 2), x36, x37, x38, x39, x7, (by simp only [Act.put, List.setIfInBounds_toArray, List.set_cons_zero, List.set_cons_succ]), ⟨(fun g => ⟨(hr.cs g).1, (hr.cs g).2.1, (hr.cs g).2.2.1, rfl, (hr.cs g).2.2.2.2.1, (hr.cs g).2.2.2.2.2.1, (hr.cs g).2.2.2.2.2.2.1, (hr.cs g).2.2.2.2.2.2.2.1, trivial⟩), hr.gb, hr.pre, hr.r0, hr.r1, hr.f0, hr.f1, hr.f2, (fun _ => rfl), hr.f4, hr.f5, hr.f6, hr.f7, hr.f9⟩⟩ (if_pos rfl) (fun j hj => if_neg hj)
    · revert hK
      obtain rfl := Option.some.inj ho
      have g3 : ℓ 3 = true := hdep { on := 3, ground := Ground.data } (by simp) rfl
      clear hdep ho
      obtain rfl := hr.f3 g3
      intro hK
      rw [if_pos (by rfl)]
      try simp only [Act.put, List.setIfInBounds_toArray, List.set_cons_zero, List.set_cons_succ]
      have hsl := slice_b2 (w.heap.size + 2) w'
      go_simp
      exact hK.out _ _ (fun j => if j = 4 then true else ℓ j) ⟨x32, x33, x34, (.slice (some ⟨w.heap.size + 2, 0, none⟩) 2 2), (.slice (some ⟨w.heap.size + 2, 1, none⟩) 1 1), x37, x38, x39, x7, (by simp only [Act.put, List.setIfInBounds_toArray, List.set_cons_zero, List.set_cons_succ]), ⟨(fun g => ⟨(hr.cs g).1, (hr.cs g).2.1, (hr.cs g).2.2.1, (hr.cs g).2.2.2.1, rfl, (hr.cs g).2.2.2.2.2.1, (hr.cs g).2.2.2.2.2.2.1, (hr.cs g).2.2.2.2.2.2.2.1, trivial⟩), hr.gb, hr.pre, hr.r0, hr.r1, hr.f0, hr.f1, hr.f2, hr.f3, (fun _ => rfl), hr.f5, hr.f6, hr.f7, hr.f9⟩⟩ (if_pos rfl) (fun j hj => if_neg hj)
    · revert hK
      obtain rfl := Option.some.inj ho
      have g1 : ℓ 1 = true := hdep { on := 1, ground := Ground.data } (by simp) rfl
      have g2 : ℓ 2 = true := hdep { on := 2, ground := Ground.data } (by simp) rfl
      have g4 : ℓ 4 = true := hdep { on := 4, ground := Ground.data } (by simp) rfl
      clear hdep ho
      have hl : ℓ 8 = false := by
        cases h7 : ℓ 8
        · rfl
        · have := (hr.cs h7).2.2.2.2.2.1; rw [this] at hL; cases hL
      have hgb : Below (((w1.alloc (.cells #[.int .i64 0, .nilFunc] 136)).setRow w1.heap.size #[.int .i64 1, .func (.func 79) #[] #[]])).heap.size (((w1.alloc (.cells #[.int .i64 0, .nilFunc] 136)).setRow w1.heap.size #[.int .i64 1, .func (.func 79) #[] #[]])) w' := hr.pre hl
      obtain rfl := hr.f1 g1
      obtain rfl := hr.f2 g2
      obtain rfl := hr.f4 g4
      intro hK
      rw [if_pos (by rfl)]
      try simp only [Act.put, List.setIfInBounds_toArray, List.set_cons_zero, List.set_cons_succ]
      go_simp
      refine Calls.mono (HRD.out _ hgb) ?_
      rintro e w9 ⟨rfl, hb9⟩
      have hr9 := hr.below hb9 (Nat.le_trans HNW.out hgb.size)
      exact hK.out _ _ (fun j => if j = 5 then true else ℓ j) ⟨x32, (.func (.func 79) #[] #[]), (tbV t a), x35, (.slice (some ⟨w.heap.size + 2, 1, none⟩) 1 1), (.tuple #[.agg #[.int .i64 p1, .int .i64 p2, .int .u32 p3], .int .i64 p4]), x38, x39, x7, (by simp only [Act.put, List.setIfInBounds_toArray, List.set_cons_zero, List.set_cons_succ]), ⟨(fun g => ⟨(hr9.cs g).1, (hr9.cs g).2.1, (hr9.cs g).2.2.1, (hr9.cs g).2.2.2.1, (hr9.cs g).2.2.2.2.1, rfl, (hr9.cs g).2.2.2.2.2.2.1, (hr9.cs g).2.2.2.2.2.2.2.1, trivial⟩), hr9.gb, hr9.pre, hr9.r0, hr9.r1, hr9.f0, hr9.f1, hr9.f2, hr9.f3, hr9.f4, (fun _ => rfl), hr9.f6, hr9.f7, hr9.f9⟩⟩ (if_pos rfl) (fun j hj => if_neg hj)
    · revert hK
      obtain rfl := Option.some.inj ho
      have g5 : ℓ 5 = true := hdep { on := 5, ground := Ground.data } (by simp) rfl
      clear hdep ho
      obtain rfl := hr.f5 g5
      intro hK
      rw [if_pos (by rfl)]
      try simp only [Act.put, List.setIfInBounds_toArray, List.set_cons_zero, List.set_cons_succ]
      go_simp
      exact hK.out _ _ (fun j => if j = 6 then true else ℓ j) ⟨x32, x33, x34, x35, x36, (.tuple #[.agg #[.int .i64 p1, .int .i64 p2, .int .u32 p3], .int .i64 p4]), (.agg #[.int .i64 p1, .int .i64 p2, .int .u32 p3]), x39, x7, (by simp only [Act.put, List.setIfInBounds_toArray, List.set_cons_zero, List.set_cons_succ]), ⟨(fun g => ⟨(hr.cs g).1, (hr.cs g).2.1, (hr.cs g).2.2.1, (hr.cs g).2.2.2.1, (hr.cs g).2.2.2.2.1, (hr.cs g).2.2.2.2.2.1, rfl, (hr.cs g).2.2.2.2.2.2.2.1, trivial⟩), hr.gb, hr.pre, hr.r0, hr.r1, hr.f0, hr.f1, hr.f2, hr.f3, hr.f4, hr.f5, (fun _ => rfl), hr.f7, hr.f9⟩⟩ (if_pos rfl) (fun j hj => if_neg hj)
    · revert hK
      obtain rfl := Option.some.inj ho
      have g5 : ℓ 5 = true := hdep { on := 5, ground := Ground.data } (by simp) rfl
      clear hdep ho
      obtain rfl := hr.f5 g5
      intro hK
      rw [if_pos (by rfl)]
      try simp only [Act.put, List.setIfInBounds_toArray, List.set_cons_zero, List.set_cons_succ]
      go_simp
      exact hK.out _ _ (fun j => if j = 7 then true else ℓ j) ⟨x32, x33, x34, x35, x36, (.tuple #[.agg #[.int .i64 p1, .int .i64 p2, .int .u32 p3], .int .i64 p4]), x38, (.int .i64 p4), x7, (by simp only [Act.put, List.setIfInBounds_toArray, List.set_cons_zero, List.set_cons_succ]), ⟨(fun g => ⟨(hr.cs g).1, (hr.cs g).2.1, (hr.cs g).2.2.1, (hr.cs g).2.2.2.1, (hr.cs g).2.2.2.2.1, (hr.cs g).2.2.2.2.2.1, (hr.cs g).2.2.2.2.2.2.1, rfl, trivial⟩), hr.gb, hr.pre, hr.r0, hr.r1, hr.f0, hr.f1, hr.f2, hr.f3, hr.f4, hr.f5, hr.f6, (fun _ => rfl), hr.f9⟩⟩ (if_pos rfl) (fun j hj => if_neg hj)
    · replace ho : some ({ dst := none, op := .store 62 (.tmp 6) (.tmp 38), type := 0, pos := "l21_script.go:71", after := #[{ on := 6, ground := Ground.data }, { on := 5, ground := Ground.chain }, { on := 0, ground := Ground.phase }, { on := 1, ground := Ground.phase }, { on := 2, ground := Ground.phase }, { on := 3, ground := Ground.phase }, { on := 4, ground := Ground.phase }, { on := 5, ground := Ground.phase }, { on := 6, ground := Ground.phase }, { on := 7, ground := Ground.phase }], guard := none } : Oper) = some o := ho
      revert hK
      obtain rfl := Option.some.inj ho
      have g6 : ℓ 6 = true := hdep { on := 6, ground := Ground.data } (by simp) rfl
      have g0 : ℓ 0 = true := hdep { on := 0, ground := Ground.phase } (by simp) rfl
      have g1 : ℓ 1 = true := hdep { on := 1, ground := Ground.phase } (by simp) rfl
      have g2 : ℓ 2 = true := hdep { on := 2, ground := Ground.phase } (by simp) rfl
      have g3 : ℓ 3 = true := hdep { on := 3, ground := Ground.phase } (by simp) rfl
      have g4 : ℓ 4 = true := hdep { on := 4, ground := Ground.phase } (by simp) rfl
      have g5 : ℓ 5 = true := hdep { on := 5, ground := Ground.phase } (by simp) rfl
      have g7 : ℓ 7 = true := hdep { on := 7, ground := Ground.phase } (by simp) rfl
      clear hdep ho
      obtain rfl := hr.f6 g6
      intro hK
      rw [if_pos (by rfl)]
      try simp only [Act.put, List.setIfInBounds_toArray, List.set_cons_zero, List.set_cons_succ]
      refine wp_store_row (P := Tryz.prog) 62 (.tmp 6) (.tmp 38) rfl (w.heap.size + 1) (#[.int .i64 p1, .int .i64 p2, .int .u32 p3]) rfl rfl 62 (#[.int .i64 0, .int .i64 0, .int .u32 0]) (hr.r0 hL) (by kernel_rfl) rfl (by simp [Value.oneCell']) ?_
      exact hK.out _ _ (fun j => if j = 8 then true else ℓ j) ⟨x32, x33, x34, x35, x36, x37, (.agg #[.int .i64 p1, .int .i64 p2, .int .u32 p3]), x39, x7, (by simp only [Act.put, List.setIfInBounds_toArray, List.set_cons_zero, List.set_cons_succ]), ⟨(fun _ => ⟨g0, g1, g2, g3, g4, g5, g6, g7, trivial⟩), below_setRow hr.gb (Nat.le_refl _) _, (fun g => by cases g), (fun g => by cases g), (fun _ => setRow_heap _ _ _ _ _ _ (hr.r0 hL)), hr.f0, hr.f1, hr.f2, hr.f3, hr.f4, hr.f5, hr.f6, hr.f7, hr.f9⟩⟩ (if_pos rfl) (fun j hj => if_neg hj)
    · revert hK
      obtain rfl := Option.some.inj ho
      have g7 : ℓ 7 = true := hdep { on := 7, ground := Ground.data } (by simp) rfl
      clear hdep ho
      obtain rfl := hr.f7 g7
      intro hK
      rw [if_pos (by rfl)]
      try simp only [Act.put, List.setIfInBounds_toArray, List.set_cons_zero, List.set_cons_succ]
      go_simp
      exact hK.out _ _ (fun j => if j = 9 then true else ℓ j) ⟨x32, x33, x34, x35, x36, x37, x38, (.int .i64 p4), (.int .i64 p4), (by simp only [Act.put, List.setIfInBounds_toArray, List.set_cons_zero, List.set_cons_succ]), ⟨hr.cs, hr.gb, hr.pre, hr.r0, hr.r1, hr.f0, hr.f1, hr.f2, hr.f3, hr.f4, hr.f5, hr.f6, hr.f7, (fun _ => rfl)⟩⟩ (if_pos rfl) (fun j hj => if_neg hj)
  · rintro a' w' ℓ ℓ' hℓ hI
    rw [← show ℓ = ℓ' from funext hℓ]
    exact hI
theorem read_cmd (t : Tb) (a : Ad) (mb : Nat) (s : ByteArray) (w : World) (hrc : RC w t a mb s) :
    Calls Tryz.prog 48 #[tbV t a, .map (some mb), .string s] w fun e w' => e = .returned (.tuple #[cmV (Sr.wordsP t (Sp.texts 32 s)).1, .int .i64 (Sr.wordsP t (Sp.texts 32 s)).2]) ∧ Below w.heap.size w w' := by
  obtain ⟨ws, hws⟩ : ∃ ws, Sp.texts 32 s = ws := ⟨_, rfl⟩
  rw [hws]
  unfold Sr.wordsP
  by_cases h0 : ws.getD 0 ⟨#[]⟩ = Sr.krun
  · by_cases h2 : ws.length = 2
    · rw [if_pos ⟨h0, h2⟩]
      exact rc_isrun t a mb s _ ws w hrc hws rfl h0 h2 _ _ _ _ rfl
    · rw [if_neg (fun h => h2 h.2), if_neg (fun h => run_inp (h0.symm.trans h.1)), if_neg (fun h => run_res (h0.symm.trans h.1))]
      exact rc_nonrun t a mb s _ ws w hrc hws rfl h0 h2
  rw [if_neg (fun h => h0 h.1)]
  by_cases h1 : ws.getD 0 ⟨#[]⟩ = Sr.kinp
  · by_cases h2 : ws.length = 3
    · rw [if_pos ⟨h1, h2⟩]
      exact rc_isinp t a mb s _ ws w hrc hws rfl h1 h2 _ _ _ _ rfl
    · rw [if_neg (fun h => h2 h.2), if_neg (fun h => inp_res (h1.symm.trans h.1))]
      exact rc_noninp t a mb s _ ws w hrc hws rfl h1 h2
  rw [if_neg (fun h => h1 h.1)]
  by_cases h2 : ws.getD 0 ⟨#[]⟩ = Sr.kres
  · by_cases h3 : ws.length = 2
    · rw [if_pos ⟨h2, h3⟩]
      exact rc_isres t a mb s _ ws w hrc hws rfl h2 h3 _ _ _ _ rfl
    · rw [if_neg (fun h => h3 h.2)]
      exact rc_nonres t a mb s _ ws w hrc hws rfl h2 h3
  · rw [if_neg (fun h => h2 h.1)]
    exact rc_non0 t a mb s _ ws w hrc hws rfl h0 h1 h2
end Go.Proofs.YtmnoghhdkdjnmaaGreatDoor
