
/-
  A search by halves through a function value, and the first slot of which something is so: the program's own functions. Conditions: the slots lie in memory; what is asked is so of all slots from one on.
-/
import Derived.Test.YtlomcdgfcocmmaaGreatDoorBas
import Derived.Test.YtlomcdgfcocmmaaGreatDoorTia
import Derived.Test.YtlomcdgfcocmmaaGreatDoorClo6
namespace Go.Proofs.YtlomcdgfcocmmaaGreatDoor
open Go.ChangeShapes Go.WideShapes Go.ChangeAt Go.RowKit Go.Deep Go.Joins
set_option linter.unusedVariables false

set_option maxRecDepth 40000 in
set_option maxHeartbeats 4000000 in
theorem search_any (n r : Nat) (fid : Nat) (caps : Array Value) (w : World) (hn : n ≤ 1048576) (hr : r ≤ n) (hen : ∀ args (v : World), (callFunc fid args).run Tryz.prog v = .ok (.enter fid args) v)
    (hf : ∀ k, k < n → ∀ X, Below w.heap.size w X → Calls Tryz.prog fid (#[.int .i64 ((k : Nat) : Int)] ++ caps) X fun e w' => e = .returned (.bool (decide (r ≤ k))) ∧ Below X.heap.size X w') :
    Calls Tryz.prog 171 #[.int .i64 (n : Int), .func (.func fid) #[] caps] w fun e w' => e = .returned (.int .i64 (r : Int)) ∧ Below w.heap.size w w' := by
  have HF : Hid (∀ k, k < n → ∀ X, Below w.heap.size w X → Calls Tryz.prog fid (#[.int .i64 ((k : Nat) : Int)] ++ caps) X fun e w' => e = .returned (.bool (decide (r ≤ k))) ∧ Below X.heap.size X w') := hf
  have HR0 : Hid (r ≤ n) := hr
  clear hf hr
  go_enter Tryz.func171, Tryz.ntmps171
  go_wp2
  go_loopw [5, 6] (fun v u wr => ∃ i j : Nat, i ≤ j ∧ j ≤ n ∧ v = .int .i64 i ∧ u = .int .i64 j ∧ Hid (i ≤ r ∧ r ≤ j ∧ Below w.heap.size w wr)) (fun v u _ => (intOf u).toNat - (intOf v).toNat)
  case atStart => exact ⟨0, n, by omega, by omega, rfl, rfl, by omega, HR0.out, Below.refl _ _⟩
  case round =>
    obtain ⟨i, j, hij, hjn, rfl, rfl, HR⟩ := hrel
    have HB : Hid (Below w.heap.size w wr) := HR.out.2.2
    by_cases h : i < j
    rotate_left
    · have e1 : i = r := by have := HR.out; omega
      subst e1
      have h0 : ¬ ((i : Int) < (j : Int)) := by omega
      clear HR
      go_wp2
      go_ret
      exact ⟨rfl, HB.out⟩
    have h' : (i : Int) < (j : Int) := by omega
    obtain ⟨h3, hh3⟩ : ∃ m : Nat, m = (i + j) / 2 := ⟨_, rfl⟩
    have hm1 : i ≤ h3 := by omega
    have hm2 : h3 < j := by omega
    have hw1 : IntKind.i64.wrap ((i : Int) + (j : Int)) = (i : Int) + (j : Int) := by rw [IntKind.wrap_i64]; omega
    have HFm : Hid _ := HF.out h3 (by omega)
    have HH : Hid (h3 = (i + j) / 2) := hh3
    clear hh3
    go_wp2_with fail
    have he2 : ((i : Int) + (j : Int)) / 2 = (h3 : Int) := by have := HH.out; omega
    rw [he2]
    refine (HFm.out _ HB.out).mono ?_
    rintro u w1 ⟨rfl, hb1⟩
    have HB1 : Hid (Below w.heap.size w w1) := HB.out.trans (hb1.mono HB.out.size)
    clear hb1 he2 hw1
    by_cases g : r ≤ h3
    · have HT : Hid (i ≤ r ∧ r ≤ h3 ∧ Below w.heap.size w w1) := ⟨HR.out.1, g, HB1.out⟩
      have hd : decide (r ≤ h3) = true := decide_eq_true g
      rw [hd]
      clear HR HH HFm g hd
      go_wp2
      go_roundw
      case rel => exact ⟨i, h3, hm1, by omega, rfl, rfl, HT.out⟩
      case measure => simp [intOf]; omega
    · have HT : Hid (h3 + 1 ≤ r ∧ r ≤ j ∧ Below w.heap.size w w1) := ⟨by omega, HR.out.2.1, HB1.out⟩
      have hd : decide (r ≤ h3) = false := decide_eq_false g
      rw [hd]
      clear HR HH HFm g hd
      go_wp2
      go_roundw
      case rel => exact ⟨h3 + 1, j, by omega, by omega, by go_num, rfl, HT.out⟩
      case measure => simp [intOf]; omega
set_option maxRecDepth 20000 in
theorem e_fs1 : ∀ args (v : World), (callFunc 172 args).run Tryz.prog v = .ok (.enter 172 args) v := enters_of Tryz.func172 (by kernel_rfl) rfl
set_option maxRecDepth 20000 in
theorem e_sa1 : ∀ args (v : World), (callFunc 173 args).run Tryz.prog v = .ok (.enter 173 args) v := enters_of Tryz.func173 (by kernel_rfl) rfl
set_option maxRecDepth 20000 in
theorem e_nt1 : ∀ args (v : World), (callFunc 105 args).run Tryz.prog v = .ok (.enter 105 args) v := enters_of Tryz.func105 (by kernel_rfl) rfl
set_option maxRecDepth 40000 in
set_option maxHeartbeats 4000000 in
theorem next_one (x : slT) (p : Int) (B : Nat) (X : World) (hc : X.cell? ⟨B, 0, none⟩ = some (.int .i64 p)) :
    Calls Tryz.prog 105 #[slV x, .pointer (some ⟨B, 0, none⟩)] X fun e w' => e = .returned (.bool (decide (p ≤ x.2.1))) ∧ Below X.heap.size X w' := by
  obtain ⟨x1, x2, x3⟩ := x
  have HB0 : Hid (Below X.heap.size X (X.alloc (.cells #[.int .i64 x1, .int .i64 x2, .int .i64 x3] 42))) := (Below.refl _ _).alloc (Nat.le_refl _) _
  have k0 : (X.alloc (.cells #[.int .i64 x1, .int .i64 x2, .int .i64 x3] 42)).cell? ⟨B, 0, none⟩ = some (.int .i64 p) := kept_cell HB0.out hc
  clear hc
  go_enter Tryz.func105, Tryz.ntmps105
  go_wp2
  go_ret
  exact ⟨rfl, HB0.out⟩
set_option maxRecDepth 40000 in
set_option maxHeartbeats 4000000 in
theorem slot_one (x : slT) (p : Int) (B : Nat) (X : World) (hc : X.cell? ⟨B, 0, none⟩ = some (.int .i64 p)) (hx : 0 ≤ x.2.1 ∧ 0 ≤ x.2.2 ∧ x.2.1 + x.2.2 ≤ 5000) :
    Calls Tryz.prog 173 #[slV x, .pointer (some ⟨B, 0, none⟩)] X fun e w' => e = .returned (.bool (decide (p < x.2.1 + x.2.2))) ∧ Below X.heap.size X w' := by
  obtain ⟨x1, x2, x3⟩ := x
  simp only at hx
  have HB0 : Hid (Below X.heap.size X (X.alloc (.cells #[.int .i64 x1, .int .i64 x2, .int .i64 x3] 42))) := (Below.refl _ _).alloc (Nat.le_refl _) _
  have k0 : (X.alloc (.cells #[.int .i64 x1, .int .i64 x2, .int .i64 x3] 42)).cell? ⟨B, 0, none⟩ = some (.int .i64 p) := kept_cell HB0.out hc
  have K : Hid (CellsAt (X.alloc (.cells #[.int .i64 x1, .int .i64 x2, .int .i64 x3] 42)) X.heap.size 0 [.int .i64 x1, .int .i64 x2, .int .i64 x3]) := CellsAt.new X [.int .i64 x1, .int .i64 x2, .int .i64 x3] 42 _ rfl
  have HE : Hid (∀ Y, Calls Tryz.prog 65 #[.agg #[.int .i64 x1, .int .i64 x2, .int .i64 x3]] Y fun e w' => e = .returned (.int .i64 (x2 + x3)) ∧ Below Y.heap.size Y w') := fun Y => slot_end x1 x2 x3 Y (by rw [IntKind.wrap_i64]; omega)
  obtain ⟨z, HZ⟩ : ∃ z, Hid (x2 + x3 = z) := ⟨_, rfl⟩
  rw [HZ.out] at HE
  simp only
  rw [HZ.out]
  clear hc hx
  go_enter Tryz.func173, Tryz.ntmps173
  go_wp2
  have c0 := cell0 K.out 0 rfl
  have c1 := cell0 K.out 1 rfl
  have c2 := cell0 K.out 2 rfl
  revert HB0 k0 c0 c1 c2
  clear K
  generalize X.alloc (.cells #[.int .i64 x1, .int .i64 x2, .int .i64 x3] 42) = V
  intro HB0 k0 c0 c1 c2
  have G0 := fun Y => gr_cell (W0 := V) k0 Y
  have G1 := fun Y => gr_cell (W0 := V) c0 Y
  have G2 := fun Y => gr_cell (W0 := V) c1 Y
  have G3 := fun Y => gr_cell (W0 := V) c2 Y
  have hgr := gr_some V
  refine region_alike (by kernel_rfl) (by kernel_rfl) ?_
  repeat (go_big_quiet_step (first | (go_at_call 65; exact gr_call (HE.out _))))
  refine wpQuiet_nil ?_
  intro _ hw'
  obtain ⟨X1, rfl⟩ := hw'
  have HB2 : Hid (Below X.heap.size X X1.w) := HB0.out.trans (X1.h.mono HB0.out.size)
  generalize X1.w = W2 at HB2 ⊢
  clear G0 G1 G2 G3 HE hgr
  go_wp2
  go_ret
  exact ⟨rfl, HB2.out⟩
set_option maxRecDepth 40000 in
set_option maxHeartbeats 4000000 in
theorem first_one (xs : List slT) (n k : Nat) (sa : Option Addr) (fid : Nat) (caps : Array Value) (b : Bool) (B C : Nat) (X : World) (hs : GSeg 3 X sa n (slX xs)) (hk : k < n) (hn : n ≤ 1048576) (hen : ∀ args (v : World), (callFunc fid args).run Tryz.prog v = .ok (.enter fid args) v)
    (hB : X.cell? ⟨B, 0, none⟩ = some (.func (.func fid) #[] caps)) (hC : X.cell? ⟨C, 0, none⟩ = some (.slice sa n n))
    (hf : ∀ Y, Below X.heap.size X Y → Calls Tryz.prog fid (#[slV (xs.getD k sl0)] ++ caps) Y fun e w' => e = .returned (.bool b) ∧ Below Y.heap.size Y w') :
    Calls Tryz.prog 172 #[.int .i64 (k : Int), .pointer (some ⟨B, 0, none⟩), .pointer (some ⟨C, 0, none⟩)] X fun e w' => e = .returned (.bool b) ∧ Below X.heap.size X w' := by
  obtain ⟨b1, o1, rfl, hbl1, p1⟩ := hs.at k hk
  have hk' : (k : Int) < (n : Int) := by omega
  have HF : Hid (∀ Y : Gr X, Calls Tryz.prog fid (#[slV (xs.getD k sl0)] ++ caps) Y.w fun e w' => e = .returned (.bool b) ∧ Below Y.w.heap.size Y.w w') := fun Y => hf Y.w Y.h
  simp only [slX] at p1
  generalize xs.getD k sl0 = x at p1 HF
  obtain ⟨c0, c1, c2⟩ := sl_cells p1
  obtain ⟨x1, x2, x3⟩ := x
  simp only [slV] at c0 c1 c2 HF
  clear hf hs p1 hbl1
  go_enter Tryz.func172, Tryz.ntmps172
  go_wp2
  have G0 := fun Y => gr_cell (W0 := X) c0 Y
  have G1 := fun Y => gr_cell (W0 := X) c1 Y
  have G2 := fun Y => gr_cell (W0 := X) c2 Y
  have G3 := fun Y => gr_cell (W0 := X) hB Y
  have G4 := fun Y => gr_cell (W0 := X) hC Y
  have hgr := gr_some X
  refine region_alike (by kernel_rfl) (by kernel_rfl) ?_
  repeat (go_big_quiet_step (first | (refine gr_call (HF.out _))))
  refine wpQuiet_nil ?_
  intro _ hw'
  obtain ⟨X1, rfl⟩ := hw'
  have HB2 : Hid (Below X.heap.size X X1.w) := X1.h
  generalize X1.w = W2 at HB2 ⊢
  clear G0 G1 G2 G3 G4 HF hgr
  go_wp2
  go_ret
  exact ⟨rfl, HB2.out⟩
end Go.Proofs.YtlomcdgfcocmmaaGreatDoor
