
/-
  The text of an event: what the specification's EventText returns. Conditions: numbers are ints, words are words.
-/
import Derived.Test.YthlapikcjiajgaaDoorBas
import Derived.Test.YthlapikcjiajgaaDoorEvs
import Derived.Test.YthlapikcjiajgaaDoorAlk
import Derived.Test.YthlapikcjiajgaaDoorText3
import Derived.Test.YthlapikcjiajgaaDoorNmx
import Derived.Test.YthlapikcjiajgaaDoorHxx
import Derived.Laws.Concat
namespace Go.Proofs.YthlapikcjiajgaaDoor
open Go.ChangeShapes Go.WideShapes Go.ChangeAt Go.RowKit Go.Deep
set_option linter.unusedVariables false

theorem cell0 {w : World} {b : Nat} {vs : List Value} (h : CellsAt w b 0 vs) (j : Nat) {v : Value} (hj : vs[j]? = some v) : w.cell? ⟨b, j, none⟩ = some v := by
  have := h j v hj
  rw [Nat.zero_add] at this
  exact this
namespace Ex
abbrev sp : ByteArray := ⟨#[32]⟩
abbrev dash : ByteArray := ⟨#[45]⟩
def dt (n : Int) : ByteArray := Tx.txt (Dc.dect n)
def hx (x : Int) : ByteArray := Tx.txt (Wd.hexL x 8)
def opw (k : Int) : ByteArray := if 0 ≤ k ∧ k < 33 then nm k.toNat else dash
def line (d1 d2 h3 ow d4 d5 h6 : ByteArray) : ByteArray := d1 ++ sp ++ d2 ++ sp ++ h3 ++ sp ++ ow ++ sp ++ d4 ++ sp ++ d5 ++ sp ++ h6
def evt (a c p o f u s : Int) : ByteArray := line (dt a) (dt c) (hx p) (opw o) (dt f) (dt u) (hx s)
theorem hx_size (x : Int) : (hx x).size = 8 := by unfold hx; rw [Tx.txt_size, Wd.hexL_len]
theorem dg_len : ∀ f n, (Dc.dg f n).length ≤ f
  | 0, n => by simp [Dc.dg]
  | f + 1, n => by
    by_cases h : n = 0
    · subst h; rw [Dc.dg_zero]; simp
    · rw [Dc.dg_pos _ _ h]
      have := dg_len f (n / 10)
      simp
      omega
theorem dt_size (n : Int) : (dt n).size ≤ 21 := by
  unfold dt Dc.dect
  rw [Tx.txt_size]
  split
  · simp
  · split
    · have := dg_len 20 n.natAbs
      simp
      omega
    · have := dg_len 20 n.natAbs
      omega
theorem nm_size : ∀ k, k < 33 → 1 ≤ (nm k).size ∧ (nm k).size ≤ 5 := by
  have h : ∀ k : Fin 33, 1 ≤ (nm k.1).size ∧ (nm k.1).size ≤ 5 := by decide
  intro k hk
  exact h ⟨k, hk⟩
theorem opw_size (k : Int) : 1 ≤ (opw k).size ∧ (opw k).size ≤ 5 := by
  unfold opw
  split
  · exact nm_size _ (by omega)
  · decide
end Ex
set_option maxRecDepth 40000 in
set_option maxHeartbeats 4000000 in
theorem spec_evt_op (a c p o f u s : Int) (d1 d2 h3 d4 d5 h6 q : ByteArray) (w : World) (K1 : Hid (∀ X, Calls Tryd.prog 15 #[.int .i64 a] X fun e w' => e = .returned (.string d1) ∧ w' = X)) (K2 : Hid (∀ X, Calls Tryd.prog 15 #[.int .i64 c] X fun e w' => e = .returned (.string d2) ∧ w' = X)) (K3 : Hid (∀ X, Calls Tryd.prog 16 #[.int .u32 p] X fun e w' => e = .returned (.string h3) ∧ w' = X)) (K4 : Hid (∀ X, Calls Tryd.prog 15 #[.int .i64 f] X fun e w' => e = .returned (.string d4) ∧ w' = X)) (K5 : Hid (∀ X, Calls Tryd.prog 15 #[.int .i64 u] X fun e w' => e = .returned (.string d5) ∧ w' = X)) (K6 : Hid (∀ X, Calls Tryd.prog 16 #[.int .u32 s] X fun e w' => e = .returned (.string h6) ∧ w' = X))
    (KO : Hid (∀ X, Calls Tryd.prog 14 #[.int .i64 o] X fun e w' => e = .returned (.string q) ∧ Below X.heap.size X w'))
    (hq : q.toList.isEmpty = false) (z1 : d1.size ≤ 30) (z2 : d2.size ≤ 30) (z3 : h3.size ≤ 30) (z4 : d4.size ≤ 30) (z5 : d5.size ≤ 30) (z6 : h6.size ≤ 30) (zq : q.size ≤ 30) :
    Calls Tryd.prog 6 #[.agg #[.int .i64 a, .int .i64 c, .int .u32 p, .int .i64 o, .int .i64 f, .int .i64 u, .int .u32 s]] w fun e w' => e = .returned (.string (Ex.line d1 d2 h3 q d4 d5 h6)) ∧ Below w.heap.size w w' := by
  unfold Ex.line
  have HR : Hid (CellsAt (w.alloc (.cells #[.int .i64 a, .int .i64 c, .int .u32 p, .int .i64 o, .int .i64 f, .int .i64 u, .int .u32 s] 26)) w.heap.size 0 [.int .i64 a, .int .i64 c, .int .u32 p, .int .i64 o, .int .i64 f, .int .i64 u, .int .u32 s]) := CellsAt.new w [.int .i64 a, .int .i64 c, .int .u32 p, .int .i64 o, .int .i64 f, .int .i64 u, .int .u32 s] 26 _ rfl
  have HB : Hid (Below w.heap.size w (w.alloc (.cells #[.int .i64 a, .int .i64 c, .int .u32 p, .int .i64 o, .int .i64 f, .int .i64 u, .int .u32 s] 26))) := (Below.refl _ _).alloc (Nat.le_refl _) _
  have e0 := cell0 HR.out 0 rfl
  have e1 := cell0 HR.out 1 rfl
  have e2 := cell0 HR.out 2 rfl
  have e3 := cell0 HR.out 3 rfl
  have e4 := cell0 HR.out 4 rfl
  have e5 := cell0 HR.out 5 rfl
  have e6 := cell0 HR.out 6 rfl
  go_enter Tryd.func6, Tryd.ntmps6
  go_wp2_with fail
  refine (KO.out _).mono ?_
  rintro e W1 ⟨rfl, hb1⟩
  have HR1 : Hid (CellsAt W1 w.heap.size 0 [.int .i64 a, .int .i64 c, .int .u32 p, .int .i64 o, .int .i64 f, .int .i64 u, .int .u32 s]) := HR.out.below hb1
  have HB1 : Hid (Below w.heap.size w W1) := HB.out.trans (hb1.mono HB.out.size)
  clear e0 e1 e2 e3 e4 e5 e6 hb1 HR HB KO
  have e0 := cell0 HR1.out 0 rfl
  have e1 := cell0 HR1.out 1 rfl
  have e2 := cell0 HR1.out 2 rfl
  have e3 := cell0 HR1.out 3 rfl
  have e4 := cell0 HR1.out 4 rfl
  have e5 := cell0 HR1.out 5 rfl
  have e6 := cell0 HR1.out 6 rfl
  go_wp2
  replace e0 := fun X => gr_cell e0 X
  replace e1 := fun X => gr_cell e1 X
  replace e2 := fun X => gr_cell e2 X
  replace e3 := fun X => gr_cell e3 X
  replace e4 := fun X => gr_cell e4 X
  replace e5 := fun X => gr_cell e5 X
  replace e6 := fun X => gr_cell e6 X
  have hgr := gr_some W1
  refine region_alike (by kernel_rfl) (by kernel_rfl) ?_
  repeat (go_big_quiet_step (first | (go_at_call_of 15 (Value.int IntKind.i64 a); exact gr_same (K1.out _)) | (go_at_call_of 15 (Value.int IntKind.i64 c); exact gr_same (K2.out _)) | (go_at_call_of 16 (Value.int IntKind.u32 p); exact gr_same (K3.out _)) | (go_at_call_of 15 (Value.int IntKind.i64 f); exact gr_same (K4.out _)) | (go_at_call_of 15 (Value.int IntKind.i64 u); exact gr_same (K5.out _)) | (go_at_call_of 16 (Value.int IntKind.u32 s); exact gr_same (K6.out _))))
  refine wpQuiet_nil ?_
  intro _ hw'
  obtain ⟨X1, rfl⟩ := hw'
  have hb2 := X1.h
  clear hgr e0 e1 e2 e3 e4 e5 e6
  generalize X1.w = W2 at hb2 ⊢
  have HB2 : Hid (Below w.heap.size w W2) := HB1.out.trans (hb2.mono HB1.out.size)
  clear hb2
  go_wp2
  go_ret
  exact ⟨rfl, HB2.out⟩
set_option maxRecDepth 40000 in
set_option maxHeartbeats 4000000 in
theorem spec_evt_no (a c p o f u s : Int) (d1 d2 h3 d4 d5 h6 q : ByteArray) (w : World) (K1 : Hid (∀ X, Calls Tryd.prog 15 #[.int .i64 a] X fun e w' => e = .returned (.string d1) ∧ w' = X)) (K2 : Hid (∀ X, Calls Tryd.prog 15 #[.int .i64 c] X fun e w' => e = .returned (.string d2) ∧ w' = X)) (K3 : Hid (∀ X, Calls Tryd.prog 16 #[.int .u32 p] X fun e w' => e = .returned (.string h3) ∧ w' = X)) (K4 : Hid (∀ X, Calls Tryd.prog 15 #[.int .i64 f] X fun e w' => e = .returned (.string d4) ∧ w' = X)) (K5 : Hid (∀ X, Calls Tryd.prog 15 #[.int .i64 u] X fun e w' => e = .returned (.string d5) ∧ w' = X)) (K6 : Hid (∀ X, Calls Tryd.prog 16 #[.int .u32 s] X fun e w' => e = .returned (.string h6) ∧ w' = X))
    (KO : Hid (∀ X, Calls Tryd.prog 14 #[.int .i64 o] X fun e w' => e = .returned (.string q) ∧ Below X.heap.size X w'))
    (hq : q.toList.isEmpty = true) (z1 : d1.size ≤ 30) (z2 : d2.size ≤ 30) (z3 : h3.size ≤ 30) (z4 : d4.size ≤ 30) (z5 : d5.size ≤ 30) (z6 : h6.size ≤ 30) (zq : q.size ≤ 30) :
    Calls Tryd.prog 6 #[.agg #[.int .i64 a, .int .i64 c, .int .u32 p, .int .i64 o, .int .i64 f, .int .i64 u, .int .u32 s]] w fun e w' => e = .returned (.string (Ex.line d1 d2 h3 Ex.dash d4 d5 h6)) ∧ Below w.heap.size w w' := by
  unfold Ex.line
  have HR : Hid (CellsAt (w.alloc (.cells #[.int .i64 a, .int .i64 c, .int .u32 p, .int .i64 o, .int .i64 f, .int .i64 u, .int .u32 s] 26)) w.heap.size 0 [.int .i64 a, .int .i64 c, .int .u32 p, .int .i64 o, .int .i64 f, .int .i64 u, .int .u32 s]) := CellsAt.new w [.int .i64 a, .int .i64 c, .int .u32 p, .int .i64 o, .int .i64 f, .int .i64 u, .int .u32 s] 26 _ rfl
  have HB : Hid (Below w.heap.size w (w.alloc (.cells #[.int .i64 a, .int .i64 c, .int .u32 p, .int .i64 o, .int .i64 f, .int .i64 u, .int .u32 s] 26))) := (Below.refl _ _).alloc (Nat.le_refl _) _
  have e0 := cell0 HR.out 0 rfl
  have e1 := cell0 HR.out 1 rfl
  have e2 := cell0 HR.out 2 rfl
  have e3 := cell0 HR.out 3 rfl
  have e4 := cell0 HR.out 4 rfl
  have e5 := cell0 HR.out 5 rfl
  have e6 := cell0 HR.out 6 rfl
  go_enter Tryd.func6, Tryd.ntmps6
  go_wp2_with fail
  refine (KO.out _).mono ?_
  rintro e W1 ⟨rfl, hb1⟩
  have HR1 : Hid (CellsAt W1 w.heap.size 0 [.int .i64 a, .int .i64 c, .int .u32 p, .int .i64 o, .int .i64 f, .int .i64 u, .int .u32 s]) := HR.out.below hb1
  have HB1 : Hid (Below w.heap.size w W1) := HB.out.trans (hb1.mono HB.out.size)
  clear e0 e1 e2 e3 e4 e5 e6 hb1 HR HB KO
  have e0 := cell0 HR1.out 0 rfl
  have e1 := cell0 HR1.out 1 rfl
  have e2 := cell0 HR1.out 2 rfl
  have e3 := cell0 HR1.out 3 rfl
  have e4 := cell0 HR1.out 4 rfl
  have e5 := cell0 HR1.out 5 rfl
  have e6 := cell0 HR1.out 6 rfl
  go_wp2
  replace e0 := fun X => gr_cell e0 X
  replace e1 := fun X => gr_cell e1 X
  replace e2 := fun X => gr_cell e2 X
  replace e3 := fun X => gr_cell e3 X
  replace e4 := fun X => gr_cell e4 X
  replace e5 := fun X => gr_cell e5 X
  replace e6 := fun X => gr_cell e6 X
  have hgr := gr_some W1
  refine region_alike (by kernel_rfl) (by kernel_rfl) ?_
  repeat (go_big_quiet_step (first | (go_at_call_of 15 (Value.int IntKind.i64 a); exact gr_same (K1.out _)) | (go_at_call_of 15 (Value.int IntKind.i64 c); exact gr_same (K2.out _)) | (go_at_call_of 16 (Value.int IntKind.u32 p); exact gr_same (K3.out _)) | (go_at_call_of 15 (Value.int IntKind.i64 f); exact gr_same (K4.out _)) | (go_at_call_of 15 (Value.int IntKind.i64 u); exact gr_same (K5.out _)) | (go_at_call_of 16 (Value.int IntKind.u32 s); exact gr_same (K6.out _))))
  refine wpQuiet_nil ?_
  intro _ hw'
  obtain ⟨X1, rfl⟩ := hw'
  have hb2 := X1.h
  clear hgr e0 e1 e2 e3 e4 e5 e6
  generalize X1.w = W2 at hb2 ⊢
  have HB2 : Hid (Below w.heap.size w W2) := HB1.out.trans (hb2.mono HB1.out.size)
  clear hb2
  go_wp2
  go_ret
  exact ⟨rfl, HB2.out⟩
theorem spec_evt (a c p o f u s : Int) (w : World) (ha : -9223372036854775808 ≤ a ∧ a ≤ 9223372036854775807) (hc : -9223372036854775808 ≤ c ∧ c ≤ 9223372036854775807) (hp : 0 ≤ p ∧ p ≤ 4294967295)
    (hf : -9223372036854775808 ≤ f ∧ f ≤ 9223372036854775807) (hu : -9223372036854775808 ≤ u ∧ u ≤ 9223372036854775807) (hs : 0 ≤ s ∧ s ≤ 4294967295) :
    Calls Tryd.prog 6 #[.agg #[.int .i64 a, .int .i64 c, .int .u32 p, .int .i64 o, .int .i64 f, .int .i64 u, .int .u32 s]] w fun e w' => e = .returned (.string (Ex.evt a c p o f u s)) ∧ Below w.heap.size w w' := by
  unfold Ex.evt
  have zz : ∀ n, (Ex.dt n).size ≤ 30 := fun n => Nat.le_trans (Ex.dt_size n) (by omega)
  have zh : ∀ n, (Ex.hx n).size ≤ 30 := fun n => by rw [Ex.hx_size]; omega
  by_cases ho : 0 ≤ o ∧ o < 33
  · have e : Ex.opw o = nm o.toNat := by unfold Ex.opw; rw [if_pos ho]
    have hk := Ex.nm_size o.toNat (by omega)
    rw [e]
    have eo : (o.toNat : Int) = o := by omega
    refine spec_evt_op a c p o f u s _ _ _ _ _ _ (nm o.toNat) w (fun X => spec_text a X ha.1 ha.2) (fun X => spec_text c X hc.1 hc.2) (fun X => spec_hex p X hp.1 hp.2) (fun X => spec_text f X hf.1 hf.2) (fun X => spec_text u X hu.1 hu.2) (fun X => spec_hex s X hs.1 hs.2) (fun X => ?_) (Tx.empty_no _ (by omega)) (zz _) (zz _) (zh _) (zz _) (zz _) (zh _) (by omega)
    have := spec_name o.toNat _ X (by omega) rfl
    rw [eo] at this
    exact this
  · have e : Ex.opw o = Ex.dash := by unfold Ex.opw; rw [if_neg ho]
    rw [e]
    exact spec_evt_no a c p o f u s _ _ _ _ _ _ ⟨#[]⟩ w (fun X => spec_text a X ha.1 ha.2) (fun X => spec_text c X hc.1 hc.2) (fun X => spec_hex p X hp.1 hp.2) (fun X => spec_text f X hf.1 hf.2) (fun X => spec_text u X hu.1 hu.2) (fun X => spec_hex s X hs.1 hs.2) (fun X => (spec_name_no o X (by omega)).mono fun e w' ⟨he, hw⟩ => ⟨he, by rw [hw]; exact Below.refl _ _⟩) (Tx.empty_yes _ rfl) (zz _) (zz _) (zh _) (zz _) (zz _) (zh _) (by decide)
end Go.Proofs.YthlapikcjiajgaaDoor
